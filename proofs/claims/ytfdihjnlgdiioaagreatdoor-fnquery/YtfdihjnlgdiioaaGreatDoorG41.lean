import Derived.Test.YtfdihjnlgdiioaaGreatDoorG38
namespace Go.Proofs.YtfdihjnlgdiioaaGreatDoor.dB
open Go.ChangeShapes Go.WideShapes Go.ChangeAt Go.RowKit
set_option linter.unusedVariables false
set_option linter.unusedSimpArgs false
def dQ (xs:List Seg):jM:=⟨aB xs ⟨#[77,83,65]⟩ 1 1,aB xs ⟨#[77,83,65]⟩ 2 1,jB (aB xs ⟨#[69,82,82]⟩ 3 1).data.toList,aB xs ⟨#[81,65,75]⟩ 1 1,rowsOf xs,aB xs ⟨#[68,83,67]⟩ 1 1⟩
open Classical in
noncomputable def lM (xs:List Seg):jM × Bool:=if encoded xs≠⟨#[]⟩∧encoded xs=encoded (fE (dQ xs)) then (dQ xs,true) else (yj,false)
theorem JW (xs:List Seg):gq xs=[]∨(gq xs=xs∧dW xs=true):=by
 unfold gq
 cases h:dW xs
 ·exact .inl rfl
 ·exact .inr ⟨rfl,rfl⟩
theorem qd (r:jM):fE r=[]∨(dW (fE r)=true∧iD r=true∧fE r=lJ r):=by
 unfold fE
 cases h:iD r
 ·exact .inl rfl
 ·simp only[if_true]
  rcases JW (lJ r) with h1|⟨h1,h2⟩
  ·exact .inl h1
  ·exact .inr ⟨by rw[h1];exact h2,by simp,h1⟩
theorem GL {xs:List Seg} (h:dW xs=true):encoded xs≠⟨#[]⟩:=fun e=>by
 rw[jI h] at e
 have e1:=congrArg (fun b:ByteArray=>b.data.toList) e
 exact U7 h (by simpa using e1)
theorem DC {xs:List Seg} (h:encoded xs≠⟨#[]⟩):dW xs=true:=by
 cases hb:dW xs
 ·exact absurd (rE hb) h
 ·rfl
theorem JX (control tag:ByteArray) (rows:List ByteArray) (pointer:ByteArray):aB (kH control tag rows pointer) ⟨#[69,82,82]⟩ 3 1=⟨#[]⟩:=by
 have hn:(kH control tag rows pointer).find? (fun s=>s.name.toList == (⟨#[69,82,82]⟩:ByteArray).toList)=none:=by
  rw[List.find?_eq_none]
  intro x hx
  unfold kH at hx
  simp only[List.mem_append,List.mem_cons,List.not_mem_nil,or_false,List.mem_map] at hx
  have key:∀n:ByteArray,n.data.toList≠[69,82,82]→¬(n.toList == (⟨#[69,82,82]⟩:ByteArray).toList)=true:=fun n h e=>h (by have:=eq_of_beq e;rw[ByteArray.toList_eq,ByteArray.toList_eq] at this;exact this)
  rcases hx with((rfl|rfl|rfl)|⟨s,_,rfl⟩)|hx
  ·exact key _ (by decide)
  ·exact key _ (by show (⟨#[77,83,65]⟩:ByteArray).data.toList≠_;decide)
  ·exact key _ (by show (⟨#[81,65,75]⟩:ByteArray).data.toList≠_;decide)
  ·exact key _ (by show (⟨#[82,68,84]⟩:ByteArray).data.toList≠_;decide)
  ·unfold sN at hx
   split at hx
   ·cases hx
   ·rw[List.mem_singleton.1 hx]
    exact key _ (by show (⟨#[68,83,67]⟩:ByteArray).data.toList≠_;decide)
 unfold aB
 rw[hn]
theorem DF {r:jM} (h:iD r=true):(sK r.ack=true→r.code=0)∧(sK r.ack=false→1≤r.code∧r.code≤999):=by
 unfold iD at h
 simp only[Bool.and_eq_true] at h
 refine⟨fun ha=>?_,fun ha=>?_⟩
 ·rw[ha] at h
  simpa using h.2.2.2
 ·rw[ha] at h
  simp only[Bool.false_eq_true,if_false,Bool.and_eq_true,decide_eq_true_eq] at h
  exact⟨h.2.2.2.2.1,h.2.2.2.2.2.1⟩
theorem DI {xs:List Seg} (h:(bX xs).code=(dQ xs).code):bX xs=dQ xs:=by
 unfold bX dQ at h ⊢
 dsimp only at h
 rw[h]
theorem JY (xs:List Seg):(fE (bX xs)≠[]∧fE (bX xs)=xs) ↔ (encoded xs≠⟨#[]⟩∧encoded xs=encoded (fE (dQ xs))):=by
 have eI:(encoded xs≠⟨#[]⟩∧encoded xs=encoded (fE (dQ xs))) ↔ (fE (dQ xs)≠[]∧fE (dQ xs)=xs):=by
  constructor
  ·rintro⟨h1,h2⟩
   have m1:=DC h1
   have m2:dW (fE (dQ xs))=true:=DC (by rw[←h2];exact h1)
   have e:=Iw m1 m2 h2
   refine⟨fun h=>?_,e.symm⟩
   rw[h] at m2
   exact absurd m2 (by decide)
  ·rintro⟨h1,h2⟩
   rcases qd (dQ xs) with h|⟨h,_,_⟩
   ·exact absurd h h1
   ·rw[h2] at h
    exact⟨GL h,by rw[h2]⟩
 rw[eI]
 have hack:(bX xs).ack=(dQ xs).ack:=rfl
 have cS:(bX xs).code=if sK (bX xs).ack then 0 else iG (aB xs ⟨#[69,82,82]⟩ 3 1).data.toList:=rfl
 have cI:(dQ xs).code=jB (aB xs ⟨#[69,82,82]⟩ 3 1).data.toList:=rfl
 constructor
 ·rintro⟨h1,h2⟩
  have e:bX xs=dQ xs:=by
   apply DI
   rcases qd (bX xs) with h|⟨_,ok,sp⟩
   ·exact absurd h h1
   ·cases ha:sK (bX xs).ack
    ·have:=(DF ok).2 ha
     rw[cS,ha] at this
     rw[cS,ha,cI]
     exact tY _ (.inl (by simpa using this.1))
    ·have hx:xs=kH (bX xs).control (bX xs).tag (bX xs).rows (bX xs).pointer:=by
      rw[sp] at h2
      unfold lJ at h2
      rw[ha] at h2
      exact h2.symm
     have hg:aB xs ⟨#[69,82,82]⟩ 3 1=⟨#[]⟩:=by rw[hx];exact JX _ _ _ _
     rw[cS,ha,cI,hg]
     rfl
  rw[←e]
  exact⟨h1,h2⟩
 ·rintro⟨h1,h2⟩
  have e:bX xs=dQ xs:=by
   apply DI
   rcases qd (dQ xs) with h|⟨_,ok,sp⟩
   ·exact absurd h h1
   ·cases ha:sK (bX xs).ack
    ·have:=(DF ok).2 ha
     rw[cI] at this
     rw[cS,ha,cI]
     exact tY _ (.inr ⟨this.1,by omega⟩)
    ·have:=(DF ok).1 ha
     rw[cS,ha,this]
     rfl
  rw[e]
  exact⟨h1,h2⟩
theorem Fw (xs:List Seg):z8 xs=lM xs:=by
 unfold lM
 by_cases h:encoded xs≠⟨#[]⟩∧encoded xs=encoded (fE (dQ xs))
 ·rw[if_pos h]
  have h':=(JY xs).2 h
  rw[zn h'.1 h'.2]
  have e:bX xs=dQ xs:=by
   apply DI
   have cS:(bX xs).code=if sK (bX xs).ack then 0 else iG (aB xs ⟨#[69,82,82]⟩ 3 1).data.toList:=rfl
   have cI:(dQ xs).code=jB (aB xs ⟨#[69,82,82]⟩ 3 1).data.toList:=rfl
   rcases qd (bX xs) with h1|⟨_,ok,sp⟩
   ·exact absurd h1 h'.1
   ·cases ha:sK (bX xs).ack
    ·have:=(DF ok).2 ha
     rw[cS,ha] at this
     rw[cS,ha,cI]
     exact tY _ (.inl (by simpa using this.1))
    ·have hx:xs=kH (bX xs).control (bX xs).tag (bX xs).rows (bX xs).pointer:=by
      have h2:=h'.2
      rw[sp] at h2
      unfold lJ at h2
      rw[ha] at h2
      exact h2.symm
     have hg:aB xs ⟨#[69,82,82]⟩ 3 1=⟨#[]⟩:=by rw[hx];exact JX _ _ _ _
     rw[cS,ha,cI,hg]
     rfl
  rw[e]
 ·rw[if_neg h]
  exact JG fun h'=>h ((JY xs).1 h')
end Go.Proofs.YtfdihjnlgdiioaaGreatDoor.dB
namespace Go.Proofs.YtfdihjnlgdiioaaGreatDoor.dB
set_option linter.unusedVariables false
set_option linter.unusedSimpArgs false
theorem Fx (n n2:ByteArray) (f c:Int) (hn:n2.data.toList≠n.data.toList) (rest:List Seg):∀(xs:List Seg),(∀s∈xs,s.name=n2)→aB (xs++rest) n f c=aB rest n f c
 | [],_=>rfl
 | ⟨a,fs⟩ :: xs,h=>by
  have ha:a=n2:=h ⟨a,fs⟩ (by simp)
  subst ha
  rw[List.cons_append,bD _ _ _ _ _ _ hn]
  exact Fx n a f c hn rest xs fun s hs=>h s (by simp[hs])
theorem WM {n:ByteArray} {fs:List Field} (h:n.data.toList≠[82,68,84]):wT ⟨n,fs⟩=false:=by
 unfold wT
 rw[ByteArray.toList_eq]
 simpa using h
theorem WO (s:ByteArray):wT (iZ s)=true:=by
 unfold wT iZ
 rw[ByteArray.toList_eq]
 rfl
theorem Fy:∀rows:List ByteArray,rowsOf (rows.map iZ)=rows
 | []=>rfl
 | a :: t=>by
  have ih:=Fy t
  unfold rowsOf at ih ⊢
  rw[List.map_cons,List.filter_cons_of_pos (WO a),List.map_cons,ih]
  have e:aB [iZ a] ⟨#[82,68,84]⟩ 1 1=a:=iP ⟨#[82,68,84]⟩ [ah a] [] 0 a (kD (by decide)) rfl
  rw[e]
theorem Tz (xs ys:List Seg):rowsOf (xs++ys)=rowsOf xs++rowsOf ys:=by
 unfold rowsOf
 rw[List.filter_append,List.map_append]
theorem lN {n:ByteArray} {fs:List Field} (xs:List Seg) (h:n.data.toList≠[82,68,84]):rowsOf (⟨n,fs⟩ :: xs)=rowsOf xs:=by
 unfold rowsOf
 rw[List.filter_cons_of_neg (by rw[WM h];decide)]
theorem aaw {s:ByteArray} (h:sK s=true):s=⟨#[65,65]⟩:=by
 unfold sK at h
 have h1:=eq_of_beq h
 rw[ByteArray.toList_eq] at h1
 apply ByteArray.ext
 apply Array.ext'
 exact h1
theorem Mf (r:jM) (hok:iD r=true):bX (lJ r)=r:=by
 have hc:=DF hok
 obtain⟨ack,control,code,tag,rows,pointer⟩:=r
 cases ha:sK ack
 ·have hs:lJ ⟨ack,control,code,tag,rows,pointer⟩=nU ack control tag (bR code.toNat):=by unfold lJ;simp only[ha];rfl
  have hcode:=hc.2 ha
  have hrest:rows.length=0∧pointer.size=0:=by
   unfold iD at hok
   simp only[ha,Bool.false_eq_true,if_false,Bool.and_eq_true,decide_eq_true_eq] at hok
   exact⟨hok.2.2.2.2.2.2.1,hok.2.2.2.2.2.2.2⟩
  have g1:aB (nU ack control tag (bR code.toNat)) ⟨#[77,83,65]⟩ 1 1=ack:=by
   unfold nU
   rw[bD _ _ _ _ _ _ (by decide)];exact iP _ _ _ 0 _ (kD (by decide)) rfl
  have g2:aB (nU ack control tag (bR code.toNat)) ⟨#[77,83,65]⟩ 2 1=control:=by
   unfold nU
   rw[bD _ _ _ _ _ _ (by decide)];exact iP _ _ _ 1 _ (kD (by decide)) rfl
  have g3:aB (nU ack control tag (bR code.toNat)) ⟨#[69,82,82]⟩ 3 1=bR code.toNat:=by
   unfold nU
   rw[bD _ _ _ _ _ _ (by decide),bD _ _ _ _ _ _ (by decide)];exact iP _ _ _ 2 _ (kD (by decide)) rfl
  have g4:aB (nU ack control tag (bR code.toNat)) ⟨#[81,65,75]⟩ 1 1=tag:=by
   unfold nU
   rw[bD _ _ _ _ _ _ (by decide),bD _ _ _ _ _ _ (by decide),bD _ _ _ _ _ _ (by decide)];exact iP _ _ _ 0 _ (kD (by decide)) rfl
  have g5:aB (nU ack control tag (bR code.toNat)) ⟨#[68,83,67]⟩ 1 1=⟨#[]⟩:=by
   unfold nU
   rw[bD _ _ _ _ _ _ (by decide),bD _ _ _ _ _ _ (by decide),bD _ _ _ _ _ _ (by decide),bD _ _ _ _ _ _ (by decide)];rfl
  have g6:rowsOf (nU ack control tag (bR code.toNat))=[]:=by
   unfold nU
   rw[lN _ (by decide),lN _ (by decide),lN _ (by decide),lN _ (by decide)];rfl
  have hdn:iG (bR code.toNat).data.toList=code:=by
   show iG (Lib.decDigits code.toNat).toArray.toList=code
   have:=BN code.toNat (by simp only at hcode;omega)
   simp only[List.toList_toArray]
   rw[this]
   simp only at hcode
   omega
  rw[hs]
  unfold bX
  rw[g1,g2,g3,g4,g5,g6,hdn,ha,Dr hrest.2,List.eq_nil_of_length_eq_zero hrest.1]
  rfl
 ·have hs:lJ ⟨ack,control,code,tag,rows,pointer⟩=kH control tag rows pointer:=by unfold lJ;simp only[ha];rfl
  have hcode:code=0:=hc.1 ha
  have hack:=aaw ha
  have e:kH control tag rows pointer=⟨⟨#[77,83,72]⟩,aI [⟨#[82,83,80]⟩,⟨#[90,48,49]⟩] ⟨#[]⟩⟩ :: ⟨⟨#[77,83,65]⟩,ay List.isEmpty [ah ⟨#[65,65]⟩,ah control]⟩ :: ⟨⟨#[81,65,75]⟩,ay List.isEmpty [ah tag,ah ⟨#[79,75]⟩]⟩ :: (rows.map iZ++sN pointer):=rfl
  have g1:aB (kH control tag rows pointer) ⟨#[77,83,65]⟩ 1 1=⟨#[65,65]⟩:=by
   rw[e,bD _ _ _ _ _ _ (by decide)];exact iP _ _ _ 0 _ (kD (by decide)) rfl
  have g2:aB (kH control tag rows pointer) ⟨#[77,83,65]⟩ 2 1=control:=by
   rw[e,bD _ _ _ _ _ _ (by decide)];exact iP _ _ _ 1 _ (kD (by decide)) rfl
  have g4:aB (kH control tag rows pointer) ⟨#[81,65,75]⟩ 1 1=tag:=by
   rw[e,bD _ _ _ _ _ _ (by decide),bD _ _ _ _ _ _ (by decide)];exact iP _ _ _ 0 _ (kD (by decide)) rfl
  have g5:aB (kH control tag rows pointer) ⟨#[68,83,67]⟩ 1 1=pointer:=by
   rw[e,bD _ _ _ _ _ _ (by decide),bD _ _ _ _ _ _ (by decide),bD _ _ _ _ _ _ (by decide),Fx _ ⟨#[82,68,84]⟩ _ _ (by decide) _ _ (fun s hs=>by obtain⟨x,_,rfl⟩:=List.mem_map.1 hs;rfl)]
   unfold sN
   split
   ·rename_i h0
    rw[Dr h0]
    rfl
   ·exact iP _ _ _ 0 _ (kD (by decide)) rfl
  have g6:rowsOf (kH control tag rows pointer)=rows:=by
   rw[e,lN _ (by decide),lN _ (by decide),lN _ (by decide),Tz,Fy]
   unfold sN
   split
   ·exact List.append_nil _
   ·unfold wO
    rw[lN _ (by decide)]
    exact List.append_nil _
  have eA:sK ⟨#[65,65]⟩=true:=by unfold sK;rw[ByteArray.toList_eq];rfl
  rw[hs]
  unfold bX
  rw[g1,g2,g4,g5,g6,eA,hack,hcode]
  rfl
theorem TA (r:jM) (h:fE r≠[]):z8 (fE r)=(r,true):=by
 rcases qd r with h1|⟨_,hok,h2⟩
 ·exact absurd h1 h
 ·have e:=Mf r hok
  rw[←h2] at e
  have:=zn (xs:=fE r) (by rw[e];exact h) (by rw[e])
  rw[this,e]
end Go.Proofs.YtfdihjnlgdiioaaGreatDoor.dB
namespace Go.Proofs.YtfdihjnlgdiioaaGreatDoor.dB
open Go.ChangeShapes Go.WideShapes Go.ChangeAt Go.RowKit
set_option linter.unusedVariables false
set_option linter.unusedSimpArgs false
theorem Nj {W:World} {B:Nat} {t:TypeId} {cs:List Value} (h:aU W B t cs.toArray) (hl:cs.length≤1000):W.ownsRow B t 1 (.slice (some ⟨B,0,none⟩) cs.length cs.length) cs.length cs :=
 ⟨by simp,.inr ⟨B,cs.length,cs.toArray,rfl,aS _,h,aS _,by unfold maxLen;omega,by simp,by simp⟩⟩
theorem WQ (s1 s2:ByteArray) (W:World) (B:Nat) (dP:aU W B 9 #[.string s1,.string s2]) (h1:s1.size≤1048576) (h2:s2.size≤1048576) (h20:s2.size≠0) :
  Calls Tryz.prog 84 #[.slice (some ⟨B,0,none⟩) 2 2] W fun e w'=>∃a c,e=.returned (.agg #[.slice a 2 c])∧∃bs,fV w' (.slice a 2 c) [s1,s2] bs∧bs.Nodup∧(∀b∈bs,W.heap.size≤b∧b<w'.heap.size)∧Below W.heap.size W w':=by
 have hsb:oG B W (.slice (some ⟨B,0,none⟩) 2 2) ([s1.data.toList,s2.data.toList].map txt):=by
  unfold oG
  have h:=Nj (cs:=[.string s1,.string s2]) dP (by simp)
  simpa [qj] using h
 refine(oJ [s1.data.toList,s2.data.toList] _ _ _ hsb (by simp) (by simp) (by intro p hp;simp at hp;rcases hp with rfl|rfl <;> simp <;> assumption)).mono ?_
 rintro e w' ⟨u,rfl,hu,hb⟩
 have e2:aK List.isEmpty [s1.data.toList,s2.data.toList]=2:=by
  unfold aK
  unfold aK
  rw[show aK List.isEmpty ([]:List (List UInt8))=0 from rfl]
  simp only
  rw[isE (s:=s2),decide_eq_false h20]
  rfl
 have hT:ay List.isEmpty [s1.data.toList,s2.data.toList]=[s1.data.toList,s2.data.toList]:=by unfold ay;rw[e2];rfl
 rw[hT] at hu
 have hu':w'.ownsRow W.heap.size 9 1 u [Value.string s1,.string s2].length [.string s1,.string s2]:=by
  unfold oG at hu
  simpa [qj] using hu
 obtain⟨h,_⟩|⟨g,cap,rfl,hg,hlt,hc⟩:=gu hu'
 ·cases h
 refine⟨_,cap,rfl,[g],⟨by simp,.inr ⟨g,0,cap,[[],[]],rfl,hlt,rfl,rfl,fun i hi hi2=>?_⟩⟩,by simp,?_,hb⟩
 ·have hc':=hc i hi
  have hi':i<2:=hi
  match i,hi' with
  | 0,_=>exact⟨hc'.1,hc'.2,by show s1.size≤_;omega,rfl⟩
  | 1,_=>exact⟨hc'.1,hc'.2,by show s2.size≤_;omega,rfl⟩
 ·intro b hb'
  simp at hb'
  subst hb'
  exact⟨hg,hlt⟩
theorem qU (s:ByteArray) (W:World) (hs:s.size≤1048576) :
  Calls Tryz.prog 197 #[.string s] W fun e w'=>∃a c,e=.returned (.agg #[.slice a (ah s).length c])∧∃bs,bP w' (.slice a (ah s).length c) (ah s) bs∧(∀b∈bs,W.heap.size≤b∧b<w'.heap.size)∧Below W.heap.size W w':=by
 refine(dx s W hs).mono ?_
 rintro e w' ⟨u,rfl,bs,hO,hn,hf,hb⟩
 obtain⟨a,c,rfl⟩:=dN hO
 exact⟨a,c,rfl,bs,hO,fun b h=>⟨hf b h,bS.lt dJ hO b h⟩,hb⟩
theorem Nk (name:ByteArray) (vs:List Value) (xs:List Field) (bss:List (List Nat)) (B:Nat) (W:World) (dP:aU W B 57 vs.toArray) (hlen:vs.length=xs.length) (hlb:bss.length=xs.length) (hx:∀i (h:i<xs.length) (h1:i<vs.length) (h2:i<bss.length),bP W vs[i] xs[i] bss[i]) (hp:0<vs.length) (hl:vs.length≤100) (hz:∀x∈xs,x.length≤1048576) (n:Nat) (hn:n=vs.length) :
  Calls Tryz.prog 86 #[.string name,.slice (some ⟨B,0,none⟩) n n] W fun e w'=>∃a c,e=.returned (.agg #[.string name,.slice a (ay List.isEmpty xs).length c])∧∃bs,aN w' (.slice a (ay List.isEmpty xs).length c) (ay List.isEmpty xs) bs∧(∀b∈bs,b<w'.heap.size∧(W.heap.size≤b∨b∈bss.flatten))∧Below W.heap.size W w':=by
 subst hn
 have hL:Lens vs xs:=⟨hlen,fun i h h2=>dN (hx i h2 h (by omega))⟩
 refine(oK (β:=lW) name xs vs B _ _ (Nj dP (by omega)) hL (fun h=>by omega) (by omega) (fun x hx=>by have:=hz x hx;omega)).mono ?_
 rintro e w' ⟨u,rfl,hu,hb⟩
 have hk:=kE List.isEmpty xs
 obtain⟨m,hm⟩:∃m,aK List.isEmpty xs=m:=⟨_,rfl⟩
 have hT:ay List.isEmpty xs=xs.take m:=by unfold ay;rw[hm]
 rw[hm] at hu hk
 have hA:∃bs,aN w' u (xs.take m) bs∧∀b∈bs,b<w'.heap.size∧(W.heap.size≤b∨b∈bss.flatten):=by
  have hlen':(vs.take m).length=m:=by rw[List.length_take];omega
  have hlx:(xs.take m).length=m:=by rw[List.length_take];omega
  have ahn:(bss.take m).length=m:=by rw[List.length_take];omega
  have hu':w'.ownsRow W.heap.size 57 1 u (vs.take m).length (vs.take m):=by rw[hlen'];exact hu
  obtain⟨h0,rfl⟩|⟨g,cap,rfl,hg,hlt,hc⟩:=gu hu'
  ·have m0:m=0:=by rw[←hlen',h0];rfl
   subst m0
   exact⟨[],⟨by simp,.inl ⟨none,0,rfl,by simp,rfl⟩⟩,by simp⟩
  ·have hO:aN w' (.slice (some ⟨g,0,none⟩) (vs.take m).length cap) (xs.take m) (g :: (bss.take m).flatten):=by
    refine⟨by omega,.inr ⟨g,0,cap,bss.take m,by rw[hlen',hlx],hlt,rfl,by omega,fun i hi h2=>?_⟩⟩
    have hix:i<xs.length:=by omega
    have:=(hc i (by omega)).1
    rw[List.getElem_take] at this
    rw[List.getElem_take,List.getElem_take]
    have hOi:=hx i hix (by omega) (by omega)
    exact⟨vs[i]'(by omega),by simpa using this,bS.kept fD hOi hb.size fun d hd=>hb.block d (bS.lt dJ hOi d hd)⟩
   refine⟨_,hO,fun b hb'=>⟨bS.lt dD hO b hb',?_⟩⟩
   rw[List.mem_cons] at hb'
   rcases hb' with rfl|hb'
   ·exact .inl hg
   ·right
    rw[show bss.flatten=(bss.take m).flatten++(bss.drop m).flatten by rw[←List.flatten_append,List.take_append_drop]]
    exact List.mem_append_left _ hb'
 obtain⟨bs,hO,hbs⟩:=hA
 rw[←hT] at hO
 obtain⟨a,c,rfl⟩:=dA hO
 exact⟨a,c,rfl,bs,hO,hbs,hb⟩
theorem JZ (name:ByteArray) (u1:Value) (f1:Field) (b1:List Nat) (B:Nat) (W:World) (dP:aU W B 57 #[u1]) (h1:bP W u1 f1 b1) (z1:f1.length≤1) :
  Calls Tryz.prog 86 #[.string name,.slice (some ⟨B,0,none⟩) 1 1] W fun e w'=>∃a c,e=.returned (.agg #[.string name,.slice a (ay List.isEmpty [f1]).length c])∧∃bs,aN w' (.slice a (ay List.isEmpty [f1]).length c) (ay List.isEmpty [f1]) bs∧(∀b∈bs,b<w'.heap.size∧(W.heap.size≤b∨b∈b1))∧Below W.heap.size W w' :=
 (Nk name [u1] [f1] [b1] B W dP rfl rfl (fun i h _ _=>by
  match i,h with
  | 0,_=>exact h1) (by simp) (by simp) (fun x hx=>by rw[List.mem_singleton.1 hx];omega) 1 rfl).mono fun e w' h=>by
   obtain⟨a,c,he,bs,hO,hbs,hb⟩:=h
   exact⟨a,c,he,bs,hO,fun b hb'=>by simpa using hbs b hb',hb⟩
theorem J2 (name:ByteArray) (u1 u2:Value) (f1 f2:Field) (b1 b2:List Nat) (B:Nat) (W:World) (dP:aU W B 57 #[u1,u2]) (h1:bP W u1 f1 b1) (h2:bP W u2 f2 b2) (z1:f1.length≤1) (z2:f2.length≤1) :
  Calls Tryz.prog 86 #[.string name,.slice (some ⟨B,0,none⟩) 2 2] W fun e w'=>∃a c,e=.returned (.agg #[.string name,.slice a (ay List.isEmpty [f1,f2]).length c])∧∃bs,aN w' (.slice a (ay List.isEmpty [f1,f2]).length c) (ay List.isEmpty [f1,f2]) bs∧(∀b∈bs,b<w'.heap.size∧(W.heap.size≤b∨b∈b1∨b∈b2))∧Below W.heap.size W w' :=
 (Nk name [u1,u2] [f1,f2] [b1,b2] B W dP rfl rfl (fun i h _ _=>by
  match i,h with
  | 0,_=>exact h1
  | 1,_=>exact h2) (by simp) (by simp) (fun x hx=>by
   simp only[List.mem_cons,List.not_mem_nil,or_false] at hx
   rcases hx with rfl|rfl <;> omega) 2 rfl).mono fun e w' h=>by
   obtain⟨a,c,he,bs,hO,hbs,hb⟩:=h
   exact⟨a,c,he,bs,hO,fun b hb'=>by simpa using hbs b hb',hb⟩
theorem TB (s1 s2 ctl:ByteArray) (a:Option Addr) (c:Nat) (bk:List Nat) (lo:Nat) (W:World) (hk:fV W (.slice a 2 c) [s1,s2] bk) (hnd:bk.Nodup) (hb:∀b∈bk,lo≤b) (hlo:lo≤W.heap.size) (yZ:ctl.size≤1048576) :
  Calls Tryz.prog 196 #[.agg #[.slice a 2 c],.string ctl] W fun e w'=>∃a' c',e=.returned (.agg #[.string ⟨#[77,83,72]⟩,.slice a' (aI [s1,s2] ctl).length c'])∧∃bs,aN w' (.slice a' (aI [s1,s2] ctl).length c') (aI [s1,s2] ctl) bs∧(∀b∈bs,b<w'.heap.size∧(W.heap.size≤b∨b∈bk))∧Below W.heap.size W w':=by
 refine(kF [s1,s2] ctl _ bk lo W hk (by simp) (by simp) hnd (fun b h=>⟨hb b h,bS.lt jy hk b h⟩) hlo yZ).mono ?_
 rintro e w' ⟨u,rfl,bs,hO,hn,hf,hb'⟩
 obtain⟨a',c',rfl⟩:=dA hO
 exact⟨a',c',rfl,bs,hO,fun b h=>(hf b h).2,hb'⟩
theorem uK {W W':World} {v:Value} {x:Field} {bs:List Nat} (h:bP W v x bs) (hb:Below W.heap.size W W'):bP W' v x bs:=bS.kept fD h hb.size fun d hd=>hb.block d (bS.lt dJ h d hd)
theorem kZ {W W':World} {v:Value} {x:List Field} {bs:List Nat} (h:aN W v x bs) (hb:Below W.heap.size W W'):aN W' v x bs:=bS.kept bQ h hb.size fun d hd=>hb.block d (bS.lt dD h d hd)
theorem aax {W W':World} {v:Value} {x:List ByteArray} {bs:List Nat} (h:fV W v x bs) (hb:Below W.heap.size W W'):fV W' v x bs:=bS.kept d9 h hb.size fun d hd=>hb.block d (bS.lt jy h d hd)
abbrev QS:=Seg × (Option Addr × Nat)
def qV (p:QS):Value:=.slice p.2.1 p.1.fields.length p.2.2
def qC (p:QS):List Value:=[.string p.1.name,.slice p.2.1 p.1.fields.length p.2.2]
theorem TD (p:QS):(qC p).length=2:=rfl
theorem aay:∀(p:QS),∀u∈qC p,u.oneCell'=true:=fun p u hu=>by
 simp only[qC,List.mem_cons,List.not_mem_nil,or_false] at hu
 rcases hu with rfl|rfl <;> rfl
structure nK (base M:Nat) (w:World) (v:Value) (ps:List QS):Prop where
 row:FB qC 2 54 base w v ps
 own:v.ownBlock≠some M
 nm:∀p∈ps,p.1.name.size≤9223372036854775807
 el:∀p∈ps,∃bs,aN w (qV p) p.1.fields bs∧∀b∈bs,base≤b∧b≠M∧v.ownBlock≠some b
theorem nK.keep {base M:Nat} {w w':World} {v:Value} {ps:List QS} (h:nK base M w v ps) (hs:w.heap.size≤w'.heap.size) (hb:∀b,base≤b→b<w.heap.size→b≠M→w'.heap[b]?=w.heap[b]?):nK base M w' v ps :=
 ⟨h.row.keep fun b hb'=>hb b (h.row.own b hb').1 (h.row.own b hb').2 (fun e=>h.own (by subst e;simpa using hb')),h.own,h.nm,fun p hp=>by
  obtain⟨bs,hO,hbs⟩:=h.el p hp
  exact⟨bs,bS.kept bQ hO hs fun d hd=>hb d (hbs d hd).1 (bS.lt dD hO d hd) (hbs d hd).2.1,hbs⟩⟩
theorem nK.below {base M:Nat} {w w':World} {v:Value} {ps:List QS} (h:nK base M w v ps) (hb:Below w.heap.size w w'):nK base M w' v ps:=h.keep hb.size fun b _ h1 _=>hb.block b h1
theorem nK.set {base M o:Nat} {w:World} {v:Value} {ps:List QS} (h:nK base M w v ps) (x:Value):nK base M (w.setCell ⟨M,o,none⟩ x) v ps :=
 h.keep (by rw[Deep.nblk_setCell];exact aS _) fun b _ _ hne=>Deep.blk_setCell_other _ ⟨M,o,none⟩ _ b hne
theorem nK.low {base M b o:Nat} {w:World} {v:Value} {ps:List QS} (h:nK base M w v ps) (hb:b<base) (x:Value):nK base M (w.setCell ⟨b,o,none⟩ x) v ps :=
 h.keep (by rw[Deep.nblk_setCell];exact aS _) fun d h1 _ _=>Deep.blk_setCell_other _ ⟨b,o,none⟩ _ d (by dsimp only;omega)
theorem nK.kg {base M:Nat} {w:World} {v:Value} {ps:List QS} (h:nK base M w v ps) (hl:ps.length≤9223372036854775807):aX base w v (ps.map Prod.fst):=by
 obtain⟨h0,hA⟩:=FB.at (C:=qC) (c:=2) (Z:=fun _=>True) TD h.row hl (fun i hi=>trivial)
 refine⟨by rw[List.length_map];exact h0,?_⟩
 rcases hA with⟨a,cap,e,e2⟩|⟨b,off,cap,e,hb,hA⟩
 ·exact .inl ⟨a,cap,e,by rw[e2];rfl⟩
 ·refine .inr ⟨b,off,cap,by rw[List.length_map];exact e,hb,fun i hi=>?_⟩
  have hi':i<ps.length:=by rw[List.length_map] at hi;exact hi
  rw[List.getElem_map]
  have h1:=(hA i hi').1
  obtain⟨bs,hO,hbs⟩:=h.el ps[i] (List.getElem_mem hi')
  refine⟨by simpa [qC] using h1 0 (by simp[qC]),h.nm _ (List.getElem_mem hi'),qV ps[i],by simpa [qC,qV] using h1 1 (by simp[qC]),bS.pO mG hO fun d hd=>(hbs d hd).1⟩
theorem nK.push {base M:Nat} {w:World} {v:Value} {ps:List QS} (h:nK base M w v ps) (hb:base≤w.heap.size) (hM:M<w.heap.size) (hl:ps.length≤1000000) (p:QS) (hn:p.1.name.size≤9223372036854775807) {bs:List Nat} (hO:aN w (qV p) p.1.fields bs) (hbs:∀b∈bs,base≤b∧b≠M∧v.ownBlock≠some b) (ty:TypeId) :
  ∃v' w',(Builtin.append_ #[26,26] ty #[v,.slice (some ⟨w.heap.size,0,none⟩) 1 1]).run Tryz.prog (w.alloc (.cells (qC p).toArray 54))=.ok v' w'∧nK base M w' v' (ps++[p])∧Only v.ownBlock.toList w w':=by
 obtain⟨v',w',hr,hF,rR,hat⟩:=app1 (C:=qC) (c:=2) (bytes:=40) (z:=.agg #[.string ByteArray.empty,.slice none 0 0]) Tryz.underlying26 qH rfl (by decide) TD aay h.row ty p hb hl (by decide)
 have hne:∀b,b<w.heap.size→v.ownBlock≠some b→v'.ownBlock≠some b:=fun b hlt h1 e=>by
  rcases hat with ha|⟨g,ha,hg⟩
  ·exact h1 (ha.symm.trans e)
  ·rw[ha] at e;injection e with e;omega
 refine⟨v',w',hr,⟨hF,hne M hM h.own,fun q hq=>?_,fun q hq=>?_⟩,rR⟩
 ·rcases List.mem_append.1 hq with hq|hq
  ·exact h.nm q hq
  ·rw[List.mem_singleton.1 hq];exact hn
 ·have key:∀(q:QS) (cs:List Nat),aN w (qV q) q.1.fields cs→(∀b∈cs,base≤b∧b≠M∧v.ownBlock≠some b)→∃bs,aN w' (qV q) q.1.fields bs∧∀b∈bs,base≤b∧b≠M∧v'.ownBlock≠some b:=fun q cs hq hcs =>
   ⟨cs,bS.kept bQ hq rR.size fun d hd=>rR.block d (bS.lt dD hq d hd) (fun hm=>(hcs d hd).2.2 (by simpa using hm)),fun b hb'=>⟨(hcs b hb').1,(hcs b hb').2.1,hne b (bS.lt dD hq b hb') (hcs b hb').2.2⟩⟩
  rcases List.mem_append.1 hq with hq|hq
  ·obtain⟨cs,h1,h2⟩:=h.el q hq
   exact key q cs h1 h2
  ·rw[List.mem_singleton.1 hq];exact key p bs hO hbs
theorem nK.form {base M:Nat} {w:World} {v:Value} {ps:List QS} (h:nK base M w v ps):∃a c,v=.slice a ps.length c:=by
 obtain⟨a,c,e,_⟩:=h.row.form
 exact⟨a,c,e⟩
theorem nK.three {base M B:Nat} {W:World} {p q r:QS} (hlo:base≤B) (VI:B≠M) (dP:aU W B 54 #[.string p.1.name,qV p,.string q.1.name,qV q,.string r.1.name,qV r]) (hn:p.1.name.size≤9223372036854775807∧q.1.name.size≤9223372036854775807∧r.1.name.size≤9223372036854775807)
  {b1 b2 b3:List Nat} (h1:aN W (qV p) p.1.fields b1) (h2:aN W (qV q) q.1.fields b2) (h3:aN W (qV r) r.1.fields b3) (k1:∀b∈b1,base≤b∧b≠M∧b≠B) (k2:∀b∈b2,base≤b∧b≠M∧b≠B) (k3:∀b∈b3,base≤b∧b≠M∧b≠B) :
  nK base M W (.slice (some ⟨B,0,none⟩) 3 3) [p,q,r]:=by
 refine⟨⟨rfl,.inr ⟨B,3,_,rfl,hlo,dP,aS _,by unfold maxLen;omega,rfl,rfl⟩⟩,by simp[Value.ownBlock];exact VI,fun s hs=>?_,fun s hs=>?_⟩
 ·simp only[List.mem_cons,List.not_mem_nil,or_false] at hs
  rcases hs with rfl|rfl|rfl
  ·exact hn.1
  ·exact hn.2.1
  ·exact hn.2.2
 ·simp only[List.mem_cons,List.not_mem_nil,or_false] at hs
  have key:∀{bs:List Nat},(∀b∈bs,base≤b∧b≠M∧b≠B)→∀b∈bs,base≤b∧b≠M∧(Value.slice (some ⟨B,0,none⟩) 3 3).ownBlock≠some b:=fun h b hb=>⟨(h b hb).1,(h b hb).2.1,by simp[Value.ownBlock];exact fun e=>(h b hb).2.2 e.symm⟩
  rcases hs with rfl|rfl|rfl
  ·exact⟨b1,h1,key k1⟩
  ·exact⟨b2,h2,key k2⟩
  ·exact⟨b3,h3,key k3⟩
end Go.Proofs.YtfdihjnlgdiioaaGreatDoor.dB
