import Derived.Test.YtfdihjnlgdiioaaGreatDoorG37
namespace Go.Proofs.YtfdihjnlgdiioaaGreatDoor.dB
set_option linter.unusedVariables false
set_option linter.unusedSimpArgs false
theorem Dr {s:ByteArray} (h:s.size=0):s=⟨#[]⟩:=by
 apply ByteArray.ext
 exact Array.eq_empty_of_size_eq_zero h
theorem wU {s:ByteArray} (h:s.toList=[]):s=⟨#[]⟩:=by
 rw[ByteArray.toList_eq] at h
 apply ByteArray.ext
 exact Array.toList_eq_nil_iff.1 h
theorem wV {α:Type} (p:α→Bool):∀(xs:List α) (i:Nat) (x:α),aK p xs≤i→xs[i]?=some x→p x=true
 | [],i,x,_,h=>by simp at h
 | y :: ys,i,x,hk,h=>by
  unfold aK at hk
  cases hn:aK p ys with
  | zero =>
   rw[hn] at hk
   cases i with
   | zero =>
    simp at h;subst h
    cases hp:p y
    ·rw[hp] at hk;simp at hk
    ·rfl
   | succ i=>exact wV p ys i x (by omega) (by simpa using h)
  | succ n =>
   rw[hn] at hk
   simp only at hk
   cases i with
   | zero=>omega
   | succ i=>exact wV p ys i x (by omega) (by simpa using h)
theorem Pm (fs:List Field) (a c:Int):pick (ay List.isEmpty fs) a c=pick fs a c:=by
 unfold pick
 by_cases ha:a<0
 ·rw[if_pos ha,if_pos ha]
 ·rw[if_neg ha,if_neg ha]
  unfold ay
  rw[List.getElem?_take]
  by_cases h2:a.toNat<aK List.isEmpty fs
  ·rw[if_pos h2]
  ·rw[if_neg h2]
   cases hf:fs[a.toNat]? with
   | none=>rfl
   | some f =>
    have:=wV List.isEmpty fs a.toNat f (by omega) hf
    cases f with
    | nil=>rfl
    | cons r rs=>cases this
theorem zq {fs:List Field} (i:Nat) {s:ByteArray} (h:fs[i]?=some (ah s)):pick fs (i:Int) 1=s:=by
 unfold pick
 rw[if_neg (by omega),Int.toNat_natCast,h]
 by_cases h0:s.size=0
 ·have e:ah s=[]:=if_pos h0
  rw[e]
  exact(Dr h0).symm
 ·have e:ah s=[[s]]:=if_neg h0
  rw[e]
  rfl
theorem Tf {fs:List Field} (i:Nat) {r:lW} {s:ByteArray} (h:fs[i]?=some [s :: r]):pick fs (i:Int) 1=s:=by
 unfold pick
 rw[if_neg (by omega),Int.toNat_natCast,h]
 rfl
theorem kD {n:ByteArray} (h:n.data.toList≠[77,83,72]):ig n=false:=by
 unfold ig
 rw[ByteArray.toList_eq]
 simpa using h
theorem Dt (k1 k2 control:ByteArray) (rest:List Seg) :
  aB (⟨⟨#[77,83,72]⟩,aI [k1,k2] control⟩ :: rest) ⟨#[77,83,72]⟩ 9 1=k1∧aB (⟨⟨#[77,83,72]⟩,aI [k1,k2] control⟩ :: rest) ⟨#[77,83,72]⟩ 10 1=control∧aB (⟨⟨#[77,83,72]⟩,aI [k1,k2] control⟩ :: rest) ⟨#[77,83,72]⟩ 12 1=wL:=by
 have e:ig ⟨#[77,83,72]⟩=true:=by unfold ig;rw[ByteArray.toList_eq];rfl
 have f:(⟨⟨#[77,83,72]⟩,aI [k1,k2] control⟩ :: rest).find? (fun s:Seg=>s.name.toList == (⟨#[77,83,72]⟩:ByteArray).toList)=some ⟨⟨#[77,83,72]⟩,aI [k1,k2] control⟩:=by
  rw[List.find?_cons_of_pos (by simp)]
 unfold aB
 rw[f,e]
 exact⟨Tf 6 rfl,zq 7 rfl,zq 9 rfl⟩
theorem iP (n:ByteArray) (fs:List Field) (rest:List Seg) (i:Nat) (s:ByteArray) (hn:ig n=false) (h:fs[i]?=some (ah s)):aB (⟨n,ay List.isEmpty fs⟩ :: rest) n ((i:Int)+1) 1=s:=by
 unfold aB
 rw[List.find?_cons_of_pos (by simp),hn]
 show pick (ay List.isEmpty fs) ((i:Int)+1 - 1) 1=s
 rw[Pm,show (i:Int)+1 - 1=(i:Int) by omega]
 exact zq i h
theorem bD (n n2:ByteArray) (fs:List Field) (rest:List Seg) (f c:Int) (hn:n2.data.toList≠n.data.toList):aB (⟨n2,fs⟩ :: rest) n f c=aB rest n f c:=by
 unfold aB
 rw[List.find?_cons_of_neg (by rw[ByteArray.toList_eq,ByteArray.toList_eq];simpa using hn)]
theorem Tg (r:pK) (h:cK r≠[]):qQ iG (cK r)=(r,0):=by
 obtain⟨kind,control,tag,query,page,pointer⟩:=r
 unfold cK at h ⊢
 simp only at h ⊢
 have eq1:(⟨#[81,66,80]⟩:ByteArray).toList=[81,66,80]:=by rw[ByteArray.toList_eq]
 have eq2:(⟨#[81,67,78]⟩:ByteArray).toList=[81,67,78]:=by rw[ByteArray.toList_eq]
 have ev:wL.toList=[50,46,53,46,49]:=by rw[ByteArray.toList_eq];rfl
 by_cases h1:kind=1
 ·rw[if_pos h1] at h ⊢
  by_cases hp:pointer.toList=[]
  ·rw[if_pos hp] at h ⊢
   cases hl:newL control tag query page with
   | some z=>rw[hl] at h;exact absurd rfl h
   | none =>
    simp only
    unfold newL at hl
    split at hl
    ·rename_i hct
     split at hl
     ·rename_i hq
      simp only[Bool.and_eq_true,decide_eq_true_eq] at hct hq
      obtain⟨g1,g2,g3⟩:=Dt ⟨#[81,66,80]⟩ ⟨#[90,48,49]⟩ control [⟨⟨#[81,80,68]⟩,ay List.isEmpty [ah ⟨#[81]⟩,ah tag,ah query]⟩,⟨⟨#[82,67,80]⟩,ay List.isEmpty [([]:Field),ah (bR page.toNat)]⟩]
      have g4:aB (mg control tag query (bR page.toNat)) ⟨#[81,73,68]⟩ 1 1=⟨#[]⟩:=by
       unfold mg
       rw[bD _ _ _ _ _ _ (by decide),bD _ _ _ _ _ _ (by decide),bD _ _ _ _ _ _ (by decide)];rfl
      have g5:aB (mg control tag query (bR page.toNat)) ⟨#[81,80,68]⟩ 2 1=tag:=by
       unfold mg
       rw[bD _ _ _ _ _ _ (by decide)];exact iP _ _ _ 1 tag (kD (by decide)) rfl
      have g6:aB (mg control tag query (bR page.toNat)) ⟨#[81,80,68]⟩ 3 1=query:=by
       unfold mg
       rw[bD _ _ _ _ _ _ (by decide)];exact iP _ _ _ 2 query (kD (by decide)) rfl
      have g7:aB (mg control tag query (bR page.toNat)) ⟨#[68,83,67]⟩ 1 1=⟨#[]⟩:=by
       unfold mg
       rw[bD _ _ _ _ _ _ (by decide),bD _ _ _ _ _ _ (by decide),bD _ _ _ _ _ _ (by decide)];rfl
      have g8:aB (mg control tag query (bR page.toNat)) ⟨#[82,67,80]⟩ 2 1=bR page.toNat:=by
       unfold mg
       rw[bD _ _ _ _ _ _ (by decide),bD _ _ _ _ _ _ (by decide)];exact iP _ _ _ 1 _ (kD (by decide)) rfl
      have hds:=rJ page.toNat
      have hd0:0<(bR page.toNat).size:=by
       show 0<(Lib.decDigits page.toNat).toArray.size
       have:=hds.2.2
       simp
       omega
      have hdn:iG (bR page.toNat).data.toList=page:=by
       show iG (Lib.decDigits page.toNat).toArray.toList=page
       have:=BN page.toNat (by omega)
       simp only[List.toList_toArray]
       rw[this]
       omega
      have hpe:=wU hp
      have e0:(⟨#[]⟩:ByteArray).size=0:=rfl
      have et:aW ⟨#[]⟩=true:=by decide
      unfold qQ
      unfold mg at g4 g5 g6 g7 g8 ⊢
      rw[g1,g2,g3,g4,g5,g6,g7,g8,hdn]
      unfold bG
      simp only[eq1,ev,hct.1,hct.2,hq.1,et,e0,hd0,hq.2.1,hq.2.2,hpe,h1]
      simp
     ·cases hl
    ·cases hl
  ·rw[if_neg hp] at h;exact absurd rfl h
 rw[if_neg h1] at h ⊢
 by_cases h2:kind=2
 ·rw[if_pos h2] at h ⊢
  by_cases hp:page=0
  ·rw[if_pos hp] at h ⊢
   cases hl:gJ control tag query pointer with
   | some z=>rw[hl] at h;exact absurd rfl h
   | none =>
    simp only
    unfold gJ at hl
    split at hl
    ·rename_i hct
     split at hl
     ·rename_i hq
      simp only[Bool.and_eq_true,decide_eq_true_eq] at hct hq
      obtain⟨g1,g2,g3⟩:=Dt ⟨#[81,66,80]⟩ ⟨#[90,48,49]⟩ control [⟨⟨#[81,80,68]⟩,ay List.isEmpty [ah ⟨#[81]⟩,ah tag,ah query]⟩,⟨⟨#[68,83,67]⟩,ay List.isEmpty [ah pointer]⟩]
      have g4:aB (iC control tag query pointer) ⟨#[81,73,68]⟩ 1 1=⟨#[]⟩:=by
       unfold iC
       rw[bD _ _ _ _ _ _ (by decide),bD _ _ _ _ _ _ (by decide),bD _ _ _ _ _ _ (by decide)];rfl
      have g5:aB (iC control tag query pointer) ⟨#[81,80,68]⟩ 2 1=tag:=by
       unfold iC
       rw[bD _ _ _ _ _ _ (by decide)];exact iP _ _ _ 1 tag (kD (by decide)) rfl
      have g6:aB (iC control tag query pointer) ⟨#[81,80,68]⟩ 3 1=query:=by
       unfold iC
       rw[bD _ _ _ _ _ _ (by decide)];exact iP _ _ _ 2 query (kD (by decide)) rfl
      have g7:aB (iC control tag query pointer) ⟨#[68,83,67]⟩ 1 1=pointer:=by
       unfold iC
       rw[bD _ _ _ _ _ _ (by decide),bD _ _ _ _ _ _ (by decide)];exact iP _ _ _ 0 _ (kD (by decide)) rfl
      have g8:aB (iC control tag query pointer) ⟨#[82,67,80]⟩ 2 1=⟨#[]⟩:=by
       unfold iC
       rw[bD _ _ _ _ _ _ (by decide),bD _ _ _ _ _ _ (by decide),bD _ _ _ _ _ _ (by decide)];rfl
      unfold qQ
      unfold iC at g4 g5 g6 g7 g8 ⊢
      rw[g1,g2,g3,g4,g5,g6,g7,g8]
      unfold bG
      simp only[eq1,ev,hct.1,hct.2,hq.1,hq.2.1,hq.2.2,hp,h2]
      simp
     ·cases hl
    ·cases hl
  ·rw[if_neg hp] at h;exact absurd rfl h
 rw[if_neg h2] at h ⊢
 by_cases h3:kind=3
 ·rw[if_pos h3] at h ⊢
  by_cases hp:query.toList=[]∧page=0∧pointer.toList=[]
  ·rw[if_pos hp] at h ⊢
   cases hct:(aL control && fH tag) with
   | false=>rw[hct] at h;exact absurd rfl h
   | true =>
    rw[if_pos rfl]
    simp only[Bool.and_eq_true] at hct
    obtain⟨g1,g2,g3⟩:=Dt ⟨#[81,67,78]⟩ ⟨#[74,48,49]⟩ control [⟨⟨#[81,73,68]⟩,ay List.isEmpty [ah tag]⟩]
    have g4:aB (fI control tag) ⟨#[81,73,68]⟩ 1 1=tag:=by
     unfold fI
     rw[bD _ _ _ _ _ _ (by decide)];exact iP _ _ _ 0 tag (kD (by decide)) rfl
    unfold qQ
    unfold fI at g4 ⊢
    rw[g1,g2,g3,g4]
    unfold bG
    simp only[eq2,ev,hct.1,hct.2,wU hp.1,hp.2.1,wU hp.2.2,h3]
    simp
  ·rw[if_neg hp] at h;exact absurd rfl h
 rw[if_neg h3] at h
 exact absurd rfl h
end Go.Proofs.YtfdihjnlgdiioaaGreatDoor.dB
namespace Go.Proofs.YtfdihjnlgdiioaaGreatDoor.dB
open Go.ChangeShapes Go.WideShapes Go.ChangeAt Go.RowKit
set_option linter.unusedVariables false
set_option linter.unusedSimpArgs false
def wo (c:UInt8):Bool:=nN c || (tq c || D8 c)
set_option maxHeartbeats 1000000 in
theorem Du (c:UInt8) (w:World) :
  Calls Tryz.prog 80 #[.int .u8 (c.toNat:Int)] w fun e w'=>e=.returned (.bool (wo c))∧w'=w:=by
 have HW:Hid (wo c=(nN c || (tq c || D8 c))):=rfl
 have Ah:Hid (D8 c=(decide (97≤c.toNat) && decide (c.toNat≤122))):=rfl
 cases hc:nN c
 ·have HC:=hide hc
  cases hdg:tq c
  ·have HD:=hide hdg
   have HX:Hid (wo c=D8 c):=by rw[HW.out,hc,hdg];rfl
   clear hc hdg
   by_cases h1:(97:Int)≤(c.toNat:Int)
   ·by_cases h2:(c.toNat:Int)≤122
    ·have HL:Hid (D8 c=true):=by rw[Ah.out,decide_eq_true (by omega),decide_eq_true (by omega)];rfl
     go_enter Tryz.func80,Tryz.ntmps80
     go_wp2_with fail
     refine(eO c _).mono ?_
     rintro e w2 ⟨rfl,rfl⟩
     rw[HC.out]
     go_wp2_with fail
     refine(lF c _).mono ?_
     rintro e w2 ⟨rfl,rfl⟩
     rw[HD.out]
     go_wp2_with fail
     go_ret
     exact⟨aA (by rw[HX.out,HL.out]),rfl⟩
    ·have HL:Hid (D8 c=false):=by rw[Ah.out,decide_eq_false (p:=c.toNat≤122) (by omega),Bool.and_false];trivial
     go_enter Tryz.func80,Tryz.ntmps80
     go_wp2_with fail
     refine(eO c _).mono ?_
     rintro e w2 ⟨rfl,rfl⟩
     rw[HC.out]
     go_wp2_with fail
     refine(lF c _).mono ?_
     rintro e w2 ⟨rfl,rfl⟩
     rw[HD.out]
     go_wp2_with fail
     go_ret
     exact⟨aA (by rw[HX.out,HL.out];simp;omega),rfl⟩
   ·have HL:Hid (D8 c=false):=by rw[Ah.out,decide_eq_false (p:=97≤c.toNat) (by omega)];rfl
    go_enter Tryz.func80,Tryz.ntmps80
    go_wp2_with fail
    refine(eO c _).mono ?_
    rintro e w2 ⟨rfl,rfl⟩
    rw[HC.out]
    go_wp2_with fail
    refine(lF c _).mono ?_
    rintro e w2 ⟨rfl,rfl⟩
    rw[HD.out]
    go_wp2_with fail
    go_ret
    exact⟨aA (by rw[HX.out,HL.out]),rfl⟩
  ·have HD:=hide hdg
   have HX:Hid (wo c=true):=by rw[HW.out,hc,hdg];rfl
   clear hc hdg
   go_enter Tryz.func80,Tryz.ntmps80
   go_wp2_with fail
   refine(eO c _).mono ?_
   rintro e w2 ⟨rfl,rfl⟩
   rw[HC.out]
   go_wp2_with fail
   refine(lF c _).mono ?_
   rintro e w2 ⟨rfl,rfl⟩
   rw[HD.out]
   go_wp2_with fail
   go_ret
   exact⟨aA HX.out.symm,rfl⟩
 ·have HC:=hide hc
  have HX:Hid (wo c=true):=by rw[HW.out,hc];rfl
  clear hc
  go_enter Tryz.func80,Tryz.ntmps80
  go_wp2_with fail
  refine(eO c _).mono ?_
  rintro e w2 ⟨rfl,rfl⟩
  rw[HC.out]
  go_wp2_with fail
  go_ret
  exact⟨aA HX.out.symm,rfl⟩
theorem aau (l:List UInt8) (c:UInt8):(Lib.indexByte l c = -1∧l.all (fun y=>y != c)=true)∨(∃i:Nat,Lib.indexByte l c=i∧l.all (fun y=>y != c)=false):=by
 rcases kJ c l with⟨h1,h2⟩|⟨i,h1,h2,h3,_⟩
 ·refine .inl ⟨h1,?_⟩
  rw[List.all_eq_true]
  intro x hx
  rw[bne_iff_ne]
  exact h2 x hx
 ·refine .inr ⟨i,h1,?_⟩
  rw[List.all_eq_false]
  exact⟨c,by rw[h3];simp,by simp⟩
theorem GI (a b c:UInt8) (l:List UInt8):List.isPrefixOf [a,b,c] l=(l.take 3 == [a,b,c]):=by
 match l with
 | []=>rfl
 | [x]=>simp[List.isPrefixOf]
 | [x,y]=>simp[List.isPrefixOf]
 | x :: y :: z :: t =>
  simp only[List.isPrefixOf,List.take_succ_cons,List.take_zero,Bool.and_true]
  rw[Bool.eq_iff_iff]
  simp only[Bool.and_eq_true,beq_iff_eq,List.cons.injEq,and_true]
  exact⟨fun⟨h1,h2,h3⟩=>⟨h1.symm,h2.symm,h3.symm⟩,fun⟨h1,h2,h3⟩=>⟨h1.symm,h2.symm,h3.symm⟩⟩
theorem Dv (s:ByteArray):Lib.hasPrefix s.data.toList (⟨#[77,83,72]⟩:ByteArray).data.toList=((s.extract 0 3).toList == [77,83,72]):=by
 show List.isPrefixOf [77,83,72] s.data.toList=_
 rw[GI,jc,kR]
 rfl
theorem JN (s:ByteArray) (h8:8≤s.size) (h:0<(s.extract 3 8).size):(s.extract 3 8)[0]=s[3]:=by
 rw[ByteArray.getElem_extract]
theorem Ti {c:UInt8} (h0:c.toNat≠13) (h1:wo c=false):xA c=false:=by
 unfold wo at h1
 unfold xA
 rw[decide_eq_false h0]
 cases hc:nN c <;> cases hd:tq c <;> cases hl:D8 c <;> rw[hc,hd,hl] at h1 <;> simp_all
theorem Pn {c:UInt8} (h1:wo c=true):xA c=true:=by
 unfold wo at h1
 unfold xA
 cases hc:nN c <;> cases hd:tq c <;> cases hl:D8 c <;> rw[hc,hd,hl] at h1 <;> simp_all
set_option maxRecDepth 100000 in
set_option maxHeartbeats 4000000 in
theorem yx (s:ByteArray) (w:World) (hs:s.size≤40000) (hh:s.size<8∨((s.extract 0 3).toList == [77,83,72])=false) :
  Calls Tryz.prog 56 #[.string s] w fun e w'=>e=.returned (.bool (eB s))∧Below w.heap.size w w':=by
 have HB0:Hid (Below w.heap.size w w):=Below.refl _ _
 by_cases h8:s.size<8
 ·have HX:Hid (eB s=false):=by unfold eB;rw[decide_eq_false (p:=8≤s.size) (by omega)];rfl
  have h8':(s.size:Int)<8:=by omega
  clear hh h8
  go_enter Tryz.func56,Tryz.ntmps56
  go_wp2_with fail
  go_ret
  exact⟨aA HX.out.symm,HB0.out⟩
 ·have hm:((s.extract 0 3).toList == [77,83,72])=false:=by rcases hh with h|h;exact absurd h h8;exact h
  have HX:Hid (eB s=false):=by
   have:eB s=false:=by unfold eB;rw[hm];simp
   exact this
  have HP:=hide (Dv s)
  rw[hm] at HP
  have h8':¬(s.size:Int)<8:=by omega
  clear hh h8 hm
  go_enter Tryz.func56,Tryz.ntmps56
  go_wp2_with (go_at_call 79;refine(Tryz.strings_HasPrefix _ _ _).mono ?_;rintro e w2 ⟨rfl,rfl⟩;rw[HP.out])
  go_ret
  exact⟨aA HX.out.symm,HB0.out⟩
set_option maxRecDepth 100000 in
set_option maxHeartbeats 4000000 in
theorem Em (s:ByteArray) (w:World) (hs:s.size≤40000) (h8:8≤s.size) (hm:((s.extract 0 3).toList == [77,83,72])=true) :
  Calls Tryz.prog 56 #[.string s] w fun e w'=>e=.returned (.bool (eB s))∧Below w.heap.size w w':=by
 have HB0:Hid (Below w.heap.size w w):=Below.refl _ _
 have HP:=hide (Dv s)
 rw[hm] at HP
 have HM:=hide hm
 have h8':¬(s.size:Int)<8:=by omega
 have h38:(8:Int)≤(s.size:Int):=by omega
 have h3:(3:Int)≤(s.size:Int):=by omega
 have h5:(s.extract 3 8).size=5:=by rw[ByteArray.size_extract];omega
 have HD:Hid (pX (s.extract 3 8)=(List.range 5).all (newAt (s.extract 3 8).data.toList)):=rfl
 have HF:Hid (pX (s.extract 3 8)=false→eB s=false):=fun h=>by unfold eB;rw[h];simp
 clear hm
 go_enter Tryz.func56,Tryz.ntmps56
 go_wp2_with (go_at_call 79;refine(Tryz.strings_HasPrefix _ _ _).mono ?_;rintro e w2 ⟨rfl,rfl⟩;rw[HP.out])
 go_loopg [17] 5 (fun n i wr=>∃k:Nat,k≤5∧n=5 - k∧i=.int .i64 k∧((List.range 5).take k).all (newAt (s.extract 3 8).data.toList)=true∧Below w2.heap.size w2 wr)
 case atStart=>exact⟨0,eH _,rfl,rfl,rfl,HB0.out⟩
 case round =>
  obtain⟨k,hk,rfl,rfl,hall,hbel⟩:=hrel
  have HA:=hide hall
  have HBL:=hide hbel
  clear hall hbel
  by_cases hlt:k<5
  ·have hkr:k<(List.range 5).length:=by rw[List.length_range];exact hlt
   have HRK:Hid ((List.range 5)[k]=k):=by rw[List.getElem_range];exact rfl
   have hks:k<(s.extract 3 8).size:=by omega
   have HN:Hid (newAt (s.extract 3 8).data.toList k=(!xA (s.extract 3 8)[k] && ((s.extract 3 8).data.toList.take k).all fun y=>y != (s.extract 3 8)[k])):=Qn _ _ (by rw[Array.length_toList];exact hks)
   have HFA:Hid (newAt (s.extract 3 8).data.toList k=false→eB s=false):=fun h=>HF.out (by rw[HD.out];exact iy hkr (by rw[HRK.out];exact h))
   have HST:Hid (newAt (s.extract 3 8).data.toList k=true→((List.range 5).take (k+1)).all (newAt (s.extract 3 8).data.toList)=true):=fun h=>jD hkr HA.out (by rw[HRK.out];exact h)
   have Ki:Hid (xA (s.extract 3 8)[k]=true→eB s=false):=fun h=>HFA.out (by rw[HN.out,h];rfl)
   clear HRK hkr
   have hki:(k:Int)<5:=by omega
   have aa2:(k:Int)<((s.extract 3 8).size:Int):=by omega
   have hkl':(k:Int)≤((s.extract 3 8).size:Int):=by omega
   cases hw:wo (s.extract 3 8)[k]
   ·have HW:=hide hw
    have CU:Hid (∀w,Calls Tryz.prog 80 #[.int .u8 ((s.extract 3 8)[k].toNat:Int)] w fun e w'=>e=.returned (.bool false)∧w'=w):=fun w=>by rw[←HW.out];exact Du _ w
    clear hw
    by_cases h0:(s.extract 3 8)[k].toNat=13
    ·have h0':(((s.extract 3 8)[k].toNat:Int) == 13)=true:=by rw[beq_iff_eq];omega
     have HQ:Hid (eB s=false):=Ki.out (by unfold xA;rw[decide_eq_true h0];rfl)
     clear h0
     go_wp2_with fail
     go_quiet (first|(go_at_call 80;refine Calls.quiet_of_same (CU.out _)))
     go_wp2_with fail
     go_ret
     exact⟨aA HQ.out.symm,below_drewN HBL.out _⟩
    ·have h0':(((s.extract 3 8)[k].toNat:Int) == 13)=false:=by rw[beq_eq_false_iff_ne];omega
     have HB:Hid (xA (s.extract 3 8)[k]=false):=Ti h0 HW.out
     clear h0
     have HEX:Hid (((s.extract 3 8).extract 0 k).data.toList=(s.extract 3 8).data.toList.take k):=by rw[jc (s.extract 3 8),eU];exact rfl
     have HC8:Hid (((((s.extract 3 8)[k].toNat:Nat):Int).toNat.toUInt8)=(s.extract 3 8)[k]):=by
      have:((((s.extract 3 8)[k].toNat:Nat):Int).toNat.toUInt8)=(s.extract 3 8)[k]:=by simp
      exact this
     rcases aau ((s.extract 3 8).data.toList.take k) (s.extract 3 8)[k] with⟨hi1,hi2⟩|⟨i,hi1,hi2⟩
     ·have HZ:=hide (HST.out (by rw[HN.out,HB.out,hi2];rfl))
      have HCI:Hid (∀w,Calls Tryz.prog 81 #[.string ((s.extract 3 8).extract 0 k),.int .u8 ((s.extract 3 8)[k].toNat:Int)] w fun e w'=>e=.returned (.int .i64 (-1))∧w'=w):=fun w=>by
       have:=Tryz.strings_IndexByte ((s.extract 3 8).extract 0 k) ((s.extract 3 8)[k].toNat:Int) w
       rw[HEX.out,HC8.out,hi1] at this
       exact this
      clear hi1 hi2
      go_wp2_with fail
      go_quiet (first|(go_at_call 80;refine Calls.quiet_of_same (CU.out _))|(go_at_call 81;refine Calls.quiet_of_same (HCI.out _)))
      go_wp2_with fail
      go_roundg (5 - (k+1))
      case measure=>omega
      case rel=>exact⟨k+1,by omega,rfl,by go_num,HZ.out,below_drewN HBL.out _⟩
     ·have HQ:Hid (eB s=false):=HFA.out (by rw[HN.out,hi2,Bool.and_false])
      have hi0:(0:Int)≤(i:Int):=by omega
      have HCI:Hid (∀w,Calls Tryz.prog 81 #[.string ((s.extract 3 8).extract 0 k),.int .u8 ((s.extract 3 8)[k].toNat:Int)] w fun e w'=>e=.returned (.int .i64 (i:Int))∧w'=w):=fun w=>by
       have:=Tryz.strings_IndexByte ((s.extract 3 8).extract 0 k) ((s.extract 3 8)[k].toNat:Int) w
       rw[HEX.out,HC8.out,hi1] at this
       exact this
      clear hi1 hi2
      go_wp2_with fail
      go_quiet (first|(go_at_call 80;refine Calls.quiet_of_same (CU.out _))|(go_at_call 81;refine Calls.quiet_of_same (HCI.out _)))
      go_wp2_with fail
      go_ret
      exact⟨aA HQ.out.symm,below_drewN HBL.out _⟩
   ·have HQ:Hid (eB s=false):=Ki.out (Pn hw)
    have HW:=hide hw
    have CU:Hid (∀w,Calls Tryz.prog 80 #[.int .u8 ((s.extract 3 8)[k].toNat:Int)] w fun e w'=>e=.returned (.bool true)∧w'=w):=fun w=>by rw[←HW.out];exact Du _ w
    clear hw
    go_wp2_with fail
    go_quiet (first|(go_at_call 80;refine Calls.quiet_of_same (CU.out _)))
    go_wp2_with fail
    go_ret
    exact⟨aA HQ.out.symm,below_drewN HBL.out _⟩
  ·have Ul:Hid (pX (s.extract 3 8)=true):=by rw[HD.out];exact jE (by rw[List.length_range];omega) HA.out
   have hki:¬(k:Int)<5:=by omega
   by_cases L9:s.size=8
   ·have afj:((s.size:Int) == 8)=true:=by rw[beq_iff_eq];omega
    have HQ:Hid (eB s=true):=FX h8 HM.out Ul.out (.inl (by omega))
    clear L9
    go_wp2_with fail
    go_quiet (fail)
    go_wp2_with fail
    go_ret
    exact⟨aA HQ.out.symm,below_drewN HBL.out _⟩
   ·have afj:((s.size:Int) == 8)=false:=by rw[beq_eq_false_iff_ne];omega
    have h88:(8:Int)<(s.size:Int):=by omega
    have aav:8<s.size:=by omega
    have h05:0<(s.extract 3 8).size:=by omega
    have ahk:(0:Int)<((s.extract 3 8).size:Int):=by omega
    have HMA:=hide (JN s h8 h05)
    by_cases hc:s[8].toNat=13
    ·have hc':((s[8].toNat:Int) == 13)=true:=by rw[beq_iff_eq];omega
     have HQ:Hid (eB s=true):=FX h8 HM.out Ul.out (.inr ⟨aav,.inl hc⟩)
     clear L9 hc
     go_wp2_with fail
     go_quiet (fail)
     go_wp2_with fail
     go_ret
     exact⟨aA HQ.out.symm,below_drewN HBL.out _⟩
    ·have hc':((s[8].toNat:Int) == 13)=false:=by rw[beq_eq_false_iff_ne];omega
     have HQ:Hid (eB s=((s[8].toNat:Int) == ((s.extract 3 8)[0].toNat:Int))):=by
      have t:eB s=((s[8].toNat:Int) == ((s.extract 3 8)[0].toNat:Int)):=by
       rw[HMA.out]
       by_cases he:s[8].toNat=s[3].toNat
       ·rw[FX h8 HM.out Ul.out (.inr ⟨aav,.inr he⟩),he];simp
       ·rw[QI s aav hc he]
        symm
        show _=false
        rw[beq_eq_false_iff_ne];omega
      exact t
     clear L9 hc
     go_wp2_with fail
     go_quiet (fail)
     go_wp2_with fail
     go_ret
     exact⟨aA HQ.out.symm,below_drewN HBL.out _⟩
theorem En (s:ByteArray) (w:World) (hs:s.size≤40000) :
  Calls Tryz.prog 56 #[.string s] w fun e w'=>e=.returned (.bool (eB s))∧Below w.heap.size w w':=by
 by_cases h8:s.size<8
 ·exact yx s w hs (.inl h8)
 ·cases hm:((s.extract 0 3).toList == [77,83,72])
  ·exact yx s w hs (.inr hm)
  ·exact Em s w hs (by omega) hm
end Go.Proofs.YtfdihjnlgdiioaaGreatDoor.dB
