import Derived.Test.YtfdihjnlgdiioaaGreatDoorG0
import Derived.Deep.RegionHeld3
import Derived.Deep.LoopGhost
import Derived.Deep.CutBlock
namespace Go.Proofs.YtfdihjnlgdiioaaGreatDoor.dB
open Go.ChangeShapes Go.WideShapes Go.ChangeAt Go.RowKit
set_option linter.unusedVariables false
set_option linter.unusedSimpArgs false
def xw (c0 c1 c2:UInt8):List UInt8→List (List (List (List UInt8)))
 | []=>[]
 | _ :: l=>ay List.isEmpty ((bI c0 l).map (dX c1 c2))
def bL (f:List (List (List UInt8))):Field:=f.map jR
def Qm (c:UInt8):Bool:=decide (c.toNat=13) || bZ c
def lY (s:ByteArray):Bool:=s.data.toList.all Qm
def Ew (r:lW):Bool:=decide (r.length≤20)
def zC (f:Field):Bool:=decide (f.length≤30) && f.all Ew
def qB (fs:List Field):Bool:=decide (30<fs.length) || !(fs.all zC)
def D8 (c:UInt8):Bool:=decide (97≤c.toNat) && decide (c.toNat≤122)
def xA (c:UInt8):Bool:=decide (c.toNat=13) || (nN c || (D8 c || tq c))
def newAt (l:List UInt8) (i:Nat):Bool:=match l[i]? with
 | none=>false
 | some b=>!xA b && (l.take i).all fun y=>y != b
def pX (s:ByteArray):Bool:=(List.range 5).all (newAt s.data.toList)
theorem Qn (l:List UInt8) (i:Nat) (h:i<l.length):newAt l i=(!xA l[i] && (l.take i).all fun y=>y != l[i]):=by
 unfold newAt
 rw[List.getElem?_eq_getElem h]
def q9 (c0 c1 c2 c3 c4:UInt8) (p:List UInt8):Option (List UInt8) :=
 if p=[70] then some [c0] else if p=[83] then some [c1] else if p=[84] then some [c4] else if p=[82] then some [c2] else if p=[69] then some [c3] else none
def tF (e:List UInt8→Option (List UInt8)) (i:Nat) (p:List UInt8):Option (List UInt8):=if i % 2=0 then some p else e p
def iL (e:List UInt8→Option (List UInt8)):Nat→List (List UInt8)→Option (List UInt8)
 | _,[]=>some []
 | i,p :: ps=>match tF e i p with
  | none=>none
  | some t=>(iL e (i+1) ps).map (t++·)
def kQ (c0 c1 c2 c3 c4:UInt8) (l:List UInt8):Option (List UInt8) :=
 if (bI c3 l).length % 2=0 then none else iL (q9 c0 c1 c2 c3 c4) 0 (bI c3 l)
theorem kR (a:List UInt8):(txt a).toList=a:=by
 rw[ByteArray.toList_eq]
 exact eU a
theorem UQ (s:ByteArray) (i:Nat) (h:i<s.size):s.extract i (i+1)=txt [s[i]]:=by
 rw[jc]
 congr 1
 have hl:i<s.data.toList.length:=by simpa using h
 rw[List.take_succ_eq_append_getElem hl,List.drop_append_of_le_length (by rw[List.length_take];omega),List.drop_eq_nil_of_le (by rw[List.length_take];omega)]
 rfl
theorem Bj {x:Option (List UInt8)} (h:x=none):Ending.returned (.tuple #[.string ⟨#[]⟩,.bool false])=.returned (.tuple #[.string (txt (x.getD [])),.bool x.isSome]):=by subst h;rfl
theorem Qo {x:Option (List UInt8)} {acc:List UInt8} (h:x=some acc):Ending.returned (.tuple #[.string (txt acc),.bool true])=.returned (.tuple #[.string (txt (x.getD [])),.bool x.isSome]):=by subst h;rfl
theorem Qp {c0 c1 c2 c3 c4:UInt8} {p t:List UInt8} (h:q9 c0 c1 c2 c3 c4 p=some t):t.length≤p.length:=by
 unfold q9 at h
 repeat' split at h
 all_goals first
  | (injection h with h;subst h;rename_i hp;rw[hp];exact aS _)
  | cases h
theorem Nz {c0 c1 c2 c3 c4:UInt8} {i:Nat} {p t:List UInt8} (h:tF (q9 c0 c1 c2 c3 c4) i p=some t):t.length≤p.length:=by
 unfold tF at h
 split at h
 ·injection h with h;subst h;exact aS _
 ·exact Qp h
theorem zD (c0 c1 c2 c3 c4:UInt8):∀(ps:List (List UInt8)) (i:Nat) (t:List UInt8),iL (q9 c0 c1 c2 c3 c4) i ps=some t→t.length≤(ps.map List.length).sum
 | [],i,t,h=>by unfold iL at h;injection h with h;subst h;exact eH _
 | p :: ps,i,t,h=>by
  unfold iL at h
  cases hp:tF (q9 c0 c1 c2 c3 c4) i p with
  | none=>rw[hp] at h;cases h
  | some u =>
   rw[hp] at h
   cases hr:iL (q9 c0 c1 c2 c3 c4) (i+1) ps with
   | none=>simp only[hr] at h;cases h
   | some r =>
    simp only[hr,Option.map_some,Option.some.injEq] at h
    subst h
    have h1:=Nz hp
    have h2:=zD c0 c1 c2 c3 c4 ps (i+1) r hr
    simp only[List.length_append,List.map_cons,List.sum_cons]
    omega
theorem yN (c:UInt8):∀(l cur:List UInt8),((bU c cur l).map List.length).sum≤cur.length+l.length
 | [],cur=>by simp[bU]
 | x :: xs,cur=>by
  unfold bU
  split
  ·have:=yN c xs []
   simp only[List.map_cons,List.sum_cons,List.length_cons,List.length_nil] at *
   omega
  ·have:=yN c xs (cur++[x])
   simp only[List.length_append,List.length_cons,List.length_nil] at *
   omega
theorem Bl {c0 c1 c2 c3 c4:UInt8} {l t:List UInt8} (h:kQ c0 c1 c2 c3 c4 l=some t):t.length≤l.length:=by
 unfold kQ at h
 split at h
 ·cases h
 ·have h1:=zD c0 c1 c2 c3 c4 _ 0 t h
  have h2:=yN c3 l []
  unfold bI at h1
  simp only[List.length_nil] at h2
  omega
def dK {α β:Type} (f:α→Option β):List α→Option (List β)
 | []=>some []
 | x :: xs=>match f x with
  | none=>none
  | some y=>(dK f xs).map (y :: ·)
theorem yO {α β:Type} {f:α→Option β} {xs:List α} {k:Nat} (hk:k<xs.length) {acc:List β} {y:β} (h:dK f xs=(dK f (xs.drop k)).map (acc++·)) (hy:f xs[k]=some y):dK f xs=(dK f (xs.drop (k+1))).map ((acc++[y])++·):=by
 rw[h,List.drop_eq_getElem_cons hk]
 have e1:dK f (xs[k] :: xs.drop (k+1))=(dK f (xs.drop (k+1))).map (y :: ·):=by
  conv=>lhs;unfold dK
  rw[hy]
 rw[e1]
 simp[Option.map_map,Function.comp_def,List.append_assoc]
theorem yP {α β:Type} {f:α→Option β} {xs:List α} {k:Nat} (hk:k<xs.length) {acc:List β} (h:dK f xs=(dK f (xs.drop k)).map (acc++·)) (hy:f xs[k]=none):dK f xs=none:=by
 rw[h,List.drop_eq_getElem_cons hk]
 have e1:dK f (xs[k] :: xs.drop (k+1))=none:=by
  conv=>lhs;unfold dK
  rw[hy]
 rw[e1]
 rfl
theorem yQ {α β:Type} {f:α→Option β} {xs:List α} {k:Nat} (hk:xs.length≤k) {acc:List β} (h:dK f xs=(dK f (xs.drop k)).map (acc++·)):dK f xs=some acc:=by
 rw[h,List.drop_eq_nil_of_le hk]
 simp[dK]
theorem NA {base:Nat} {e:TypeId} {w w':World} {v:Value} {n:Nat} {vs:List Value} (h:w.ownsRow base e 1 v n vs) (hb:∀b,base≤b→w'.heap[b]?=w.heap[b]?):w'.ownsRow base e 1 v n vs:=by
 obtain⟨hl,⟨rfl,h0⟩|⟨g,cap,cur,rfl,hg,hs,rest⟩⟩:=h
 ·exact⟨hl,.inl ⟨rfl,h0⟩⟩
 ·exact⟨hl,.inr ⟨g,cap,cur,rfl,hg,by rw[hb g hg];exact hs,rest⟩⟩
theorem pQ.nil {α:Type} (O:World→Value→α→List Nat→Prop) (e:TypeId) (base:Nat) (w:World):pQ O e base w (.slice none 0 0) [] :=
 ⟨[],[],rfl,rfl,⟨rfl,.inl ⟨rfl,rfl⟩⟩,by simp,fun i h=>absurd h (by simp)⟩
theorem oG.strs {base:Nat} {w:World} {v:Value} {xs:List ByteArray} (h:oG base w v xs) (hl:xs.length≤1048577) (hz:∀p∈xs,p.size≤9223372036854775807) :
  ∃a cap,v=.slice a xs.length cap∧∃bs,fV w v xs bs∧bs.Nodup∧∀b∈bs,base≤b:=by
 have h':w.ownsRow base 9 1 v (xs.map Value.string).length (xs.map Value.string):=by rw[List.length_map];exact h
 rcases gu h' with⟨h0,rfl⟩|⟨g,cap,rfl,hg,hlt,hc⟩
 ·have:xs=[]:=by simpa using h0
  subst this
  exact⟨none,0,rfl,[],⟨by simp,.inl ⟨_,_,rfl,rfl,rfl⟩⟩,by simp,by simp⟩
 ·rw[List.length_map]
  refine⟨some ⟨g,0,none⟩,cap,rfl,[g],⟨by omega,.inr ⟨g,0,cap,List.replicate xs.length [],rfl,hlt,by simp,by simp,fun i hi h2=>?_⟩⟩,by simp,by simp[hg]⟩
  have:=hc i (by rw[List.length_map];exact hi)
  rw[List.getElem_map] at this
  exact⟨by simpa using this.1,by simpa using this.2,hz _ (List.getElem_mem hi),by simp⟩
set_option maxHeartbeats 400000 in
theorem eO (c:UInt8) (w:World) :
  Calls Tryz.prog 109 #[.int .u8 (c.toNat:Int)] w fun e w'=>e=.returned (.bool (nN c))∧w'=w:=by
 have HC:Hid (nN c=(decide (65≤c.toNat) && decide (c.toNat≤90))):=rfl
 by_cases h1:(65:Int)≤(c.toNat:Int)
 ·by_cases h2:(c.toNat:Int)≤90
  ·go_enter Tryz.func109,Tryz.ntmps109
   go_wp2
   go_ret
   exact⟨aA (by rw[HC.out,decide_eq_true (by omega),decide_eq_true (by omega)];rfl),rfl⟩
  ·go_enter Tryz.func109,Tryz.ntmps109
   go_wp2
   go_ret
   exact⟨aA (by rw[HC.out,decide_eq_false (p:=c.toNat≤90) (by omega),Bool.and_false]),rfl⟩
 ·go_enter Tryz.func109,Tryz.ntmps109
  go_wp2
  go_ret
  exact⟨aA (by rw[HC.out,decide_eq_false (p:=65≤c.toNat) (by omega)];rfl),rfl⟩
set_option maxHeartbeats 400000 in
theorem lF (c:UInt8) (w:World) :
  Calls Tryz.prog 110 #[.int .u8 (c.toNat:Int)] w fun e w'=>e=.returned (.bool (tq c))∧w'=w:=by
 have HC:Hid (tq c=(decide (48≤c.toNat) && decide (c.toNat≤57))):=rfl
 by_cases h1:(48:Int)≤(c.toNat:Int)
 ·by_cases h2:(c.toNat:Int)≤57
  ·go_enter Tryz.func110,Tryz.ntmps110
   go_wp2
   go_ret
   exact⟨aA (by rw[HC.out,decide_eq_true (by omega),decide_eq_true (by omega)];rfl),rfl⟩
  ·go_enter Tryz.func110,Tryz.ntmps110
   go_wp2
   go_ret
   exact⟨aA (by rw[HC.out,decide_eq_false (p:=c.toNat≤57) (by omega),Bool.and_false]),rfl⟩
 ·go_enter Tryz.func110,Tryz.ntmps110
  go_wp2
  go_ret
  exact⟨aA (by rw[HC.out,decide_eq_false (p:=48≤c.toNat) (by omega)];rfl),rfl⟩
set_option maxHeartbeats 400000 in
theorem ni (s:ByteArray) (w:World) (hs:s.size≤9223372036854775807) :
  Calls Tryz.prog 55 #[.string s] w fun e w'=>e=.returned (.bool (dI s))∧w'=w:=by
 go_enter Tryz.func55,Tryz.ntmps55
 go_wp2
 go_loop [6] (fun i=>∃k:Nat,k≤s.size∧i=.int .i64 k∧(s.data.toList.take k).all bZ=true) (fun i=>s.size - (intOf i).toNat)
 case atStart=>exact⟨0,eH _,rfl,rfl⟩
 case round =>
  obtain⟨k,hk,rfl,hall⟩:=hrel
  have HA:=hide hall
  clear hall
  have hsz:s.data.toList.length=s.size:=by simp
  by_cases hlt:k<s.size
  ·have HK:Hid (∀h,s.data.toList[k]'h=s[k]):=fun h=>rfl
   have HP:Hid (bZ s[k]=(decide (32≤s[k].toNat) && decide (s[k].toNat≤126))):=rfl
   by_cases h1:(s[k].toNat:Int)<32
   ·have HF:Hid (bZ s[k]=false):=by rw[HP.out,decide_eq_false (by omega)];rfl
    have HZ:=hide (iy (p:=bZ) (xs:=s.data.toList) (k:=k) (by omega) (by rw[HK.out];exact HF.out))
    clear hsz
    go_wp2
    go_ret
    exact⟨aA HZ.out.symm,rfl⟩
   ·by_cases h2:(126:Int)<(s[k].toNat:Int)
    ·have HF:Hid (bZ s[k]=false):=by rw[HP.out,decide_eq_false (p:=s[k].toNat≤126) (by omega),Bool.and_false];trivial
     have HZ:=hide (iy (p:=bZ) (xs:=s.data.toList) (k:=k) (by omega) (by rw[HK.out];exact HF.out))
     clear hsz
     go_wp2
     go_ret
     exact⟨aA HZ.out.symm,rfl⟩
    ·have HF:Hid (bZ s[k]=true):=by rw[HP.out,decide_eq_true (by omega),decide_eq_true (by omega)];rfl
     have HZ:=hide (jD (p:=bZ) (xs:=s.data.toList) (k:=k) (by omega) HA.out (by rw[HK.out];exact HF.out))
     clear hsz
     go_wp2
     go_round
     case rel=>exact⟨k+1,by omega,by go_num,HZ.out⟩
     case measure=>simp[intOf];omega
  ·have HZ:=hide (jE (by omega) HA.out)
   clear hsz
   go_wp2
   go_ret
   exact⟨aA HZ.out.symm,rfl⟩
set_option maxHeartbeats 1000000 in
theorem eX (s:ByteArray) (w:World) (hs:s.size≤9223372036854775807) :
  Calls Tryz.prog 83 #[.string s] w fun e w'=>e=.returned (.bool (dY s))∧w'=w:=by
 by_cases h3:s.size=3
 ·have HN:=hide (Hr s h3)
  have hne:((s.size:Int) != 3)=false:=by simp;omega
  have Yj:(0:Int)<(s.size:Int):=by omega
  have hne2:(s.size:Int)=3:=by omega
  cases hc:nN (s[0]'(by omega))
  ·have HC:=hide hc
   clear hc
   go_enter Tryz.func83,Tryz.ntmps83
   go_wp2_with fail
   refine(eO (s[0]'(by omega)) _).mono ?_
   rintro e w' ⟨rfl,rfl⟩
   rw[HC.out]
   go_wp2_with fail
   go_ret
   exact⟨aA (by rw[HN.out,HC.out];rfl),rfl⟩
  ·have HC:=hide hc
   clear hc
   go_enter Tryz.func83,Tryz.ntmps83
   go_wp2_with fail
   refine(eO (s[0]'(by omega)) _).mono ?_
   rintro e w' ⟨rfl,rfl⟩
   rw[HC.out]
   go_wp2_with fail
   go_loop [15] (fun i=>∃k:Nat,k≤3∧i=.int .i64 k∧∀j (h:j<s.size),j<k→jW s[j]=true) (fun i=>3 - (intOf i).toNat)
   case atStart=>exact⟨0,by omega,rfl,fun j _ h2=>absurd h2 (by omega)⟩
   case round =>
    obtain⟨k,hk,rfl,hall⟩:=hrel
    have HA:=hide hall
    clear hall
    by_cases hlt:k<3
    ·have hks:k<s.size:=by omega
     have aa2:(k:Int)<(s.size:Int):=by omega
     have HT:Hid (jW s[k]=(nN s[k] || tq s[k])):=rfl
     have UM:Hid (jW s[k]=false→dY s=false):=fun hf=>by
      rw[HN.out]
      rcases(by omega:k=0∨k=1∨k=2) with rfl|rfl|rfl
      ·rw[(Bool.or_eq_false_iff.1 hf).1];rfl
      ·change (_ && (jW s[1] && jW _))=false
       rw[hf];simp
      ·change (_ && (jW _ && jW s[2]))=false
       rw[hf];simp
     have Ht:Hid (jW s[k]=true→∀j (h:j<s.size),j<k+1→jW s[j]=true):=fun ht j h h2=>by
      by_cases e:j=k
      ·subst e;exact ht
      ·exact HA.out j h (by omega)
     cases hcap:nN s[k]
     ·have tu:=hide hcap
      clear hcap
      cases hdig:tq s[k]
      ·have Qq:=hide hdig
       clear hdig
       go_wp2_with fail
       refine(eO s[k] _).mono ?_
       rintro e w' ⟨rfl,rfl⟩
       rw[tu.out]
       go_wp2_with fail
       refine(lF s[k] _).mono ?_
       rintro e w' ⟨rfl,rfl⟩
       rw[Qq.out]
       go_wp2_with fail
       go_ret
       exact⟨aA (UM.out (by rw[HT.out,tu.out,Qq.out];rfl)).symm,rfl⟩
      ·have Qq:=hide hdig
       clear hdig
       go_wp2_with fail
       refine(eO s[k] _).mono ?_
       rintro e w' ⟨rfl,rfl⟩
       rw[tu.out]
       go_wp2_with fail
       refine(lF s[k] _).mono ?_
       rintro e w' ⟨rfl,rfl⟩
       rw[Qq.out]
       go_wp2_with fail
       go_round
       case rel=>exact⟨k+1,by omega,by go_num,Ht.out (by rw[HT.out,tu.out,Qq.out];rfl)⟩
       case measure=>simp[intOf];omega
     ·have tu:=hide hcap
      clear hcap
      go_wp2_with fail
      refine(eO s[k] _).mono ?_
      rintro e w' ⟨rfl,rfl⟩
      rw[tu.out]
      go_wp2_with fail
      go_round
      case rel=>exact⟨k+1,by omega,by go_num,Ht.out (by rw[HT.out,tu.out];rfl)⟩
      case measure=>simp[intOf];omega
    ·obtain rfl:k=3:=by omega
     have HFin:Hid (dY s=true):=by
      rw[HN.out,HC.out]
      change (true && (jW _ && jW _))=true
      rw[HA.out 1 (by omega) (by omega),HA.out 2 (by omega) (by omega)]
      rfl
     go_wp2_with fail
     go_ret
     exact⟨aA HFin.out.symm,rfl⟩
 ·have HN:=hide (MG s h3)
  have hne:((s.size:Int) != 3)=true:=by simp;omega
  have hne2:¬(s.size:Int)=3:=by omega
  go_enter Tryz.func83,Tryz.ntmps83
  go_wp2_with fail
  go_ret
  exact⟨aA HN.out.symm,rfl⟩
theorem tH {base:Nat} {e:TypeId} {w:World} {v:Value} {n:Nat} {vs:List Value} (h:w.ownsRow base e 1 v n vs):∃a cap,v=.slice a n cap:=by
 obtain⟨hl,⟨rfl,h0⟩|⟨g,cap,cur,rfl,hg,hs,rest⟩⟩:=h
 ·exact⟨none,0,by rw[h0]⟩
 ·exact⟨_,_,rfl⟩
def plainO (d:ByteArray) (hd:d.size=5) (t:ByteArray):Option ByteArray:=(kQ d[0] d[1] d[2] d[3] d[4] t.data.toList).map txt
theorem UR {xs:List Field} (h:qB xs=false):xs.length≤30∧∀f∈xs,f.length≤30∧∀r∈f,r.length≤20:=by
 unfold qB at h
 rw[Bool.or_eq_false_iff] at h
 refine⟨by simpa using h.1,fun f hf=>?_⟩
 have h2:xs.all zC=true:=by simpa using h.2
 have h3:=List.all_eq_true.1 h2 f hf
 unfold zC at h3
 rw[Bool.and_eq_true] at h3
 exact⟨by simpa using h3.1,fun r hr=>by have:=List.all_eq_true.1 h3.2 r hr;simpa [Ew] using this⟩
def dw:List Seg→List Value→List Value
 | x :: xs,u :: us=>.string x.name :: u :: dw xs us
 | _,_=>[]
theorem qm:∀(xs:List Seg) (us:List Value) (x:Seg) (u:Value),us.length=xs.length→dw (xs++[x]) (us++[u])=dw xs us++[.string x.name,u]
 | [],[],x,u,_=>rfl
 | y :: xs,v :: us,x,u,h=>by
  simp only[List.length_cons,Nat.add_right_cancel_iff] at h
  simp only[List.cons_append,dw,qm xs us x u h]
theorem pY:∀(xs:List Seg) (us:List Value) (i:Nat) (h:us.length=xs.length) (hi:i<xs.length),(dw xs us)[i * 2]?=some (.string xs[i].name)∧(dw xs us)[i * 2+1]?=some (us[i]'(by omega))
 | x :: xs,u :: us,0,_,_=>⟨rfl,rfl⟩
 | x :: xs,u :: us,i+1,h,hi=>by
  simp only[List.length_cons,Nat.add_right_cancel_iff] at h
  have:=pY xs us i h (by simpa using hi)
  have e1:(i+1) * 2=i * 2+1+1:=by omega
  rw[e1]
  simpa [dw] using this
theorem rz {base:Nat} {e:TypeId} {sz:Nat} {w:World} {v:Value} {n:Nat} {vs:List Value} (h:w.ownsRow base e sz v n vs) {b:Nat} (hb:v.ownBlock=some b):base≤b∧b<w.heap.size:=by
 obtain⟨hl,⟨rfl,h0⟩|⟨g,cap,cur,rfl,hg,hs,rest⟩⟩:=h
 ·simp[Value.ownBlock] at hb
 ·simp[Value.ownBlock] at hb
  subst hb
  exact⟨hg,by rw[Array.getElem?_eq_some_iff] at hs;exact hs.1⟩
theorem jF {base:Nat} {e:TypeId} {sz:Nat} {w w':World} {v:Value} {n:Nat} {vs:List Value} (h:w.ownsRow base e sz v n vs) (hb:Below w.heap.size w w'):w'.ownsRow base e sz v n vs:=by
 obtain⟨hl,⟨rfl,h0⟩|⟨g,cap,cur,rfl,hg,hs,rest⟩⟩:=h
 ·exact⟨hl,.inl ⟨rfl,h0⟩⟩
 ·refine⟨hl,.inr ⟨g,cap,cur,rfl,hg,?_,rest⟩⟩
  rw[hb.block g (by rw[Array.getElem?_eq_some_iff] at hs;exact hs.1)]
  exact hs
theorem mH {base:Nat} {e:TypeId} {sz:Nat} {w w':World} {v:Value} {n:Nat} {vs:List Value} (h:w.ownsRow base e sz v n vs) (hb:∀b,base≤b→w'.heap[b]?=w.heap[b]?):w'.ownsRow base e sz v n vs:=by
 obtain⟨hl,⟨rfl,h0⟩|⟨g,cap,cur,rfl,hg,hs,rest⟩⟩:=h
 ·exact⟨hl,.inl ⟨rfl,h0⟩⟩
 ·exact⟨hl,.inr ⟨g,cap,cur,rfl,hg,by rw[hb g hg];exact hs,rest⟩⟩
theorem yR {base:Nat} {e:TypeId} {sz:Nat} {w:World} {v:Value} {n:Nat} {vs:List Value} (h:w.ownsRow base e sz v n vs):∃a cap,v=.slice a n cap:=by
 obtain⟨hl,⟨rfl,h0⟩|⟨g,cap,cur,rfl,hg,hs,rest⟩⟩:=h
 ·exact⟨none,0,by rw[h0]⟩
 ·exact⟨_,_,rfl⟩
structure j6 (base:Nat) (w:World) (v:Value) (xs:List Seg) (us:List Value) (bss:List (List Nat)):Prop where
 l1:us.length=xs.length
 l2:bss.length=xs.length
 row:w.ownsRow base 54 2 v xs.length (dw xs us)
 nd:bss.flatten.Nodup
 el:∀i (h:i<xs.length) (h1:i<us.length) (h2:i<bss.length),(xs[i].name.size≤9223372036854775807∧aN w us[i] xs[i].fields bss[i])∧∀b∈bss[i],base≤b∧b<w.heap.size∧v.ownBlock≠some b
theorem j6.nil (base:Nat) (w:World):j6 base w (.slice none 0 0) [] [] [] :=
 ⟨rfl,rfl,⟨rfl,.inl ⟨rfl,rfl⟩⟩,by simp,fun i h=>absurd h (by simp)⟩
theorem j6.above {base:Nat} {w w':World} {v:Value} {xs:List Seg} {us:List Value} {bss:List (List Nat)} (h:j6 base w v xs us bss) (hs:w.heap.size≤w'.heap.size) (hb:∀b,base≤b→w'.heap[b]?=w.heap[b]?):j6 base w' v xs us bss :=
 ⟨h.l1,h.l2,mH h.row hb,h.nd,fun i hi g1 g2=>by
  obtain⟨⟨k0,k1⟩,k2⟩:=h.el i hi g1 g2
  exact⟨⟨k0,bS.kept bQ k1 hs fun d hd=>hb d (k2 d hd).1⟩,fun b hb'=>⟨(k2 b hb').1,Nat.lt_of_lt_of_le (k2 b hb').2.1 hs,(k2 b hb').2.2⟩⟩⟩
theorem j6.push {base:Nat} {w w3 w4:World} {v v' u:Value} {xs:List Seg} {us:List Value} {bss:List (List Nat)} {x:Seg} {bs:List Nat} (h:j6 base w v xs us bss) (hbase:base≤w.heap.size)
  (hb:Below w.heap.size w w3) (hx:x.name.size≤9223372036854775807) (hu:aN w3 u x.fields bs) (hf:∀b∈bs,w.heap.size≤b) (hnd:bs.Nodup)
  {n:Nat} (hn:n=xs.length) (ho:w4.ownsRow base 54 2 v' (n+1) (dw xs us++[.string x.name,u])) (hg:w3.grownBy w4 v.ownBlock) (hat:v'.ownBlock=v.ownBlock∨v'.ownBlock=some w3.heap.size) :
  j6 base w4 v' (xs++[x]) (us++[u]) (bss++[bs]):=by
 subst hn
 obtain⟨h1,h2,h3,h4,h5⟩:=h
 have hown:∀b,v.ownBlock=some b→b<w.heap.size:=fun b hb'=>(rz h3 hb').2
 have hold:∀b,b<w.heap.size→v.ownBlock≠some b→w4.heap[b]?=w.heap[b]?:=fun b hb1 hb2=>(hg.block b (Nat.lt_of_lt_of_le hb1 hb.size) (fun e=>hb2 e.symm)).trans (hb.block b hb1)
 have hnew:∀b∈bs,v.ownBlock≠some b:=fun b hb1 e=>by have:=hown b e;have:=hf b hb1;omega
 have Ae:=hg.size
 have hlt3:=bS.lt dD hu
 refine⟨by simp[h1],by simp[h2],by rw[qm _ _ _ _ h1];simpa using ho,?_,fun i hi g1 g2=>?_⟩
 ·rw[List.flatten_append,List.flatten_cons,List.flatten_nil,List.append_nil,List.nodup_append]
  refine⟨h4,hnd,fun a ha c hc e=>?_⟩
  subst e
  rw[List.mem_flatten] at ha
  obtain⟨l,hl,ha⟩:=ha
  obtain⟨i,hi,rfl⟩:=List.getElem_of_mem hl
  have:=((h5 i (by omega) (by omega) hi).2 a ha).2.1
  have:=hf a hc
  omega
 ·by_cases hlt:i<xs.length
  ·obtain⟨⟨k0,k1⟩,k2⟩:=h5 i hlt (by omega) (by omega)
   have a1:(us++[u])[i]=us[i]'(by omega):=List.getElem_append_left (by omega)
   have a2:(bss++[bs])[i]=bss[i]'(by omega):=List.getElem_append_left (by omega)
   have a3:(xs++[x])[i]=xs[i]:=List.getElem_append_left hlt
   rw[a1,a2,a3]
   refine⟨⟨k0,bS.kept bQ k1 (Nat.le_trans hb.size Ae) fun d hd=>hold d (k2 d hd).2.1 (k2 d hd).2.2⟩,fun b hb'=>⟨(k2 b hb').1,by have:=(k2 b hb').2.1;have:=hb.size;omega,?_⟩⟩
   rcases hat with hat|hat
   ·rw[hat];exact(k2 b hb').2.2
   ·rw[hat];intro e;injection e with e;have:=(k2 b hb').2.1;have:=hb.size;omega
  ·have e1:i=xs.length:=by simp at hi;omega
   subst e1
   have e2:(us++[u])[xs.length]=u:=by rw[List.getElem_append_right (by omega)];simp[h1]
   have e3:(bss++[bs])[xs.length]=bs:=by rw[List.getElem_append_right (by omega)];simp[h2]
   have e4:(xs++[x])[xs.length]=x:=by rw[List.getElem_append_right (aS _)];simp
   rw[e2,e3,e4]
   refine⟨⟨hx,bS.kept bQ hu Ae fun d hd=>hg.block d (hlt3 d hd) (fun e=>hnew d hd e.symm)⟩,fun b hb'=>⟨Nat.le_trans hbase (hf b hb'),Nat.lt_of_lt_of_le (hlt3 b hb') Ae,?_⟩⟩
   rcases hat with hat|hat
   ·rw[hat];exact hnew b hb'
   ·rw[hat];intro e;injection e with e;have:=hlt3 b hb';omega
theorem j6.kg {base:Nat} {w:World} {v:Value} {xs:List Seg} {us:List Value} {bss:List (List Nat)} (h:j6 base w v xs us bss) (hl:xs.length≤9223372036854775807) :
  ∃bs,pV w v xs bs∧bs.Nodup∧∀b∈bs,base≤b:=by
 obtain⟨h1,h2,h3,h4,h5⟩:=h
 obtain⟨hlen,⟨rfl,h0⟩|⟨g,cap,cur,rfl,hg,hs,hcap,hm,hsz,htk⟩⟩:=h3
 ·have:xs=[]:=List.length_eq_zero_iff.1 h0
  subst this
  exact⟨[],⟨by simp,.inl ⟨_,_,rfl,rfl,rfl⟩⟩,by simp,by simp⟩
 ·have Qg:g<w.heap.size:=by rw[Array.getElem?_eq_some_iff] at hs;exact hs.1
  have hcell:∀j (u:Value),j<xs.length * 2→(dw xs us)[j]?=some u→w.cell? ⟨g,j,none⟩=some u:=by
   intro j u hj hu
   rw[←htk,List.getElem?_take,if_pos hj] at hu
   simp only[World.cell?,hs]
   rw[←Array.getElem?_toList]
   exact hu
  refine⟨g :: bss.flatten,⟨hl,.inr ⟨g,0,cap,bss,rfl,Qg,rfl,h2,fun i hi hi2=>?_⟩⟩,?_,?_⟩
  ·obtain⟨⟨k0,k1⟩,k2⟩:=h5 i hi (by omega) hi2
   obtain⟨c1,c2⟩:=pY xs us i h1 hi
   refine⟨by have:=hcell _ _ (by omega) c1;simpa using this,?_,k0,us[i]'(by omega),by have:=hcell _ _ (by omega) c2;simpa using this,k1⟩
   simp[World.frozen?,hs]
  ·rw[List.nodup_cons]
   refine⟨fun hm=>?_,h4⟩
   rw[List.mem_flatten] at hm
   obtain⟨l,hl',hm⟩:=hm
   obtain⟨i,hi,rfl⟩:=List.getElem_of_mem hl'
   exact((h5 i (by omega) (by omega) hi).2 g hm).2.2 (by simp[Value.ownBlock])
  ·intro b hb
   rw[List.mem_cons,List.mem_flatten] at hb
   rcases hb with rfl|⟨l,hl',hm⟩
   ·exact hg
   ·obtain⟨i,hi,rfl⟩:=List.getElem_of_mem hl'
    exact((h5 i (by omega) (by omega) hi).2 b hm).1
def cO (d:ByteArray) (hd:d.size=5) (l:List UInt8):List Field:=(xw d[0] d[1] d[2] l).map bL
def cB (i:Nat) (p:List UInt8):List UInt8:=if i=0 then p.drop 8 else p.drop 3
def nk (d:ByteArray) (hd:d.size=5) (i:Nat) (p:List UInt8):Except Nat Seg :=
 if p.length<3∨dY (txt (p.take 3))=false∨(0<i∧p.take 3=[77,83,72]) then .error 4
 else if (cB i p).head?.any (fun c=>c != d[0])=true then .error 4
 else if 250≤i∨qB (cO d hd (cB i p))=true then .error 5
 else match dK (dK (dK (plainO d hd))) (cO d hd (cB i p)) with
  | none=>.error 6
  | some g=>.ok ⟨txt (p.take 3),g⟩
def dS (d:ByteArray) (hd:d.size=5):Nat→List (List UInt8)→Except Nat (List Seg)
 | _,[]=>.ok []
 | i,p :: ps=>match nk d hd i p with
  | .error c=>.error c
  | .ok x=>(dS d hd (i+1) ps).map (x :: ·)
theorem NC {d:ByteArray} {hd:d.size=5} {ps:List (List UInt8)} {k:Nat} (hk:k<ps.length) {acc:List Seg} {x:Seg} (h:dS d hd 0 ps=(dS d hd k (ps.drop k)).map (acc++·)) (hx:nk d hd k ps[k]=.ok x) :
  dS d hd 0 ps=(dS d hd (k+1) (ps.drop (k+1))).map ((acc++[x])++·):=by
 rw[h,List.drop_eq_getElem_cons hk]
 have e1:dS d hd k (ps[k] :: ps.drop (k+1))=(dS d hd (k+1) (ps.drop (k+1))).map (x :: ·):=by
  conv=>lhs;unfold dS
  rw[hx]
 rw[e1]
 cases dS d hd (k+1) (ps.drop (k+1)) with
 | error c=>rfl
 | ok ys=>simp[Except.map]
theorem ND {d:ByteArray} {hd:d.size=5} {ps:List (List UInt8)} {k c:Nat} (hk:k<ps.length) {acc:List Seg} (h:dS d hd 0 ps=(dS d hd k (ps.drop k)).map (acc++·)) (hx:nk d hd k ps[k]=.error c):dS d hd 0 ps=.error c:=by
 rw[h,List.drop_eq_getElem_cons hk]
 have e1:dS d hd k (ps[k] :: ps.drop (k+1))=.error c:=by
  conv=>lhs;unfold dS
  rw[hx]
 rw[e1]
 rfl
theorem NG {d:ByteArray} {hd:d.size=5} {ps:List (List UInt8)} {k:Nat} (hk:ps.length≤k) {acc:List Seg} (h:dS d hd 0 ps=(dS d hd k (ps.drop k)).map (acc++·)):dS d hd 0 ps=.ok acc:=by
 rw[h,List.drop_eq_nil_of_le hk]
 simp[dS,Except.map]
def dL (l:List UInt8):List (List UInt8):=if (bI 13 l).getLast?=some [] then (bI 13 l).dropLast else bI 13 l
def eB (s:ByteArray):Bool:=decide (8≤s.size) && ((s.extract 0 3).toList == [77,83,72] && (pX (s.extract 3 8) && (decide (s.size≤8) || (s.data.toList[8]? == some 13 || s.data.toList[8]? == s.data.toList[3]?))))
theorem head_size {s:ByteArray} (h:eB s=true):(s.extract 3 8).size=5:=by
 unfold eB at h
 rw[Bool.and_eq_true] at h
 have:8≤s.size:=by simpa using h.1
 rw[ByteArray.size_extract]
 omega
def kS (s:ByteArray):Except Nat (List Seg) :=
 if s.size=0∨40000<s.size then .error 1
 else if lY s=false then .error 2
 else if h:eB s=true then dS (s.extract 3 8) (head_size h) 0 (dL s.data.toList)
 else .error 3
theorem mJ {α:Type} {p:α→Bool} {xs:List α} {x:α} (h:x∈ay p xs):x∈xs:=List.mem_of_mem_take h
theorem NH (c1:UInt8) (l:List UInt8):∀c∈dF c1 l,c.length≤l.length:=fun c h=>jQ c1 l c (mJ h)
theorem Qr (c1 c2:UInt8) (l:List UInt8):∀r∈dX c1 c2 l,∀c∈r,c.length≤l.length:=fun r hr c hc=>by
 have:=mJ hr
 rw[List.mem_map] at this
 obtain⟨p,hp,rfl⟩:=this
 exact Nat.le_trans (NH c1 p c hc) (jQ c2 l p hp)
theorem Bn (c0 c1 c2:UInt8) (l:List UInt8):∀f∈xw c0 c1 c2 l,∀r∈f,∀c∈r,c.length≤l.length:=fun f hf r hr c hc=>by
 cases l with
 | nil=>cases hf
 | cons x l =>
  have:=mJ hf
  rw[List.mem_map] at this
  obtain⟨p,hp,rfl⟩:=this
  have h1:=Qr c1 c2 p r hr c hc
  have h2:=jQ c0 l p hp
  simp only[List.length_cons]
  omega
theorem Kq (d:ByteArray) (hd:d.size=5) (l:List UInt8) (hl:l.length≤1048576):∀f∈cO d hd l,∀r∈f,∀c∈r,c.size≤1048576:=fun f hf r hr c hc=>by
 unfold cO at hf
 rw[List.mem_map] at hf
 obtain⟨f',hf',rfl⟩:=hf
 unfold bL at hr
 rw[List.mem_map] at hr
 obtain⟨r',hr',rfl⟩:=hr
 unfold jR at hc
 rw[List.mem_map] at hc
 obtain⟨c',hc',rfl⟩:=hc
 rw[dn]
 have:=Bn _ _ _ l f' hf' r' hr' c' hc'
 omega
theorem qb (s:ByteArray):s.toList.length=s.size:=by rw[ByteArray.toList_eq];simp
theorem nP (s:ByteArray) (w:World) :
  Calls Tryz.prog 116 #[.string s] w fun e w'=>e=.returned (.bool (decide (s.size=0)))∧w'=w:=by
 have HE:Hid (s.toList.isEmpty=decide (s.size=0)):=by
  show s.toList.isEmpty=decide (s.size=0)
  rw[←qb]
  cases s.toList <;> simp
 go_enter Tryz.func116,Tryz.ntmps116
 go_wp2
 go_ret
 exact⟨aA HE.out,rfl⟩
theorem oI (a:Option Addr) (n c:Nat) (w:World) :
  Calls Tryz.prog 118 #[.agg #[.slice a n c]] w fun e w'=>e=.returned (.bool (decide (n=0)))∧w'=w.alloc (.cells #[.slice a n c] 60):=by
 have HE:Hid (((n:Int) == 0)=decide (n=0)):=by
  show ((n:Int) == 0)=decide (n=0)
  by_cases h:n=0
  ·subst h;rfl
  ·rw[decide_eq_false h,beq_eq_false_iff_ne];omega
 go_enter Tryz.func118,Tryz.ntmps118
 go_wp2
 go_ret
 exact⟨aA HE.out,rfl⟩
theorem mO (a:Option Addr) (n c:Nat) (w:World) :
  Calls Tryz.prog 88 #[.agg #[.slice a n c]] w fun e w'=>e=.returned (.bool (decide (n=0)))∧w'=w.alloc (.cells #[.slice a n c] 57):=by
 have HE:Hid (((n:Int) == 0)=decide (n=0)):=by
  show ((n:Int) == 0)=decide (n=0)
  by_cases h:n=0
  ·subst h;rfl
  ·rw[decide_eq_false h,beq_eq_false_iff_ne];omega
 go_enter Tryz.func88,Tryz.ntmps88
 go_wp2
 go_ret
 exact⟨aA HE.out,rfl⟩
def sJ {α:Type} (lim:Nat) (f:α→Nat) (xs:List α):Bool:=decide (xs.length≤lim) && iT f xs
set_option maxHeartbeats 1000000 in
theorem vH (xs:List ByteArray) (lim:Nat) (v:Value) (w:World) {lo:Nat} (hv:bq lo w v xs) (hlim:lim≤1000) :
  Calls Tryz.prog 134 #[v,.int .i64 lim,.func (.func 116) #[] #[]] w fun e w'=>e=.returned (.bool (sJ lim ByteArray.size xs))∧w'=w:=by
 have hl:=hv.1
 obtain⟨a,cap,rfl,hc⟩:=hv.form
 have HR:Hid (sJ lim ByteArray.size xs=(decide (xs.length≤lim) && iT ByteArray.size xs)):=rfl
 by_cases hle:(xs.length:Int)≤(lim:Int)
 ·by_cases h0:xs.length=0
  ·have hz:((xs.length:Int) == 0)=true:=by rw[beq_iff_eq];omega
   have HX:Hid (sJ lim ByteArray.size xs=true):=by rw[HR.out,qA _ _ h0,decide_eq_true (by omega)];rfl
   clear h0 hc hv
   go_enter Tryz.func134,Tryz.ntmps134
   go_wp2_with fail
   go_ret
   exact⟨aA HX.out.symm,rfl⟩
  ·have hz:((xs.length:Int) == 0)=false:=by rw[beq_eq_false_iff_ne];omega
   have hi:xs.length - 1<xs.length:=by omega
   obtain⟨b,off,rfl,_,hbl,hr⟩:=hc (xs.length - 1) hi
   have hlast:w.cell? ⟨b,off+(xs.length - 1),none⟩=some (.string (xs[xs.length - 1]'hi)):=by simpa using hr.1
   have HE:Hid (iT ByteArray.size xs=decide (0<(xs[xs.length - 1]'hi).size)):=pW ByteArray.size xs (by omega)
   have hn1:((xs.length:Int) - 1).toNat=xs.length - 1:=by omega
   have hn2:¬(xs.length:Int) - 1<0:=by omega
   clear hr hc hv
   generalize xs[xs.length - 1]'hi=z at *
   have HX:Hid (sJ lim ByteArray.size xs=!decide (z.size=0)):=by
    rw[HR.out,HE.out,decide_eq_true (by omega),Bool.true_and]
    by_cases hq:z.size=0
    ·rw[decide_eq_true hq,decide_eq_false (by omega)];rfl
    ·rw[decide_eq_false hq,decide_eq_true (by omega)];rfl
   obtain⟨bz,HB⟩:∃b,Hid (decide (z.size=0)=b):=⟨_,rfl⟩
   clear h0
   go_enter Tryz.func134,Tryz.ntmps134
   go_wp2_with fail
   refine(nP z _).mono ?_
   rintro e w' ⟨rfl,rfl⟩
   rw[HB.out]
   go_wp2_with fail
   go_ret
   exact⟨aA (by rw[HX.out,HB.out]),rfl⟩
 ·have HX:Hid (sJ lim ByteArray.size xs=false):=by rw[HR.out,decide_eq_false (by omega)];rfl
  clear hc hv
  go_enter Tryz.func134,Tryz.ntmps134
  go_wp2_with fail
  go_ret
  exact⟨aA HX.out.symm,rfl⟩
set_option maxHeartbeats 1000000 in
theorem vI (xs:List lW) (lim:Nat) (v:Value) (w:World) {lo:Nat} (hv:gL lo w v xs) (hlim:lim≤1000) :
  Calls Tryz.prog 120 #[v,.int .i64 lim,.func (.func 118) #[] #[]] w fun e w'=>e=.returned (.bool (sJ lim List.length xs))∧Below w.heap.size w w':=by
 have hl:=hv.1
 obtain⟨a,cap,rfl,hc⟩:=hv.form
 have HR:Hid (sJ lim List.length xs=(decide (xs.length≤lim) && iT List.length xs)):=rfl
 by_cases hle:(xs.length:Int)≤(lim:Int)
 ·by_cases h0:xs.length=0
  ·have hz:((xs.length:Int) == 0)=true:=by rw[beq_iff_eq];omega
   have HX:Hid (sJ lim List.length xs=true):=by rw[HR.out,qA _ _ h0,decide_eq_true (by omega)];rfl
   clear h0 hc hv
   go_enter Tryz.func120,Tryz.ntmps120
   go_wp2_with fail
   go_ret
   exact⟨aA HX.out.symm,Below.refl _ _⟩
  ·have hz:((xs.length:Int) == 0)=false:=by rw[beq_eq_false_iff_ne];omega
   have hi:xs.length - 1<xs.length:=by omega
   obtain⟨b,off,rfl,_,hbl,ve,hcell,hel⟩:=hc (xs.length - 1) hi
   have hlast:w.cell? ⟨b,off+(xs.length - 1),none⟩=some ve:=by simpa using hcell
   obtain⟨a5,cap5,rfl,_⟩:=hel.form
   have HE:Hid (iT List.length xs=decide (0<(xs[xs.length - 1]'hi).length)):=pW List.length xs (by omega)
   have hn1:((xs.length:Int) - 1).toNat=xs.length - 1:=by omega
   have hn2:¬(xs.length:Int) - 1<0:=by omega
   clear hcell hel hc hv
   generalize xs[xs.length - 1]'hi=z at *
   have HX:Hid (sJ lim List.length xs=!decide (z.length=0)):=by
    rw[HR.out,HE.out,decide_eq_true (by omega),Bool.true_and]
    by_cases hq:z.length=0
    ·rw[decide_eq_true hq,decide_eq_false (by omega)];rfl
    ·rw[decide_eq_false hq,decide_eq_true (by omega)];rfl
   obtain⟨bz,HB⟩:∃b,Hid (decide (z.length=0)=b):=⟨_,rfl⟩
   clear h0
   go_enter Tryz.func120,Tryz.ntmps120
   go_wp2_with fail
   refine(oI _ _ _ _).mono ?_
   rintro e w' ⟨rfl,rfl⟩
   rw[HB.out]
   go_wp2_with fail
   go_ret
   exact⟨aA (by rw[HX.out,HB.out]),aO _ _⟩
 ·have HX:Hid (sJ lim List.length xs=false):=by rw[HR.out,decide_eq_false (by omega)];rfl
  clear hc hv
  go_enter Tryz.func120,Tryz.ntmps120
  go_wp2_with fail
  go_ret
  exact⟨aA HX.out.symm,Below.refl _ _⟩
set_option maxHeartbeats 1000000 in
theorem vJ (xs:List Field) (lim:Nat) (v:Value) (w:World) {lo:Nat} (hv:aG lo w v xs) (hlim:lim≤1000) :
  Calls Tryz.prog 87 #[v,.int .i64 lim,.func (.func 88) #[] #[]] w fun e w'=>e=.returned (.bool (sJ lim List.length xs))∧Below w.heap.size w w':=by
 have hl:=hv.1
 obtain⟨a,cap,rfl,hc⟩:=hv.form
 have HR:Hid (sJ lim List.length xs=(decide (xs.length≤lim) && iT List.length xs)):=rfl
 by_cases hle:(xs.length:Int)≤(lim:Int)
 ·by_cases h0:xs.length=0
  ·have hz:((xs.length:Int) == 0)=true:=by rw[beq_iff_eq];omega
   have HX:Hid (sJ lim List.length xs=true):=by rw[HR.out,qA _ _ h0,decide_eq_true (by omega)];rfl
   clear h0 hc hv
   go_enter Tryz.func87,Tryz.ntmps87
   go_wp2_with fail
   go_ret
   exact⟨aA HX.out.symm,Below.refl _ _⟩
  ·have hz:((xs.length:Int) == 0)=false:=by rw[beq_eq_false_iff_ne];omega
   have hi:xs.length - 1<xs.length:=by omega
   obtain⟨b,off,rfl,_,hbl,ve,hcell,hel⟩:=hc (xs.length - 1) hi
   have hlast:w.cell? ⟨b,off+(xs.length - 1),none⟩=some ve:=by simpa using hcell
   obtain⟨a5,cap5,rfl,_⟩:=hel.form
   have HE:Hid (iT List.length xs=decide (0<(xs[xs.length - 1]'hi).length)):=pW List.length xs (by omega)
   have hn1:((xs.length:Int) - 1).toNat=xs.length - 1:=by omega
   have hn2:¬(xs.length:Int) - 1<0:=by omega
   clear hcell hel hc hv
   generalize xs[xs.length - 1]'hi=z at *
   have HX:Hid (sJ lim List.length xs=!decide (z.length=0)):=by
    rw[HR.out,HE.out,decide_eq_true (by omega),Bool.true_and]
    by_cases hq:z.length=0
    ·rw[decide_eq_true hq,decide_eq_false (by omega)];rfl
    ·rw[decide_eq_false hq,decide_eq_true (by omega)];rfl
   obtain⟨bz,HB⟩:∃b,Hid (decide (z.length=0)=b):=⟨_,rfl⟩
   clear h0
   go_enter Tryz.func87,Tryz.ntmps87
   go_wp2_with fail
   refine(mO _ _ _ _).mono ?_
   rintro e w' ⟨rfl,rfl⟩
   rw[HB.out]
   go_wp2_with fail
   go_ret
   exact⟨aA (by rw[HX.out,HB.out]),aO _ _⟩
 ·have HX:Hid (sJ lim List.length xs=false):=by rw[HR.out,decide_eq_false (by omega)];rfl
  clear hc hv
  go_enter Tryz.func87,Tryz.ntmps87
  go_wp2_with fail
  go_ret
  exact⟨aA HX.out.symm,Below.refl _ _⟩
end Go.Proofs.YtfdihjnlgdiioaaGreatDoor.dB
