import Derived.Lib.ItoaMem
import Derived.Lib.AtoiAllCases
import Derived.Test.YtglcdcekkglmiaaGreatDoorG1
import Derived.Deep.RegionHeld3
import Derived.Deep.LoopGhost
namespace Go.Proofs.YtglcdcekkglmiaaGreatDoor.Msg
open Go.Lib
set_option linter.unusedVariables false
def decV (acc:Nat):List UInt8→Nat
 | []=>acc
 | c :: r=>decV (acc * 10+(c.toNat - 48)) r
def digitB (c:UInt8):Bool:=decide (48≤c.toNat) && decide (c.toNat≤57)
def numS (l:List UInt8):Int :=
 if l.length<1 then -1 else if 9<l.length then -1 else if l.all digitB then (if decDigits (decV 0 l) == l then (decV 0 l:Int) else -1) else -1
def numI (l:List UInt8):Int:=match atoiAll l with
 | .ok v=>if itoa v == l then v else 0
 | _=>0
theorem decV_snoc:∀(l:List UInt8) (acc:Nat) (c:UInt8),decV acc (l++[c])=decV acc l * 10+(c.toNat - 48)
 | [],acc,c=>rfl
 | b :: r,acc,c=>by
  show decV _ (r++[c])=_
  rw[decV_snoc r]
  rfl
theorem decV_ge:∀(l:List UInt8) (acc:Nat),acc≤decV acc l
 | [],acc=>Nat.le_refl _
 | c :: r,acc=>Nat.le_trans (by omega) (decV_ge r _)
theorem parse_digits:∀(l:List UInt8) (acc:Nat),l.all digitB=true→decV acc l<18446744073709551616→parseUint10 acc l=.ok (decV acc l)
 | [],acc,_,_=>rfl
 | c :: r,acc,ha,h=>by
  rw[List.all_cons,Bool.and_eq_true] at ha
  have h2:=ha.1
  simp only[digitB,Bool.and_eq_true,decide_eq_true_eq] at h2
  have h3:=decV_ge r (acc * 10+(c.toNat - 48))
  have h4:decV acc (c :: r)=decV (acc * 10+(c.toNat - 48)) r:=rfl
  rw[h4] at h ⊢
  show (if 48≤c.toNat∧c.toNat≤57 then _ else _)=_
  rw[if_pos h2,if_neg (by omega),if_neg (by omega)]
  exact parse_digits r _ ha.2 h
theorem digit_nat (d:Nat) (h:d<10):(UInt8.ofNat (48+d)).toNat=48+d:=by
 rw[UInt8.toNat_ofNat']
 omega
theorem dec_spells (u:Nat):decV 0 (decDigits u)=u∧(decDigits u).all digitB=true∧1≤(decDigits u).length:=by
 induction u using Nat.strongRecOn with
 | _ u ih =>
  rw[decDigits]
  split
  ·rename_i h
   refine⟨?_,?_,by simp⟩
   ·show 0 * 10+((UInt8.ofNat (48+u)).toNat - 48)=u
    rw[digit_nat u h];omega
   ·simp only[List.all_cons,List.all_nil,digitB,digit_nat u h,Bool.and_true,Bool.and_eq_true,decide_eq_true_eq];omega
  ·rename_i h
   obtain⟨h1,h2,h3⟩:=ih (u / 10) (by omega)
   refine⟨?_,?_,by simp⟩
   ·rw[decV_snoc,h1,digit_nat _ (by omega)];omega
   ·rw[List.all_append,h2]
    simp only[List.all_cons,List.all_nil,digitB,digit_nat (u % 10) (by omega),Bool.and_true,Bool.true_and,Bool.and_eq_true,decide_eq_true_eq]
    omega
theorem dec_len (k:Nat):∀u,u<10 ^ (k+1)→(decDigits u).length≤k+1:=by
 induction k with
 | zero=>intro u h;rw[decDigits,dif_pos (by omega)];simp
 | succ k ih =>
  intro u h
  rw[decDigits]
  split
  ·simp
  ·have h2:u / 10<10 ^ (k+1):=by rw[Nat.pow_succ] at h;omega
   have:=ih _ h2
   rw[List.length_append]
   simp
   omega
theorem numI_dec (u:Nat) (h:u<9223372036854775808):numI (decDigits u)=u:=by
 obtain⟨h1,h2,h3⟩:=dec_spells u
 have e:atoiAll (decDigits u)=.ok (u:Int):=by
  have hp:=parse_digits (decDigits u) 0 h2 (by omega)
  rw[h1] at hp
  cases hl:decDigits u with
  | nil=>rw[hl] at h3;simp at h3
  | cons c r =>
   rw[hl] at h2 hp
   rw[List.all_cons,Bool.and_eq_true] at h2
   have h4:=h2.1
   simp only[digitB,Bool.and_eq_true,decide_eq_true_eq] at h4
   rw[atoiAll_plain c r (by omega) (by omega)]
   unfold parseMag
   rw[if_neg (by simp),hp]
   show (if 9223372036854775808≤u then _ else _)=_
   rw[if_neg (by omega)]
 unfold numI
 rw[e]
 show (if itoa (u:Int) == decDigits u then _ else _)=_
 rw[itoa_nonneg,if_pos (by simp)]
theorem numS_dec (u:Nat) (h:u<1000000000):numS (decDigits u)=u:=by
 obtain⟨h1,h2,h3⟩:=dec_spells u
 have h4:=dec_len 8 u (by omega)
 unfold numS
 rw[if_neg (by omega),if_neg (by omega),if_pos h2,h1]
 simp
end Go.Proofs.YtglcdcekkglmiaaGreatDoor.Msg
namespace Go.Proofs.YtglcdcekkglmiaaGreatDoor.Msg
open Go.ChangeShapes Go.WideShapes Go.ChangeAt Go.RowKit
set_option linter.unusedVariables false
set_option linter.unusedSimpArgs false
def boundB (lo hi:Nat) (s:ByteArray):Bool:=decide (lo≤s.size) && (decide (s.size≤hi) && plainB s)
def tagB (s:ByteArray):Bool:=boundB 1 16 s
def textB (s:ByteArray):Bool:=boundB 0 200 s
theorem bound_lo {lo hi:Nat} {s:ByteArray} (h:¬lo≤s.size):boundB lo hi s=false:=by unfold boundB;rw[decide_eq_false h];rfl
theorem bound_hi {lo hi:Nat} {s:ByteArray} (h:¬s.size≤hi):boundB lo hi s=false:=by unfold boundB;rw[decide_eq_false (p:=s.size≤hi) h,Bool.false_and,Bool.and_false]
theorem bound_in {lo hi:Nat} {s:ByteArray} (h:lo≤s.size) (h':s.size≤hi):boundB lo hi s=plainB s:=by unfold boundB;rw[decide_eq_true h,decide_eq_true h'];rfl
set_option maxHeartbeats 400000 in
theorem tagSpec_any (s:ByteArray) (w:World) (hs:s.size≤9223372036854775807) :
  Calls Tryz.prog 51 #[.string s] w fun e w'=>e=.returned (.bool (tagB s))∧w'=w:=by
 by_cases h1:(1:Int)≤(s.size:Int)
 ·by_cases h2:(s.size:Int)≤16
  ·have HX:Hid (tagB s=plainB s):=bound_in (by omega) (by omega)
   go_enter Tryz.func51,Tryz.ntmps51
   go_wp2_with (go_at_call 84;refine(plain_any s _ hs).mono ?_;rintro e w' ⟨rfl,rfl⟩)
   go_ret
   exact⟨ret_bool HX.out.symm,rfl⟩
  ·have HX:Hid (tagB s=false):=bound_hi (by omega)
   go_enter Tryz.func51,Tryz.ntmps51
   go_wp2_with fail
   go_ret
   exact⟨ret_bool HX.out.symm,rfl⟩
 ·have HX:Hid (tagB s=false):=bound_lo (by omega)
  go_enter Tryz.func51,Tryz.ntmps51
  go_wp2_with fail
  go_ret
  exact⟨ret_bool HX.out.symm,rfl⟩
set_option maxHeartbeats 400000 in
theorem textSpec_any (s:ByteArray) (w:World) (hs:s.size≤9223372036854775807) :
  Calls Tryz.prog 52 #[.string s] w fun e w'=>e=.returned (.bool (textB s))∧w'=w:=by
 by_cases h2:(s.size:Int)≤200
 ·have HX:Hid (textB s=plainB s):=bound_in (by omega) (by omega)
  go_enter Tryz.func52,Tryz.ntmps52
  go_wp2_with (go_at_call 84;refine(plain_any s _ hs).mono ?_;rintro e w' ⟨rfl,rfl⟩)
  go_ret
  exact⟨ret_bool HX.out.symm,rfl⟩
 ·have HX:Hid (textB s=false):=bound_hi (by omega)
  go_enter Tryz.func52,Tryz.ntmps52
  go_wp2_with fail
  go_ret
  exact⟨ret_bool HX.out.symm,rfl⟩
def digC (d:Nat):UInt8:=UInt8.ofNat (48+d)
def decT (u:Nat):ByteArray:=⟨(Lib.decDigits u).toArray⟩
theorem decT_one (u:Nat) (h:u<10):decT u=⟨#[digC u]⟩:=by unfold decT digC;rw[Lib.decDigits,dif_pos h]
theorem decT_more (u:Nat) (h:¬u<10):decT u=decT (u / 10)++⟨#[digC (u % 10)]⟩:=by
 unfold decT digC
 rw[Lib.decDigits,dif_neg h]
 apply ByteArray.ext
 simp
theorem rem_neg (u:Nat):Int.tmod (-(u:Int)) 10 = -((u % 10:Nat):Int):=by
 rw[Int.neg_tmod,Int.tmod_eq_emod_of_nonneg (by omega)]
 omega
theorem quo_neg (u:Nat):Int.tdiv (-(u:Int)) 10 = -((u / 10:Nat):Int):=by
 rw[Int.neg_tdiv,Int.tdiv_eq_ediv_of_nonneg (by omega)]
 omega
theorem digits_cut:∀d,d<10→(⟨#[48,49,50,51,52,53,54,55,56,57]⟩:ByteArray).extract d (d+1)=⟨#[digC d]⟩:=by unfold digC;decide
theorem digit_at (d:Nat) (h:d<10) (w:World):(Instr.slice 9 (.string ⟨#[48,49,50,51,52,53,54,55,56,57]⟩) (some (.int .i64 (d:Int))) (some (.int .i64 ((d:Int)+1))) none).run Tryz.prog w=.ok (.string ⟨#[digC d]⟩) w:=by
 rw[run_slice_string w 9 ⟨#[48,49,50,51,52,53,54,55,56,57]⟩ .i64 .i64 _ _ Tryz.underlying9 (by omega) (by omega) (by show ((d:Int)+1)≤10;omega),show ((d:Int)).toNat=d by omega,show ((d:Int)+1).toNat=d+1 by omega,digits_cut d h]
set_option maxHeartbeats 400000 in
set_option maxRecDepth 100000 in
theorem showDown_any (u:Nat):∀(w:World),u≤9223372036854775807 →
  Calls Tryz.prog 48 #[.int .i64 (-(u:Int))] w fun e w'=>e=.returned (.string (decT u))∧Below w.heap.size w w':=by
 induction u using Nat.strongRecOn with
 | _ u ih =>
  intro w hu
  have hr:=rem_neg u
  have hq:=quo_neg u
  by_cases h:u<10
  ·have h1:(-10:Int) < -(u:Int):=by omega
   have e:u % 10=u:=by omega
   rw[e] at hr
   have hsl:=digit_at u h
   have HX:=hide (decT_one u h)
   clear ih hq e
   go_enter Tryz.func48,Tryz.ntmps48
   go_wp2_with fail
   go_ret
   exact⟨ret_string HX.out.symm,Below.refl _ _⟩
  ·have h1:¬(-10:Int) < -(u:Int):=by omega
   have HX:=hide (decT_more u h)
   have HIH:=hide (ih (u / 10) (by omega))
   obtain⟨d,hd⟩:∃d,u % 10=d:=⟨_,rfl⟩
   have hd10:d<10:=by omega
   rw[hd] at hr HX
   have hsl:=digit_at d hd10
   have hlen:(decT (u / 10)).size≤30:=by
    unfold decT
    have:=dec_len 19 (u / 10) (by omega)
    show (Lib.decDigits (u / 10)).toArray.size≤30
    simp
    omega
   obtain⟨q,hq2⟩:∃q,u / 10=q:=⟨_,rfl⟩
   rw[hq2] at hq HX HIH hlen
   have hq9:q≤9223372036854775807:=by omega
   have hw1:IntKind.i64.wrap ((d:Int)+1)=(d:Int)+1:=by rw[IntKind.wrap_i64];omega
   have hw2:IntKind.i64.wrap (-(q:Int)) = -(q:Int):=by rw[IntKind.wrap_i64];omega
   have hlen2:¬9223372036854775807<(decT q).size+1:=by omega
   clear ih hd hq2
   go_enter Tryz.func48,Tryz.ntmps48
   go_wp2_with fail
   go_region_held3 (fun w'=>Below w.heap.size w w')
    (first|exact(Below.refl _ _).drew|exact hb3)
    (first|(go_at_call 48;refine(HIH.out _ hq9).mono ?_;rintro e w2 ⟨rfl,hb2⟩;have hb3:Below w.heap.size w w2:=bjoin hb2 ((Below.refl _ _).drew)))
   go_wp2_with fail
   go_ret
   exact⟨ret_string HX.out.symm,hb3⟩
set_option maxRecDepth 100000 in
theorem show_any (u:Nat) (w:World) (hu:u≤9223372036854775807) :
  Calls Tryz.prog 20 #[.int .i64 (u:Int)] w fun e w'=>e=.returned (.string (decT u))∧Below w.heap.size w w':=by
 have h0:¬(u:Int)<0:=by omega
 go_enter Tryz.func20,Tryz.ntmps20
 go_wp2_with (go_at_call 48;refine(showDown_any u _ hu).mono ?_;rintro e w2 ⟨rfl,hb2⟩)
 go_ret
 exact⟨rfl,hb2⟩
set_option maxHeartbeats 400000 in
theorem isPlain_any (s:ByteArray) (w:World) (hs:s.size≤9223372036854775807) :
  Calls Tryz.prog 85 #[.string s] w fun e w'=>e=.returned (.bool (plainB s))∧w'=w:=by
 go_enter Tryz.func85,Tryz.ntmps85
 go_wp2
 go_loop [6] (fun i=>∃k:Nat,k≤s.size∧i=.int .i64 k∧(s.data.toList.take k).all plainC=true) (fun i=>s.size - (intOf i).toNat)
 case atStart=>exact⟨0,zrL _,rfl,rfl⟩
 case round =>
  obtain⟨k,hk,rfl,hall⟩:=hrel
  have HA:=hide hall
  clear hall
  have hsz:s.data.toList.length=s.size:=by simp
  by_cases hlt:k<s.size
  ·have HK:Hid (∀h,s.data.toList[k]'h=s[k]):=fun h=>rfl
   have HP:Hid (plainC s[k]=(decide (32≤s[k].toNat) && decide (s[k].toNat≤126))):=rfl
   by_cases h1:(s[k].toNat:Int)<32
   ·have HF:Hid (plainC s[k]=false):=by rw[HP.out,decide_eq_false (by omega)];rfl
    have HZ:=hide (all_fail (p:=plainC) (xs:=s.data.toList) (k:=k) (by omega) (by rw[HK.out];exact HF.out))
    clear hsz
    go_wp2
    go_ret
    exact⟨ret_bool HZ.out.symm,rfl⟩
   ·by_cases h2:(126:Int)<(s[k].toNat:Int)
    ·have HF:Hid (plainC s[k]=false):=by rw[HP.out,decide_eq_false (p:=s[k].toNat≤126) (by omega),Bool.and_false];trivial
     have HZ:=hide (all_fail (p:=plainC) (xs:=s.data.toList) (k:=k) (by omega) (by rw[HK.out];exact HF.out))
     clear hsz
     go_wp2
     go_ret
     exact⟨ret_bool HZ.out.symm,rfl⟩
    ·have HF:Hid (plainC s[k]=true):=by rw[HP.out,decide_eq_true (by omega),decide_eq_true (by omega)];rfl
     have HZ:=hide (all_step (p:=plainC) (xs:=s.data.toList) (k:=k) (by omega) HA.out (by rw[HK.out];exact HF.out))
     clear hsz
     go_wp2
     go_round
     case rel=>exact⟨k+1,by omega,by go_num,HZ.out⟩
     case measure=>simp[intOf];omega
  ·have HZ:=hide (all_done (by omega) HA.out)
   clear hsz
   go_wp2
   go_ret
   exact⟨ret_bool HZ.out.symm,rfl⟩
set_option maxHeartbeats 400000 in
theorem isTag_any (s:ByteArray) (w:World) (hs:s.size≤9223372036854775807) :
  Calls Tryz.prog 64 #[.string s] w fun e w'=>e=.returned (.bool (tagB s))∧w'=w:=by
 by_cases h1:(1:Int)≤(s.size:Int)
 ·by_cases h2:(s.size:Int)≤16
  ·have HX:Hid (tagB s=plainB s):=bound_in (by omega) (by omega)
   go_enter Tryz.func64,Tryz.ntmps64
   go_wp2_with (go_at_call 85;refine(isPlain_any s _ hs).mono ?_;rintro e w' ⟨rfl,rfl⟩)
   go_ret
   exact⟨ret_bool HX.out.symm,rfl⟩
  ·have HX:Hid (tagB s=false):=bound_hi (by omega)
   go_enter Tryz.func64,Tryz.ntmps64
   go_wp2_with fail
   go_ret
   exact⟨ret_bool HX.out.symm,rfl⟩
 ·have HX:Hid (tagB s=false):=bound_lo (by omega)
  go_enter Tryz.func64,Tryz.ntmps64
  go_wp2_with fail
  go_ret
  exact⟨ret_bool HX.out.symm,rfl⟩
set_option maxHeartbeats 400000 in
theorem isText_any (s:ByteArray) (w:World) (hs:s.size≤9223372036854775807) :
  Calls Tryz.prog 60 #[.string s] w fun e w'=>e=.returned (.bool (textB s))∧w'=w:=by
 by_cases h2:(s.size:Int)≤200
 ·have HX:Hid (textB s=plainB s):=bound_in (by omega) (by omega)
  go_enter Tryz.func60,Tryz.ntmps60
  go_wp2_with (go_at_call 85;refine(isPlain_any s _ hs).mono ?_;rintro e w' ⟨rfl,rfl⟩)
  go_ret
  exact⟨ret_bool HX.out.symm,rfl⟩
 ·have HX:Hid (textB s=false):=bound_hi (by omega)
  go_enter Tryz.func60,Tryz.ntmps60
  go_wp2_with fail
  go_ret
  exact⟨ret_bool HX.out.symm,rfl⟩
def pageB (n:Int):Bool:=decide (1≤n) && decide (n≤50)
set_option maxHeartbeats 400000 in
theorem isPage_any (n:Int) (w:World) :
  Calls Tryz.prog 61 #[.int .i64 n] w fun e w'=>e=.returned (.bool (pageB n))∧w'=w:=by
 by_cases h1:(1:Int)≤n
 ·by_cases h2:n≤50
  ·have HX:Hid (pageB n=true):=by unfold pageB;rw[decide_eq_true h1,decide_eq_true h2];exact rfl
   go_enter Tryz.func61,Tryz.ntmps61
   go_wp2_with fail
   go_ret
   exact⟨ret_bool HX.out.symm,rfl⟩
  ·have HX:Hid (pageB n=false):=by unfold pageB;rw[decide_eq_true h1,decide_eq_false h2];exact rfl
   go_enter Tryz.func61,Tryz.ntmps61
   go_wp2_with fail
   go_ret
   exact⟨ret_bool HX.out.symm,rfl⟩
 ·have HX:Hid (pageB n=false):=by unfold pageB;rw[decide_eq_false h1];exact rfl
  go_enter Tryz.func61,Tryz.ntmps61
  go_wp2_with fail
  go_ret
  exact⟨ret_bool HX.out.symm,rfl⟩
theorem empty_yes {s:ByteArray} (h:s.size=0):s.toList=[]∧s.toList.isEmpty=true∧(s.toList == [])=true:=by
 have e:s.toList=[]:=by rw[ByteArray.toList_eq];exact List.length_eq_zero_iff.1 (by simpa using h)
 rw[e]
 exact⟨rfl,rfl,rfl⟩
theorem empty_no {s:ByteArray} (h:¬s.size=0):¬s.toList=[]∧s.toList.isEmpty=false∧(s.toList == [])=false:=by
 have e:¬s.toList=[]:=by rw[ByteArray.toList_eq];intro e;have:=congrArg List.length e;simp at this;exact h (by simpa using this)
 refine⟨e,?_,?_⟩
 ·cases hh:s.toList with
  | nil=>exact absurd hh e
  | cons a l=>rfl
 ·simpa using e
def rowsB (rows:List ByteArray) (most:Nat):Bool:=decide (rows.length≤most) && rows.all textB
set_option maxHeartbeats 2000000 in
theorem areRows_any (rows:List ByteArray) (most:Nat) (v:Value) (w:World) {lo:Nat} (hv:StrsAt lo w v rows) :
  Calls Tryz.prog 62 #[v,.int .i64 (most:Int)] w fun e w'=>e=.returned (.bool (rowsB rows most))∧w'=w:=by
 have hl:=hv.1
 obtain⟨a,cap,hf,hc⟩:=hv.form
 subst hf
 have HC:=hide hc
 clear hc hv
 by_cases hlen:(most:Int)<(rows.length:Int)
 ·have HX:Hid (rowsB rows most=false):=by unfold rowsB;rw[decide_eq_false (p:=rows.length≤most) (by omega)];exact rfl
  go_enter Tryz.func62,Tryz.ntmps62
  go_wp2_with fail
  go_ret
  exact⟨ret_bool HX.out.symm,rfl⟩
 have HX:Hid (rowsB rows most=rows.all textB):=by unfold rowsB;rw[decide_eq_true (p:=rows.length≤most) (by omega)];exact rfl
 go_enter Tryz.func62,Tryz.ntmps62
 go_wp2_with fail
 go_loopg [13] rows.length (fun q i wr=>∃k:Nat,k≤rows.length∧q=rows.length - k∧i=.int .i64 (k:Int)∧(rows.take k).all textB=true∧wr=w)
 case atStart=>exact⟨0,zrL _,rfl,rfl,rfl,rfl⟩
 case round =>
  obtain⟨k,hk,rfl,rfl,hall,rfl⟩:=hrel
  have HA:=hide hall
  clear hall
  by_cases hlt:k<rows.length
  ·have hki:(k:Int)<(rows.length:Int):=by omega
   obtain⟨b,off,rfl,_,hbl,hcell,hsz⟩:=HC.out k hlt
   rw[Nat.mul_one] at hcell
   obtain⟨x,hx⟩:∃x,rows[k]=x:=⟨_,rfl⟩
   rw[hx] at hcell hsz
   have HR:=hide (fun W=>isText_any x W hsz)
   cases hxb:textB x
   ·rw[hxb] at HR
    have HN:Hid (rows.all textB=false):=by
     show _=_
     rw[List.all_eq_false]
     exact⟨rows[k],List.getElem_mem _,by rw[hx,hxb];decide⟩
    clear hx
    go_wp2_with (first|(go_at_call 60;refine(HR.out _).mono ?_;rintro e w2 ⟨rfl,rfl⟩))
    go_ret
    exact⟨ret_bool (by rw[HX.out,HN.out]),rfl⟩
   ·rw[hxb] at HR
    have HN:Hid ((rows.take (k+1)).all textB=true):=by
     show _=_
     rw[List.take_succ_eq_append_getElem hlt,List.all_append,HA.out,hx]
     simp[hxb]
    clear hx
    go_wp2_with (first|(go_at_call 60;refine(HR.out _).mono ?_;rintro e w2 ⟨rfl,rfl⟩))
    go_roundg (rows.length - (k+1))
    case measure=>omega
    case rel=>exact⟨k+1,by omega,rfl,by go_num,HN.out,rfl⟩
  ·obtain rfl:k=rows.length:=by omega
   have hki:¬(rows.length:Int)<(rows.length:Int):=by omega
   have HN:Hid (rows.all textB=true):=by have:=HA.out;rw[List.take_length] at this;exact this
   go_wp2_with fail
   go_ret
   exact⟨ret_bool (by rw[HX.out,HN.out]),rfl⟩
end Go.Proofs.YtglcdcekkglmiaaGreatDoor.Msg
