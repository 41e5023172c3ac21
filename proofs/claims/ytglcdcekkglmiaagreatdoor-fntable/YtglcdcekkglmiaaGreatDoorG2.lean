import Derived.WalkKit
import Derived.ProofKit
import Derived.OpenShut
import Derived.ShutString
import Derived.Lib.Strings
import Derived.Lib.Walk
import Derived.Lib.Bytealg
import Derived.BigQuiet
import Derived.Deep.QuietTactic
import Derived.Laws.BytesArg
import Derived.Below
import Derived.Test.YtglcdcekkglmiaaGreatDoorG1
namespace Go.Proofs.YtglcdcekkglmiaaGreatDoor.Frame
open Go.ChangeShapes Go.WideShapes Go.ChangeAt Go.RowKit
theorem hide {p:Prop} (h:p):Hid p:=h
theorem take_snoc (s:ByteArray) (k:Nat) (h:k<s.size):s.data.toList.take (k+1)=s.data.toList.take k++[s[k]]:=by
 rw[List.take_succ_eq_append_getElem (by simpa using h)];rfl
theorem ret_bool {a b:Bool} (h:a=b):Ending.returned (.bool a)=.returned (.bool b):=by rw[h]
theorem ret_string {a b:ByteArray} (h:a=b):Ending.returned (.string a)=.returned (.string b):=by rw[h]
set_option maxRecDepth 100000 in
set_option maxHeartbeats 400000 in
theorem byte_any (n:Int) (w:World) (h0:0≤n) (h1:n≤255) :
  Calls Tryz.prog 82 #[.int .i64 n] w fun e w'=>e=.returned (.string ⟨#[UInt8.ofNat n.toNat]⟩)∧Below w.heap.size w w':=by
 have hr:=run_convert_bytes_arg (P:=Tryz.prog) (w.alloc (Obj.cells #[Value.int IntKind.u8 n] 5)) 22 5 Tryz.underlying22 Tryz.underlying5 w.heap.size 0 1 1 [n] rfl
  (by intro i hi;obtain rfl:i=0:=by omega
      simp) 9 Tryz.underlying9
 go_enter Tryz.func82,Tryz.ntmps82
 go_wp2
 go_ret
 exact⟨rfl,(Below.refl _ _).alloc (Nat.le_refl _) _⟩
end Go.Proofs.YtglcdcekkglmiaaGreatDoor.Frame
namespace Go.Proofs.YtglcdcekkglmiaaGreatDoor.Msg
open Go.ChangeShapes Go.WideShapes Go.ChangeAt Go.RowKit
set_option linter.unusedVariables false
set_option linter.unusedSimpArgs false
def CodeR (_:Nat) (w:World) (b off:Nat) (x:UInt8):Prop:=w.cell? ⟨b,off,none⟩=some (.int .u8 (x.toNat:Int))
def CodeAt:Nat→World→Value→List UInt8→Prop:=At 1 CodeR
theorem kept_code:Kept CodeR:=fun lo w w' b off x h h1 h2 hb=>by unfold CodeR at *;rw[hb.cell h1 h2];exact h
theorem code_form {lo:Nat} {w:World} {v:Value} {xs:List UInt8} (h:CodeAt lo w v xs):∃a cap,v=.slice a xs.length cap∧∀i,i<xs.length→∃b off,a=some ⟨b,off,none⟩∧b<w.heap.size∧w.cell? ⟨b,off+i,none⟩=some (.int .u8 ((xs.getD i 0).toNat:Int)):=by
 obtain⟨hl,h⟩:=h
 rcases h with⟨a,cap,rfl,rfl⟩|⟨b,off,cap,rfl,hlt,h⟩
 ·exact⟨a,cap,rfl,fun i hi=>absurd hi (by simp)⟩
 ·exact⟨_,cap,rfl,fun i hi=>⟨b,off,rfl,hlt.2,by have:=h i hi;unfold CodeR at this;rw[List.getD_eq_getElem?_getD,List.getElem?_eq_getElem hi];simpa using this⟩⟩
theorem bits_xor_i64 (a b:Nat) (ha:a<1099511627776) (hb:b<1099511627776):bits .xor .i64 (a:Int) (b:Int)=((a ^^^ b:Nat):Int):=by
 have hx:a ^^^ b<2 ^ 40:=Nat.xor_lt_two_pow (by omega) (by omega)
 have h1:(BitVec.ofInt 64 (a:Int)).toNat=a:=by
  rw[BitVec.ofInt_natCast,BitVec.toNat_ofNat];exact Nat.mod_eq_of_lt (by omega)
 have h2:(BitVec.ofInt 64 (b:Int)).toNat=b:=by
  rw[BitVec.ofInt_natCast,BitVec.toNat_ofNat];exact Nat.mod_eq_of_lt (by omega)
 show IntKind.i64.wrap ((BitVec.ofInt 64 (a:Int) ^^^ BitVec.ofInt 64 (b:Int)).toNat:Int)=_
 rw[BitVec.toNat_xor,h1,h2,IntKind.wrap_i64]
 omega
def tkX (cs:List UInt8) (p:Nat):Nat:=(cs.getD (p % cs.length) 0).toNat * 131+(cs.getD ((p * 7+3) % cs.length) 0).toNat * 1117+p * 29+p / cs.length * 53
def tk (cs:List UInt8) (p n:Nat):Nat :=
 if n<1∨cs.length=0 then 0 else if p<cs.length∧n≤256 then (cs.getD p 0).toNat % n else (tkX cs p ^^^ (tkX cs p / 64)) % n
theorem tk_lt (cs:List UInt8) (p n:Nat) (h:1≤n):tk cs p n<n:=by
 unfold tk
 split
 ·omega
 ·split <;> exact Nat.mod_lt _ (by omega)
theorem tk_le (cs:List UInt8) (p n m:Nat) (h:n≤m+1):tk cs p n≤m:=by
 by_cases h1:1≤n
 ·have:=tk_lt cs p n h1;omega
 ·unfold tk;rw[if_pos (.inl (by omega))];exact zrL _
set_option maxRecDepth 100000 in
set_option maxHeartbeats 4000000 in
theorem take_any (cs:List UInt8) (v:Value) (p n:Nat) (w:World) {lo:Nat} (hv:CodeAt lo w v cs) (hl:cs.length≤1048576) (hp:p≤4194304) (hn:n≤1048576) :
  Calls Tryz.prog 16 #[v,.int .i64 (p:Int),.int .i64 (n:Int)] w fun e w'=>e=.returned (.tuple #[.int .i64 ((tk cs p n:Nat):Int),.int .i64 ((p+1:Nat):Int)])∧w'=w:=by
 obtain⟨a,cap,rfl,hc⟩:=code_form hv
 have HC:=hide hc
 clear hv hc
 obtain⟨t,ht⟩:∃t,tk cs p n=t:=⟨_,rfl⟩
 have HT:=hide ht
 rw[ht]
 clear ht
 obtain⟨L,hL⟩:∃L,cs.length=L:=⟨_,rfl⟩
 have HL:=hide hL
 rw[hL] at hl ⊢
 clear hL
 have e1:((p+1:Nat):Int)=(p:Int)+1:=by omega
 rw[e1]
 by_cases h1:(n:Int)<1
 ·have HX:Hid (t=0):=by rw[←HT.out];unfold tk;exact if_pos (.inl (by omega))
  rw[HX.out]
  go_enter Tryz.func16,Tryz.ntmps16
  go_wp2_with fail
  go_ret2
  exact⟨rfl,rfl⟩
 ·by_cases h0:L=0
  ·have HX:Hid (t=0):=by rw[←HT.out];unfold tk;exact if_pos (.inr (by rw[HL.out];exact h0))
   rw[HX.out]
   subst h0
   go_enter Tryz.func16,Tryz.ntmps16
   go_wp2_with fail
   go_ret2
   exact⟨rfl,rfl⟩
  ·have h0i:¬(L:Int)=0:=by omega
   have h0b:((L:Int) == 0)=false:=by simpa using h0i
   have hn0:¬(n:Int)=0:=by omega
   have hn0b:((n:Int) == 0)=false:=by simpa using hn0
   have hcond:¬(n<1∨cs.length=0):=by rw[HL.out];omega
   by_cases h2:p<L∧n≤256
   ·obtain⟨h2a,h2b⟩:=h2
    have h2ai:(p:Int)<(L:Int):=by omega
    have h2bi:(n:Int)≤256:=by omega
    obtain⟨b,off,rfl,hb,hcell⟩:=HC.out p (by rw[HL.out];exact h2a)
    obtain⟨c,hcc⟩:∃c:Nat,(cs.getD p 0).toNat=c:=⟨_,rfl⟩
    have hc6:c≤255:=by have:=(cs.getD p 0).toNat_lt;omega
    have HX:Hid (t=c % n):=by rw[←HT.out];unfold tk;rw[if_neg hcond,if_pos ⟨by rw[HL.out];exact h2a,h2b⟩,hcc];exact rfl
    rw[hcc] at hcell
    have h4:(0:Int)≤(c:Int):=by omega
    have h5:(c:Int)≤255:=by omega
    have h6:(c:Int).tmod (n:Int)=(t:Int):=by rw[Int.tmod_eq_emod_of_nonneg (by omega),HX.out];omega
    have h6b:(c:Int) % (n:Int)=(t:Int):=by rw[HX.out];omega
    clear hcc hcond h0
    go_enter Tryz.func16,Tryz.ntmps16
    go_wp2_with fail
    go_ret2
    exact⟨rfl,rfl⟩
   ·have hq1:p % L<L:=Nat.mod_lt _ (by omega)
    have hq2:(p * 7+3) % L<L:=Nat.mod_lt _ (by omega)
    obtain⟨b,off,rfl,hb,hcell⟩:=HC.out (p % L) (by rw[HL.out];exact hq1)
    obtain⟨b2,off2,e2,hb2,hcell2⟩:=HC.out ((p * 7+3) % L) (by rw[HL.out];exact hq2)
    injection e2 with e2
    injection e2 with e2 e3
    subst e2 e3
    obtain⟨c,hcc⟩:∃c:Nat,(cs.getD (p % L) 0).toNat=c:=⟨_,rfl⟩
    have hc6:c≤255:=by have:=(cs.getD (p % L) 0).toNat_lt;omega
    obtain⟨c2,hcc2⟩:∃c:Nat,(cs.getD ((p * 7+3) % L) 0).toNat=c:=⟨_,rfl⟩
    have hc7:c2≤255:=by have:=(cs.getD ((p * 7+3) % L) 0).toNat_lt;omega
    obtain⟨q,hq⟩:∃q,p % L=q:=⟨_,rfl⟩
    obtain⟨q2,hqq2⟩:∃q,(p * 7+3) % L=q:=⟨_,rfl⟩
    obtain⟨y,hy⟩:∃y,p / L=y:=⟨_,rfl⟩
    have hyl:y≤p:=by rw[←hy];exact Nat.div_le_self _ _
    obtain⟨x,hx⟩:∃x,c * 131+c2 * 1117+p * 29+y * 53=x:=⟨_,rfl⟩
    have hX:tkX cs p=x:=by unfold tkX;rw[HL.out,hcc,hcc2,hy,hx]
    have HX:Hid (t=(x ^^^ (x / 64)) % n):=by rw[←HT.out];unfold tk;rw[if_neg hcond,if_neg (by rw[HL.out];exact h2),hX];exact rfl
    rw[hcc,hq] at hcell
    rw[hcc2,hqq2] at hcell2
    rw[hq] at hq1
    rw[hqq2] at hq2
    have m1:(p:Int).tmod (L:Int)=(q:Int):=by rw[Int.tmod_eq_emod_of_nonneg (by omega),←hq];omega
    have m1b:(p:Int) % (L:Int)=(q:Int):=by rw[←hq];omega
    have m2b:((p:Int) * 7+3) % (L:Int)=(q2:Int):=by
     have e7:(p:Int) * 7+3=((p * 7+3:Nat):Int):=by omega
     rw[e7,←hqq2]
     exact(Int.natCast_emod _ _).symm
    have m2:((p:Int) * 7+3).tmod (L:Int)=(q2:Int):=by rw[Int.tmod_eq_emod_of_nonneg (by omega)];exact m2b
    have m3:(p:Int).tdiv (L:Int)=(y:Int):=by rw[Int.tdiv_eq_ediv_of_nonneg (by omega),←hy];omega
    have m3b:(p:Int) / (L:Int)=(y:Int):=by rw[←hy];omega
    have hxl:x<1099511627776:=by omega
    have m4:(c:Int) * 131+(c2:Int) * 1117+(p:Int) * 29+(y:Int) * 53=(x:Int):=by omega
    obtain⟨y2,hy2⟩:∃y,x / 64=y:=⟨_,rfl⟩
    rw[hy2] at HX
    have m5:(x:Int).tdiv 64=(y2:Int):=by rw[Int.tdiv_eq_ediv_of_nonneg (by omega)];omega
    have m5b:(x:Int) / 64=(y2:Int):=by omega
    obtain⟨z,hz⟩:∃z,x ^^^ y2=z:=⟨_,rfl⟩
    have m6:bits .xor .i64 (x:Int) (y2:Int)=(z:Int):=by rw[bits_xor_i64 _ _ hxl (by omega),hz]
    have hzl:z<1099511627776:=by rw[←hz];exact Nat.xor_lt_two_pow (n:=40) (by omega) (by omega)
    rw[hz] at HX
    have m7:(z:Int).tmod (n:Int)=(t:Int):=by rw[Int.tmod_eq_emod_of_nonneg (by omega),HX.out];omega
    have m7b:(z:Int) % (n:Int)=(t:Int):=by rw[HX.out];omega
    have g1:(q:Int)<(L:Int):=by omega
    have g2:(q2:Int)<(L:Int):=by omega
    have h4:(0:Int)≤(c:Int):=by omega
    have h5:(c:Int)≤255:=by omega
    have h4':(0:Int)≤(c2:Int):=by omega
    have h5':(c2:Int)≤255:=by omega
    have b1:¬((p:Int)<(L:Int)∧(n:Int)≤256):=by omega
    clear hcc hcc2 hq hqq2 hy hx hX hz hcond h0 HX hy2
    go_enter Tryz.func16,Tryz.ntmps16
    by_cases hpl:(p:Int)<(L:Int)
    ·have hn2:¬(n:Int)≤256:=by omega
     go_wp2_with fail
     go_ret2
     exact⟨rfl,rfl⟩
    ·go_wp2_with fail
     go_ret2
     exact⟨rfl,rfl⟩
end Go.Proofs.YtglcdcekkglmiaaGreatDoor.Msg
