import Derived.Test.YtglcdcekkglmiaaGreatDoorG0
import Derived.Deep.QuietTactic
import Derived.BigQuiet
import Derived.Deep.RegionHeld3
import Derived.Deep.OwnRows
import Derived.Deep.Heap
namespace Go.Proofs.YtglcdcekkglmiaaGreatDoor.Msg
open Go.ChangeShapes Go.WideShapes Go.ChangeAt Go.RowKit
theorem below_drewN {B:Nat} {a w:World} (h:Below B a w) (n:Nat):Below B a (w.drewN n):=by
 induction n with
 | zero=>exact h
 | succ n ih=>exact ih.drew
theorem bjoin {w W c:World} (h2:Below W.heap.size W c) (h1:Below w.heap.size w W):Below w.heap.size w c:=h1.trans (h2.mono h1.size)
end Go.Proofs.YtglcdcekkglmiaaGreatDoor.Msg
namespace Go.Proofs.YtglcdcekkglmiaaGreatDoor.Msg
open Go.ChangeShapes Go.WideShapes Go.ChangeAt Go.RowKit
set_option linter.unusedVariables false
set_option linter.unusedSimpArgs false
theorem At.form {α:Type} {n:Nat} {R:Nat→World→Nat→Nat→α→Prop} {lo:Nat} {w:World} {v:Value} {xs:List α} (h:At n R lo w v xs) :
  ∃a cap,v=.slice a xs.length cap∧∀k (h:k<xs.length),∃b off,a=some ⟨b,off,none⟩∧lo≤b∧b<w.heap.size∧R lo w b (off+k * n) xs[k]:=by
 obtain⟨_,h⟩:=h
 rcases h with⟨a,cap,rfl,rfl⟩|⟨b,off,cap,rfl,hb,h⟩
 ·exact⟨a,cap,rfl,fun k hk=>absurd hk (by simp)⟩
 ·exact⟨_,cap,rfl,fun k hk=>⟨b,off,rfl,hb.1,hb.2,h k hk⟩⟩
theorem info_string:(Tryz.prog.info? 9).map (fun i=>(i.zero,i.size,i.bytes))=some (some (.string ByteArray.empty),1,16):=by kernel_rfl
theorem all_step {α:Type} {p:α→Bool} {xs:List α} {k:Nat} (h:k<xs.length) (h1:(xs.take k).all p=true) (h2:p xs[k]=true):(xs.take (k+1)).all p=true:=by
 rw[List.take_succ_eq_append_getElem h,List.all_append,h1]
 simp[h2]
theorem all_fail {α:Type} {p:α→Bool} {xs:List α} {k:Nat} (h:k<xs.length) (h2:p xs[k]=false):xs.all p=false:=by
 rw[List.all_eq_false]
 exact⟨xs[k],List.getElem_mem h,by simp[h2]⟩
theorem all_done {α:Type} {p:α→Bool} {xs:List α} {k:Nat} (h:xs.length≤k) (h1:(xs.take k).all p=true):xs.all p=true:=by
 rwa [List.take_of_length_le h] at h1
def plainC (c:UInt8):Bool:=decide (32≤c.toNat) && decide (c.toNat≤126)
def plainB (s:ByteArray):Bool:=s.data.toList.all plainC
def endB {α:Type} (f:α→Nat) (xs:List α):Bool:=match xs.getLast? with
 | none=>true
 | some x=>decide (0<f x)
set_option maxHeartbeats 400000 in
theorem plain_any (s:ByteArray) (w:World) (hs:s.size≤9223372036854775807) :
  Calls Tryz.prog 84 #[.string s] w fun e w'=>e=.returned (.bool (plainB s))∧w'=w:=by
 go_enter Tryz.func84,Tryz.ntmps84
 go_wp2
 go_loop [3] (fun i=>∃k:Nat,k≤s.size∧i=.int .i64 k∧(s.data.toList.take k).all plainC=true) (fun i=>s.size - (intOf i).toNat)
 case atStart=>exact⟨0,zrL _,rfl,rfl⟩
 case round =>
  obtain⟨k,hk,rfl,hall⟩:=hrel
  have HA:=hide hall
  clear hall
  have hsz:s.data.toList.length=s.size:=by simp
  by_cases hlt:k<s.size
  ·have HK:Hid (∀h,s.data.toList[k]'h=s[k]):=fun h=>rfl
   have HP:Hid (plainC s[k]=(decide (32≤s[k].toNat) && decide (s[k].toNat≤126))):=rfl
   by_cases h1:(s[k].toNat:Int)<32
   ·have HF:Hid (plainC s[k]=false):=by rw[HP.out,decide_eq_false (by omega)];rfl
    have HZ:=hide (all_fail (p:=plainC) (xs:=s.data.toList) (k:=k) (by omega) (by rw[HK.out];exact HF.out))
    clear hsz
    go_wp2
    go_ret
    exact⟨ret_bool HZ.out.symm,rfl⟩
   ·by_cases h2:(126:Int)<(s[k].toNat:Int)
    ·have HF:Hid (plainC s[k]=false):=by rw[HP.out,decide_eq_false (p:=s[k].toNat≤126) (by omega),Bool.and_false];trivial
     have HZ:=hide (all_fail (p:=plainC) (xs:=s.data.toList) (k:=k) (by omega) (by rw[HK.out];exact HF.out))
     clear hsz
     go_wp2
     go_ret
     exact⟨ret_bool HZ.out.symm,rfl⟩
    ·have HF:Hid (plainC s[k]=true):=by rw[HP.out,decide_eq_true (by omega),decide_eq_true (by omega)];rfl
     have HZ:=hide (all_step (p:=plainC) (xs:=s.data.toList) (k:=k) (by omega) HA.out (by rw[HK.out];exact HF.out))
     clear hsz
     go_wp2
     go_round
     case rel=>exact⟨k+1,by omega,by go_num,HZ.out⟩
     case measure=>simp[intOf];omega
  ·have HZ:=hide (all_done (by omega) HA.out)
   clear hsz
   go_wp2
   go_ret
   exact⟨ret_bool HZ.out.symm,rfl⟩
end Go.Proofs.YtglcdcekkglmiaaGreatDoor.Msg
