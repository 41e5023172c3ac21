import Derived.Test.YtfdihjnlgdiioaaGreatDoorG11
import Derived.Deep.RegionHeld3
import Derived.Deep.DeepCutAuto
namespace Go.Proofs.YtfdihjnlgdiioaaGreatDoor.dB
open Go.ChangeShapes Go.WideShapes Go.ChangeAt Go.RowKit
set_option linter.unusedVariables false
set_option linter.unusedSimpArgs false
set_option maxHeartbeats 1000000 in
theorem MX (s:ByteArray) (w:World) (hs:s.size≤1048576) :
  Calls Tryz.prog 42 #[.string s] w fun e w'=>∃u,e=.returned (.agg #[u])∧∃bs,bP w' u (ah s) bs∧bs.Nodup∧(∀b∈bs,w.heap.size≤b)∧Below w.heap.size w w':=by
 by_cases h0:s.size=0
 ·have HF:Hid (ah s=[]):=by unfold ah;rw[if_pos h0];trivial
  have h1:((s.size:Int) == 0)=true:=by rw[h0];rfl
  clear h0
  go_enter Tryz.func42,Tryz.ntmps42
  go_wp2_with fail
  exact bodyPost_ret (v:=.agg #[.slice none 0 0]) (by simp[results,Tryz.results42,go_sem]) rfl ⟨_,rfl,[],by rw[HF.out];exact qL _ _ _,by simp,by simp,aO _ _⟩
 ·have HF:Hid (ah s=[[s]]):=by unfold ah;rw[if_neg h0];trivial
  have h1:((s.size:Int) == 0)=false:=by rw[beq_eq_false_iff_ne];omega
  go_enter Tryz.func42,Tryz.ntmps42
  go_wp2_with fail
  obtain⟨x1,hx1⟩:∃x1,w.alloc (Obj.cells #[.slice (some ⟨w.heap.size+1+1,0,none⟩) 1 1] 57)=x1:=⟨_,rfl⟩
  obtain⟨x2,hx2⟩:∃x2,x1.alloc (Obj.cells #[.string s] 9)=x2:=⟨_,rfl⟩
  obtain⟨x3,hx3⟩:∃x3,x2.alloc (Obj.cells #[.slice (some ⟨w.heap.size+1,0,none⟩) 1 1] 60)=x3:=⟨_,rfl⟩
  have bN:x1.heap.size=w.heap.size+1:=by rw[←hx1];simp
  have BX:x2.heap.size=w.heap.size+1+1:=by rw[←hx2];simp[bN]
  have sx3:x3.heap.size=w.heap.size+1+1+1:=by rw[←hx3];simp[BX]
  have b1:Below w.heap.size w x1:=by rw[←hx1];exact aO _ _
  have b2:Below x1.heap.size x1 x2:=by rw[←hx2];exact aO _ _
  have b3:Below x2.heap.size x2 x3:=by rw[←hx3];exact aO _ _
  have b23:=aJ b3 b2
  have c0:x3.cell? ⟨w.heap.size,0,none⟩=some (.slice (some ⟨w.heap.size+1+1,0,none⟩) 1 1):=(b23.cell (p:=⟨w.heap.size,0,none⟩) (by rw[bN];simp)).trans (by rw[←hx1];simp)
  have c1:x3.cell? ⟨w.heap.size+1,0,none⟩=some (.string s):=(b3.cell (p:=⟨w.heap.size+1,0,none⟩) (by rw[BX];simp)).trans (by rw[←hx2,←bN];simp)
  have f1:x3.frozen? ⟨w.heap.size+1,0,none⟩=false:=(b3.frozen (p:=⟨w.heap.size+1,0,none⟩) (by rw[BX];simp)).trans (by rw[←hx2,←bN];simp)
  have c2:x3.cell? ⟨w.heap.size+1+1,0,none⟩=some (.slice (some ⟨w.heap.size+1,0,none⟩) 1 1):=by rw[←hx3,←BX];simp
  rw[hx1,hx2,hx3]
  have HO:=Q8 (s:=s) (cap:=1) (by omega) (show w.heap.size+1+1<x3.heap.size by omega) (show w.heap.size+1<x3.heap.size by omega) c2 c1 f1
  exact bodyPost_ret (v:=.agg #[.slice (some ⟨w.heap.size+1+1,0,none⟩) 1 1]) (by simp[results,Tryz.results42,go_sem,c0]) rfl ⟨_,rfl,_,by rw[HF.out];exact HO,by simp,by intro b hb;simp at hb;omega,aJ b23 b1⟩
theorem YR {w:World} {s:ByteArray} {g g1 cap iH:Nat} (hc:1≤iH) (hc1:iH≤9223372036854775807) (hs:s.size≤9223372036854775807) (hg:g<w.heap.size) (hg1:g1<w.heap.size) (h0:w.cell? ⟨g,0,none⟩=some (.slice (some ⟨g1,0,none⟩) 1 iH)) (h1:w.cell? ⟨g1,0,none⟩=some (.string s)) (h2:w.frozen? ⟨g1,0,none⟩=false) :
  tX w (.slice (some ⟨g,0,none⟩) 1 cap) [[s]] [g,g1]:=by
 refine⟨by simp,.inr ⟨g,0,cap,[[g1]],rfl,hg,rfl,rfl,fun i h h'=>?_⟩⟩
 obtain rfl:i=0:=by simp at h;omega
 refine⟨_,h0,⟨by simp,.inr ⟨g1,0,iH,[[]],rfl,hg1,rfl,rfl,fun k hk hk'=>?_⟩⟩,_,_,rfl,by simpa using hc,hc1⟩
 obtain rfl:k=0:=by simp at hk;omega
 exact⟨h1,h2,hs,rfl⟩
set_option maxHeartbeats 1000000 in
theorem Ri (s:ByteArray) (w:World) (hs:s.size≤1048576) :
  Calls Tryz.prog 42 #[.string s] w fun e w'=>∃u,e=.returned (.agg #[u])∧∃bs,tX w' u (ah s) bs∧bs.Nodup∧(∀b∈bs,w.heap.size≤b)∧Below w.heap.size w w':=by
 by_cases h0:s.size=0
 ·have HF:Hid (ah s=[]):=by unfold ah;rw[if_pos h0];trivial
  have h1:((s.size:Int) == 0)=true:=by rw[h0];rfl
  clear h0
  go_enter Tryz.func42,Tryz.ntmps42
  go_wp2_with fail
  exact bodyPost_ret (v:=.agg #[.slice none 0 0]) (by simp[results,Tryz.results42,go_sem]) rfl ⟨_,rfl,[],by rw[HF.out];exact⟨by simp,.inl ⟨_,_,rfl,rfl,rfl⟩⟩,by simp,by simp,aO _ _⟩
 ·have HF:Hid (ah s=[[s]]):=by unfold ah;rw[if_neg h0];trivial
  have h1:((s.size:Int) == 0)=false:=by rw[beq_eq_false_iff_ne];omega
  go_enter Tryz.func42,Tryz.ntmps42
  go_wp2_with fail
  obtain⟨x1,hx1⟩:∃x1,w.alloc (Obj.cells #[.slice (some ⟨w.heap.size+1+1,0,none⟩) 1 1] 57)=x1:=⟨_,rfl⟩
  obtain⟨x2,hx2⟩:∃x2,x1.alloc (Obj.cells #[.string s] 9)=x2:=⟨_,rfl⟩
  obtain⟨x3,hx3⟩:∃x3,x2.alloc (Obj.cells #[.slice (some ⟨w.heap.size+1,0,none⟩) 1 1] 60)=x3:=⟨_,rfl⟩
  have bN:x1.heap.size=w.heap.size+1:=by rw[←hx1];simp
  have BX:x2.heap.size=w.heap.size+1+1:=by rw[←hx2];simp[bN]
  have sx3:x3.heap.size=w.heap.size+1+1+1:=by rw[←hx3];simp[BX]
  have b1:Below w.heap.size w x1:=by rw[←hx1];exact aO _ _
  have b2:Below x1.heap.size x1 x2:=by rw[←hx2];exact aO _ _
  have b3:Below x2.heap.size x2 x3:=by rw[←hx3];exact aO _ _
  have b23:=aJ b3 b2
  have c0:x3.cell? ⟨w.heap.size,0,none⟩=some (.slice (some ⟨w.heap.size+1+1,0,none⟩) 1 1):=(b23.cell (p:=⟨w.heap.size,0,none⟩) (by rw[bN];simp)).trans (by rw[←hx1];simp)
  have c1:x3.cell? ⟨w.heap.size+1,0,none⟩=some (.string s):=(b3.cell (p:=⟨w.heap.size+1,0,none⟩) (by rw[BX];simp)).trans (by rw[←hx2,←bN];simp)
  have f1:x3.frozen? ⟨w.heap.size+1,0,none⟩=false:=(b3.frozen (p:=⟨w.heap.size+1,0,none⟩) (by rw[BX];simp)).trans (by rw[←hx2,←bN];simp)
  have c2:x3.cell? ⟨w.heap.size+1+1,0,none⟩=some (.slice (some ⟨w.heap.size+1,0,none⟩) 1 1):=by rw[←hx3,←BX];simp
  rw[hx1,hx2,hx3]
  have HO:=YR (s:=s) (cap:=1) (iH:=1) (by omega) (by omega) (by omega) (show w.heap.size+1+1<x3.heap.size by omega) (show w.heap.size+1<x3.heap.size by omega) c2 c1 f1
  exact bodyPost_ret (v:=.agg #[.slice (some ⟨w.heap.size+1+1,0,none⟩) 1 1]) (by simp[results,Tryz.results42,go_sem,c0]) rfl ⟨_,rfl,_,by rw[HF.out];exact HO,by simp,by intro b hb;simp at hb;omega,aJ b23 b1⟩
def sS {α:Type} (xs:List α) (d:α) (i:Int):α:=if i<0 then d else xs.getD i.toNat d
theorem rO {α:Type} (xs:List α) (d:α) (i:Int) (h:i<0):sS xs d i=d:=if_pos h
theorem ug {α:Type} (xs:List α) (d:α) (i:Int) (h:(xs.length:Int)≤i):sS xs d i=d:=by
 unfold sS
 split
 ·rfl
 ·rw[List.getD_eq_getElem?_getD,List.getElem?_eq_none (by omega)];rfl
theorem K6 {α:Type} (xs:List α) (d:α) (k:Nat) (h:k<xs.length):sS xs d (k:Int)=xs[k]:=by
 unfold sS
 rw[if_neg (by omega),Int.toNat_natCast,List.getD_eq_getElem?_getD,List.getElem?_eq_getElem h];rfl
theorem Rj {α:Type} (xs:List α) (d:α) (field e:Int) (h0:-9223372036854775808≤field) (h1:field≤9223372036854775807) (hd0:0≤e) (hd:e≤3) (hl:xs.length≤1048576) :
  sS xs d (wrap64 (field - e))=sS xs d (field - e):=by
 obtain⟨z,hz,hc⟩:=FJ field e h0 h1 hd0 hd
 rw[hz]
 rcases hc with⟨_,rfl⟩|⟨hn,hz2⟩
 ·rfl
 ·rw[rO xs d (field - e) hn]
  rcases hz2 with h|h
  ·exact rO _ _ _ h
  ·exact ug _ _ _ (by omega)
theorem Ou {α:Type} (xs:List α) (d:α) (c:Int) (h0:-9223372036854775808≤c) (h1:c≤9223372036854775807) (hl:xs.length≤9223372036854775807) :
  sS xs d (wrap64 (c - 1))=sS xs d (c - 1):=by
 by_cases h:-9223372036854775808≤c - 1
 ·have e:wrap64 (c - 1)=c - 1:=by unfold wrap64;omega
  rw[e]
 ·have e:wrap64 (c - 1)=9223372036854775807:=by unfold wrap64;omega
  rw[e,rO xs d (c - 1) (by omega),ug _ _ _ (by omega)]
theorem uT {α:Type} (d:α) (i:Int):sS [] d i=d:=by unfold sS;split <;> rfl
theorem Vo (fs:List Field) (at_ comp:Int):pick fs at_ comp=sS (sS (sS fs [] at_) [] 0) ⟨#[]⟩ (comp - 1):=by
 unfold pick
 by_cases h:at_<0
 ·rw[if_pos h,rO fs [] at_ h,uT,uT]
 ·rw[if_neg h]
  have e:sS fs [] at_=fs.getD at_.toNat []:=if_neg h
  rw[e,List.getD_eq_getElem?_getD]
  cases hf:fs[at_.toNat]? with
  | none =>
   show (⟨#[]⟩:ByteArray)=sS (sS ([]:Field) [] 0) _ _
   rw[uT,uT]
  | some f =>
   cases f with
   | nil =>
    show (⟨#[]⟩:ByteArray)=sS (sS ([]:Field) [] 0) _ _
    rw[uT,uT]
   | cons r rs =>
    show (if comp<1 then (⟨#[]⟩:ByteArray) else r.getD (comp - 1).toNat ⟨#[]⟩)=sS r ⟨#[]⟩ (comp - 1)
    unfold sS
    by_cases hc:comp<1
    ·rw[if_pos hc,if_pos (by omega)]
    ·rw[if_neg hc,if_neg (by omega)]
theorem Rk {α:Type} (f:α→Nat) (xs:List α) (k:Nat) (h:k<xs.length):f xs[k]≤sumOf f xs:=by
 have h1:=Hq f xs k h
 have h2:=FI f xs (k+1)
 omega
theorem bq.none (lo:Nat) (w:World):bq lo w (.slice .none 0 0) []:=⟨by simp,.inl ⟨_,_,rfl,rfl⟩⟩
theorem gL.none (lo:Nat) (w:World):gL lo w (.slice .none 0 0) []:=⟨by simp,.inl ⟨_,_,rfl,rfl⟩⟩
set_option maxHeartbeats 1000000 in
theorem Vp (xs:List ByteArray) (i:Int) (v:Value) (w:World) {lo:Nat} (hv:bq lo w v xs) :
  Calls Tryz.prog 104 #[v,.int .i64 i] w fun e w'=>e=.returned (.string (sS xs ⟨#[]⟩ i))∧Below w.heap.size w w':=by
 have hl:=hv.1
 obtain⟨a,cap,rfl,hc⟩:=hv.form
 by_cases h0:i<0
 ·have HX:=hide (rO xs (⟨#[]⟩:ByteArray) i h0)
  clear hc hv
  go_enter Tryz.func104,Tryz.ntmps104
  go_wp2_with fail
  go_ret
  exact⟨bF HX.out.symm,Below.refl _ _⟩
 ·by_cases h1:(xs.length:Int)≤i
  ·have HX:=hide (ug xs (⟨#[]⟩:ByteArray) i h1)
   clear hc hv
   go_enter Tryz.func104,Tryz.ntmps104
   go_wp2_with fail
   go_ret
   exact⟨bF HX.out.symm,Below.refl _ _⟩
  ·obtain⟨k,rfl⟩:=Int.eq_ofNat_of_zero_le (show 0≤i by omega)
   have hlt:k<xs.length:=by omega
   have hlt':(k:Int)<(xs.length:Int):=by omega
   obtain⟨b,off,rfl,_,hbl,hr⟩:=hc k hlt
   have hcell:w.cell? ⟨b,off+k,none⟩=some (.string xs[k]):=by simpa using hr.1
   have HX:=hide (K6 xs (⟨#[]⟩:ByteArray) k hlt)
   clear hc hv hr
   go_enter Tryz.func104,Tryz.ntmps104
   go_wp2_with fail
   go_ret
   exact⟨bF HX.out.symm,Below.refl _ _⟩
set_option maxHeartbeats 1000000 in
theorem Vq (xs:List lW) (i:Int) (v:Value) (w0 w:World) (hb0:Below w0.heap.size w0 w) {lo:Nat} (hv:gL lo w0 v xs) :
  Calls Tryz.prog 101 #[v,.int .i64 i] w fun e w'=>∃u,e=.returned (.agg #[u])∧bq lo w0 u (sS xs [] i)∧Below w.heap.size w w':=by
 have hl:=hv.1
 obtain⟨a,cap,rfl,hc⟩:=hv.form
 by_cases h0:i<0
 ·have HX:=hide (rO xs ([]:lW) i h0)
  clear hc hv
  go_enter Tryz.func101,Tryz.ntmps101
  go_wp2_with fail
  exact bodyPost_ret (v:=.agg #[.slice none 0 0]) (by simp[results,Tryz.results101,go_sem]) rfl ⟨_,rfl,by rw[HX.out];exact bq.none _ _,(aO _ _).alloc (by simp) _⟩
 ·by_cases h1:(xs.length:Int)≤i
  ·have HX:=hide (ug xs ([]:lW) i h1)
   clear hc hv
   go_enter Tryz.func101,Tryz.ntmps101
   go_wp2_with fail
   exact bodyPost_ret (v:=.agg #[.slice none 0 0]) (by simp[results,Tryz.results101,go_sem]) rfl ⟨_,rfl,by rw[HX.out];exact bq.none _ _,(aO _ _).alloc (by simp) _⟩
  ·obtain⟨k,rfl⟩:=Int.eq_ofNat_of_zero_le (show 0≤i by omega)
   have hlt:k<xs.length:=by omega
   have hlt':(k:Int)<(xs.length:Int):=by omega
   obtain⟨b,off,rfl,_,hbl,ve,hr,hel⟩:=hc k hlt
   obtain⟨a5,cap5,rfl,_⟩:=hel.form
   have hcell:w.cell? ⟨b,off+k,none⟩=some (.slice a5 xs[k].length cap5):=by rw[hb0.cell (p:=⟨b,off+k,none⟩) hbl];simpa using hr
   have aej:b<w.heap.size:=Nat.lt_of_lt_of_le hbl hb0.size
   have HX:=hide (K6 xs ([]:lW) k hlt)
   have hbw:=(Below.refl w.heap.size w).alloc (aS _) (Obj.cells #[.slice a5 xs[k].length cap5] 60)
   have YS:=hide hel
   clear hc hv hr hel
   go_enter Tryz.func101,Tryz.ntmps101
   go_wp2_with fail
   exact bodyPost_ret (v:=.agg #[.slice a5 xs[k].length cap5]) (by simp[results,Tryz.results101,go_sem]) rfl ⟨_,rfl,by rw[HX.out];exact YS.out,hbw⟩
set_option maxHeartbeats 1000000 in
theorem Vr (xs:List Field) (i:Int) (v:Value) (w0 w:World) (hb0:Below w0.heap.size w0 w) {lo:Nat} (hv:aG lo w0 v xs) :
  Calls Tryz.prog 102 #[v,.int .i64 i] w fun e w'=>∃u,e=.returned (.agg #[u])∧gL lo w0 u (sS xs [] i)∧Below w.heap.size w w':=by
 have hl:=hv.1
 obtain⟨a,cap,rfl,hc⟩:=hv.form
 by_cases h0:i<0
 ·have HX:=hide (rO xs ([]:Field) i h0)
  clear hc hv
  go_enter Tryz.func102,Tryz.ntmps102
  go_wp2_with fail
  exact bodyPost_ret (v:=.agg #[.slice none 0 0]) (by simp[results,Tryz.results102,go_sem]) rfl ⟨_,rfl,by rw[HX.out];exact gL.none _ _,(aO _ _).alloc (by simp) _⟩
 ·by_cases h1:(xs.length:Int)≤i
  ·have HX:=hide (ug xs ([]:Field) i h1)
   clear hc hv
   go_enter Tryz.func102,Tryz.ntmps102
   go_wp2_with fail
   exact bodyPost_ret (v:=.agg #[.slice none 0 0]) (by simp[results,Tryz.results102,go_sem]) rfl ⟨_,rfl,by rw[HX.out];exact gL.none _ _,(aO _ _).alloc (by simp) _⟩
  ·obtain⟨k,rfl⟩:=Int.eq_ofNat_of_zero_le (show 0≤i by omega)
   have hlt:k<xs.length:=by omega
   have hlt':(k:Int)<(xs.length:Int):=by omega
   obtain⟨b,off,rfl,_,hbl,ve,hr,hel⟩:=hc k hlt
   obtain⟨a5,cap5,rfl,_⟩:=hel.form
   have hcell:w.cell? ⟨b,off+k,none⟩=some (.slice a5 xs[k].length cap5):=by rw[hb0.cell (p:=⟨b,off+k,none⟩) hbl];simpa using hr
   have aej:b<w.heap.size:=Nat.lt_of_lt_of_le hbl hb0.size
   have HX:=hide (K6 xs ([]:Field) k hlt)
   have hbw:=(Below.refl w.heap.size w).alloc (aS _) (Obj.cells #[.slice a5 xs[k].length cap5] 57)
   have YS:=hide hel
   clear hc hv hr hel
   go_enter Tryz.func102,Tryz.ntmps102
   go_wp2_with fail
   exact bodyPost_ret (v:=.agg #[.slice a5 xs[k].length cap5]) (by simp[results,Tryz.results102,go_sem]) rfl ⟨_,rfl,by rw[HX.out];exact YS.out,hbw⟩
theorem Ov (a:Option Addr) (n c:Nat) (w:World):(Instr.field 57 (.agg #[.slice a n c]) 0).run Tryz.prog w=.ok (.slice a n c) w:=by kernel_rfl
def fT (name:ByteArray):Int:=if ig name then 3 else 1
set_option maxHeartbeats 1000000 in
theorem Aj (name:ByteArray) (a:Option Addr) (n c:Nat) (w:World) :
  Calls Tryz.prog 103 #[.agg #[.string name,.slice a n c]] w fun e w'=>e=.returned (.int .i64 (fT name))∧Below w.heap.size w w':=by
 have HMd:Hid (ig name=(name.toList == [77,83,72])):=rfl
 cases hm:(name.toList == [77,83,72])
 ·have HX:Hid (fT name=1):=by unfold fT;rw[HMd.out,hm];exact rfl
  go_enter Tryz.func103,Tryz.ntmps103
  go_wp2_with fail
  go_ret
  exact⟨jh HX.out.symm,aO _ _⟩
 ·have HX:Hid (fT name=3):=by unfold fT;rw[HMd.out,hm];exact rfl
  go_enter Tryz.func103,Tryz.ntmps103
  go_wp2_with fail
  go_ret
  exact⟨jh HX.out.symm,aO _ _⟩
set_option maxRecDepth 100000 in
set_option maxHeartbeats 2000000 in
theorem I5 (name:ByteArray) (fs:List Field) (field comp:Int) (v:Value) (w:World) (hf0:-9223372036854775808≤field) (hf1:field≤9223372036854775807)
  (hc0:-9223372036854775808≤comp) (hc1:comp≤9223372036854775807) {lo:Nat} (hv:aG lo w v fs) (hfl:fs.length≤1048576) :
  Calls Tryz.prog 73 #[.agg #[.string name,v],.int .i64 field,.int .i64 comp] w fun e w'=>e=.returned (.string (pick fs (field - fT name) comp))∧Below w.heap.size w w':=by
 have HB:Hid ((-9223372036854775808≤field∧field≤9223372036854775807)∧-9223372036854775808≤comp∧comp≤9223372036854775807):=⟨⟨hf0,hf1⟩,hc0,hc1⟩
 clear hf0 hf1 hc0 hc1
 obtain⟨a2,cap2,rfl,_⟩:=hv.form
 have hb:=(Below.refl w.heap.size w).alloc (aS _) (Obj.cells #[.string name,.slice a2 fs.length cap2] 54)
 have I6:=At.kept aP hv hb
 have hfd:=Ov
 have HHB:=hide hb
 clear hv hb
 have hd:=(Below.refl (w.alloc (Obj.cells #[.string name,.slice a2 fs.length cap2] 54)).heap.size (w.alloc (Obj.cells #[.string name,.slice a2 fs.length cap2] 54))).drew
 have HOLD:Hid (∀w',Below (w.alloc (Obj.cells #[.string name,.slice a2 fs.length cap2] 54)).heap.size (w.alloc (Obj.cells #[.string name,.slice a2 fs.length cap2] 54)) w' →
   w'.cell? ⟨w.heap.size,0,none⟩=some (.string name)∧w'.cell? ⟨w.heap.size,1,none⟩=some (.slice a2 fs.length cap2)∧Below (w.alloc (Obj.cells #[.string name,.slice a2 fs.length cap2] 54)).heap.size (w.alloc (Obj.cells #[.string name,.slice a2 fs.length cap2] 54)) w'):=fun w' h=>by
  refine⟨?_,?_,h⟩
  ·rw[h.cell (p:=⟨w.heap.size,0,none⟩) (by simp)];simp
  ·rw[h.cell (p:=⟨w.heap.size,1,none⟩) (by simp)];simp
 go_enter Tryz.func73,Tryz.ntmps73
 go_upto_region 1 with fail
 go_cut [7] (fun s wx=>∃g a4 cap4,s=.pointer (some ⟨g,0,none⟩)∧g<wx.heap.size∧wx.cell? ⟨g,0,none⟩=some (.slice a4 (sS (sS fs [] (IntKind.i64.wrap (field - fT name))) [] 0).length cap4)∧bq lo (w.alloc (Obj.cells #[.string name,.slice a2 fs.length cap2] 54)) (.slice a4 (sS (sS fs [] (IntKind.i64.wrap (field - fT name))) [] 0).length cap4) (sS (sS fs [] (IntKind.i64.wrap (field - fT name))) [] 0)∧Below (w.alloc (Obj.cells #[.string name,.slice a2 fs.length cap2] 54)).heap.size (w.alloc (Obj.cells #[.string name,.slice a2 fs.length cap2] 54)) wx)
 case first =>
  go_region_held3 (fun w'=>w'.cell? ⟨w.heap.size,0,none⟩=some (.string name)∧w'.cell? ⟨w.heap.size,1,none⟩=some (.slice a2 fs.length cap2)∧Below (w.alloc (Obj.cells #[.string name,.slice a2 fs.length cap2] 54)).heap.size (w.alloc (Obj.cells #[.string name,.slice a2 fs.length cap2] 54)) w')
   (first|exact HOLD.out _ hd|exact HOLD.out _ ou|exact HOLD.out _ nQ|exact HOLD.out _ wK|exact HOLD.out _ (hd.alloc hd.size _)|exact HOLD.out _ (ou.alloc ou.size _)|exact HOLD.out _ (nQ.alloc nQ.size _)|exact HOLD.out _ (wK.alloc wK.size _)|exact HOLD.out _ (wK.setCell (by first|(simp;done)|(simp;omega)) _))
   (first
    | (go_at_call 103;refine(Aj _ _ _ _ _).mono ?_;rintro e w2 ⟨rfl,hb2⟩;have hz2:w.heap.size+1≤w2.heap.size:=(by have:=hb2.size;(try simp at this);omega);(first|(have ou:=aj hb2 hd;skip)|(have ou:=aj hb2 (hd.alloc hd.size _);have agF:w.heap.size+1<w2.heap.size:=(by have:=hb2.size;(try simp at this);omega);have aek:w2.cell? ⟨w.heap.size+1,0,none⟩=some (.slice none 0 0):=(by rw[hb2.cell (p:=⟨w.heap.size+1,0,none⟩) (by simp)];simp);have ael:w2.frozen? ⟨w.heap.size+1,0,none⟩=false:=(by rw[hb2.frozen (p:=⟨w.heap.size+1,0,none⟩) (by simp)];simp))))
    | (go_at_call 102;refine(Vr fs _ _ (w.alloc (Obj.cells #[.string name,.slice a2 fs.length cap2] 54)) _ (by first|exact ou|exact ou.alloc ou.size _) I6).mono ?_;rintro e w3 ⟨u3,rfl,hu3,hb3⟩;obtain⟨a3,Af,rfl,_⟩:=hu3.form;have hz3:w2.heap.size≤w3.heap.size:=(by have:=hb3.size;(try simp at this);omega);(first|(have nQ:=aj hb3 ou;(first|(have agG:w.heap.size+1<w3.heap.size:=(by omega);have aem:w3.cell? ⟨w.heap.size+1,0,none⟩=some (.slice none 0 0):=(by rw[hb3.cell (p:=⟨w.heap.size+1,0,none⟩) (by dsimp only;omega)];exact aek);have aen:w3.frozen? ⟨w.heap.size+1,0,none⟩=false:=(by rw[hb3.frozen (p:=⟨w.heap.size+1,0,none⟩) (by dsimp only;omega)];exact ael))|skip))|(have nQ:=aj hb3 (ou.alloc ou.size _);have hz3b:w2.heap.size<w3.heap.size:=(by have:=hb3.size;(try simp at this);omega);have aeo:w3.cell? ⟨w2.heap.size,0,none⟩=some (.slice none 0 0):=(by rw[hb3.cell (p:=⟨w2.heap.size,0,none⟩) (by simp)];simp);have aep:w3.frozen? ⟨w2.heap.size,0,none⟩=false:=(by rw[hb3.frozen (p:=⟨w2.heap.size,0,none⟩) (by simp)];simp))))
    | (go_at_call 101;refine(Vq _ _ _ (w.alloc (Obj.cells #[.string name,.slice a2 fs.length cap2] 54)) _ (by first|exact nQ|exact nQ.alloc nQ.size _) hu3).mono ?_;rintro e w4 ⟨u4,rfl,Kw,hb4⟩;obtain⟨a4,cap4,rfl,_⟩:=Kw.form;have MZ:w3.heap.size≤w4.heap.size:=(by have:=hb4.size;(try simp at this);omega);(first|(have wK:=aj hb4 nQ;(first|(have aer:w4.cell? ⟨w.heap.size+1,0,none⟩=some (.slice none 0 0):=(by rw[hb4.cell (p:=⟨w.heap.size+1,0,none⟩) (by dsimp only;omega)];exact aem);have agH:w4.frozen? ⟨w.heap.size+1,0,none⟩=false:=(by rw[hb4.frozen (p:=⟨w.heap.size+1,0,none⟩) (by dsimp only;omega)];exact aen))|(have aes:w4.cell? ⟨w2.heap.size,0,none⟩=some (.slice none 0 0):=(by rw[hb4.cell (p:=⟨w2.heap.size,0,none⟩) (by dsimp only;omega)];exact aeo);have agI:w4.frozen? ⟨w2.heap.size,0,none⟩=false:=(by rw[hb4.frozen (p:=⟨w2.heap.size,0,none⟩) (by dsimp only;omega)];exact aep))|skip))|(have wK:=aj hb4 (nQ.alloc nQ.size _);have agJ:w3.heap.size<w4.heap.size:=(by have:=hb4.size;(try simp at this);omega);have aeu:w4.cell? ⟨w3.heap.size,0,none⟩=some (.slice none 0 0):=(by rw[hb4.cell (p:=⟨w3.heap.size,0,none⟩) (by simp)];simp);have agK:w4.frozen? ⟨w3.heap.size,0,none⟩=false:=(by rw[hb4.frozen (p:=⟨w3.heap.size,0,none⟩) (by simp)];simp)))))
  ·go_wp2_with fail
   go_meet
   case rel=>exact⟨_,_,_,rfl,by simp,by simp,Kw,wK.alloc wK.size _⟩
  ·go_wp2_with fail
   go_meet
   case rel=>exact⟨_,_,_,rfl,by rw[Deep.nblk_setCell];omega,World.cell?_setCell_same _ _ _ aeu,Kw,wK.setCell (by first|(simp;done)|(simp;omega)) _⟩
  ·go_wp2_with fail
   go_meet
   case rel=>exact⟨_,_,_,rfl,by rw[Deep.nblk_setCell];omega,World.cell?_setCell_same _ _ _ aes,Kw,wK.setCell (by first|(simp;done)|(simp;omega)) _⟩
  ·go_wp2_with fail
   go_meet
   case rel=>exact⟨_,_,_,rfl,by rw[Deep.nblk_setCell];omega,World.cell?_setCell_same _ _ _ aer,Kw,wK.setCell (by first|(simp;done)|(simp;omega)) _⟩
 case rest =>
  obtain⟨R,hR⟩:∃R,R=sS (sS fs [] (IntKind.i64.wrap (field - fT name))) [] 0:=⟨_,rfl⟩
  have HR:=hide (show R=sS (sS fs [] (wrap64 (field - fT name))) [] 0 by rw[hR,IntKind.wrap_i64];unfold wrap64;rfl)
  rw[←hR] at hcut
  clear hR
  obtain⟨g,a4,cap4,rfl,hgl,hgc,hst,hbx⟩:=hcut
  have hRl:=hst.1
  obtain⟨Wc,rfl⟩:∃x,x=wc:=⟨_,rfl⟩
  have aev:=At.kept bE hst hbx
  have nA:=hide (aj hbx HHB.out)
  go_wp2_with fail
  refine(Vp R (wrap64 (comp - 1)) _ _ aev).mono ?_
  rintro e w5 ⟨rfl,hb5⟩
  have HZ:=hide (show sS R ⟨#[]⟩ (wrap64 (comp - 1))=pick fs (field - fT name) comp by
   rw[Vo,Ou R _ comp HB.out.2.1 HB.out.2.2 hRl,HR.out,Rj fs [] field (fT name) HB.out.1.1 HB.out.1.2 (by unfold fT;split <;> omega) (by unfold fT;split <;> omega) hfl])
  generalize sS R ⟨#[]⟩ (wrap64 (comp - 1))=z at *
  go_wp2_with fail
  go_ret
  exact⟨bF HZ.out,aj hb5 nA.out⟩
set_option maxRecDepth 100000 in
set_option maxHeartbeats 2000000 in
theorem zP (xs:List Seg) (name:ByteArray) (field comp:Int) (v:Value) (w:World) (hn:name.size≤9223372036854775807) (hl2:xs.length≤1048576) (hf0:-9223372036854775808≤field) (hf1:field≤9223372036854775807)
  (hc0:-9223372036854775808≤comp) (hc1:comp≤9223372036854775807) {lo:Nat} (hv:aX lo w v xs) (hsz:aT xs≤1048576) :
  Calls Tryz.prog 63 #[.agg #[v],.string name,.int .i64 field,.int .i64 comp] w fun e w'=>e=.returned (.string (aB xs name field comp))∧Below w.heap.size w w':=by
 have hb:=(Below.refl w.heap.size w).alloc (aS _) (Obj.cells #[v] 28)
 obtain⟨a,cap,rfl,hc⟩:=(At.kept bA hv hb).form
 have HC:=hide hc
 clear hc hv
 have HB:Hid ((-9223372036854775808≤field∧field≤9223372036854775807)∧-9223372036854775808≤comp∧comp≤9223372036854775807):=⟨⟨hf0,hf1⟩,hc0,hc1⟩
 clear hf0 hf1 hc0 hc1
 have HG:Hid (aB xs name field comp=match xs.find? fun s=>s.name.toList == name.toList with
  | none=>⟨#[]⟩
  | some s=>pick s.fields (field - if ig name then 3 else 1) comp):=rfl
 go_enter Tryz.func63,Tryz.ntmps63
 go_wp2_with fail
 go_loopg [14] xs.length (fun n i wr=>∃k:Nat,k≤xs.length∧n=xs.length - k∧i=.int .i64 k∧(∀j (hj:j<xs.length),j<k→(xs[j].name.toList == name.toList)=false)∧Below (w.alloc (Obj.cells #[.slice a xs.length cap] 28)).heap.size (w.alloc (Obj.cells #[.slice a xs.length cap] 28)) wr)
 case atStart=>exact⟨0,eH _,by simp,rfl,fun j _ h=>absurd h (by omega),Below.refl _ _⟩
 case round =>
  obtain⟨k,hk,rfl,rfl,hall,hbr⟩:=hrel
  obtain⟨W1,rfl⟩:∃x,x=wr:=⟨_,rfl⟩
  have HA:=hide hall
  clear hall
  by_cases hlt:k<xs.length
  ·obtain⟨b,off,rfl,_,hbl,hc0',hns,ve,hc1',hel⟩:=HC.out k hlt
   obtain⟨a2,cap2,rfl,_⟩:=hel.form
   have hcell0:W1.cell? ⟨b,off+k * 2,none⟩=some (.string xs[k].name):=by rw[hbr.cell (p:=⟨b,off+k * 2,none⟩) hbl];exact hc0'
   have hcell1:W1.cell? ⟨b,off+k * 2+1,none⟩=some (.slice a2 xs[k].fields.length cap2):=by rw[hbr.cell (p:=⟨b,off+k * 2+1,none⟩) hbl];exact hc1'
   have l7:=hbr.alloc hbr.size (Obj.cells #[.string xs[k].name,.slice a2 xs[k].fields.length cap2] 54)
   have I6:=At.kept aP hel l7
   clear hc0' hc1' hel
   cases he:(xs[k].name.toList == name.toList)
   ·have HGo:Hid (∀j (hj:j<xs.length),j<k+1→(xs[j].name.toList == name.toList)=false):=fun j hj h=>by
     by_cases e:j=k
     ·subst e;exact he
     ·exact HA.out j hj (by omega)
    go_wp2_with fail
    go_roundg (xs.length - (k+1))
    case rel=>exact⟨k+1,by omega,rfl,by go_num,HGo.out,l7⟩
    case measure=>omega
   ·have hfn:fT xs[k].name=fT name:=by
     unfold fT ig
     rw[beq_iff_eq.1 he]
    have HP:Hid (aB xs name field comp=pick xs[k].fields (field - fT xs[k].name) comp):=by
     rw[HG.out,yL hlt HA.out he,hfn];exact rfl
    have hfl:xs[k].fields.length≤1048576:=by
     have h1:=Rk bB xs k hlt
     unfold aT aH at hsz
     have h2:xs[k].fields.length≤bB xs[k]:=by unfold bB aH;omega
     omega
    have YS:=hide I6
    have nA:=hide (aj l7 hb)
    clear I6 hfn
    go_wp2_with fail
    refine(I5 xs[k].name xs[k].fields field comp _ _ HB.out.1.1 HB.out.1.2 HB.out.2.1 HB.out.2.2 YS.out hfl).mono ?_
    rintro e w5 ⟨rfl,hb5⟩
    obtain⟨z,hz⟩:∃z,pick xs[k].fields (field - fT xs[k].name) comp=z:=⟨_,rfl⟩
    have HZ:Hid (z=aB xs name field comp):=by rw[HP.out,hz];trivial
    rw[hz]
    clear hz
    go_wp2_with fail
    go_ret
    exact⟨bF HZ.out,aj hb5 nA.out⟩
  ·have HX:Hid (aB xs name field comp=⟨#[]⟩):=by
    rw[HG.out,Ev (fun j hj=>HA.out j hj (by omega))];exact rfl
   go_wp2_with fail
   go_ret
   exact⟨bF HX.out.symm,aj hbr hb⟩
end Go.Proofs.YtfdihjnlgdiioaaGreatDoor.dB
