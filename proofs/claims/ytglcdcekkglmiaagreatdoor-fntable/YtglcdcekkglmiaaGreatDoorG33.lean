import Derived.Test.YtglcdcekkglmiaaGreatDoorG32
namespace Go.Proofs.YtglcdcekkglmiaaGreatDoor.Msg
open Go.ChangeShapes Go.WideShapes Go.ChangeAt Go.RowKit
set_option linter.unusedVariables false
set_option linter.unusedSimpArgs false
set_option maxHeartbeats 400000 in
theorem atS_any (xs:List ByteArray) (v:Value) (k:Nat) (w:World) {lo:Nat} (hv:StrsAt lo w v xs) (hk:k≤1000000) :
  Calls Tryz.prog 72 #[v,.int .i64 (k:Int)] w fun e w'=>e=.returned (.string (xs.getD k ⟨#[]⟩))∧w'=w:=by
 have hl:=hv.1
 obtain⟨a,cap,hf,hc⟩:=hv.form
 subst hf
 have n0:¬(k:Int)<0:=by omega
 by_cases hlt:k<xs.length
 ·have h1:¬(xs.length:Int)≤(k:Int):=by omega
  have HX:Hid (xs.getD k ⟨#[]⟩=xs[k]):=by show _=_;simp[List.getD_eq_getElem?_getD,hlt]
  obtain⟨b,off,rfl,_,hbl,hcell,hsz⟩:=hc k hlt
  rw[Nat.mul_one] at hcell
  have hki:(k:Int)<(xs.length:Int):=by omega
  clear hc hv
  go_enter Tryz.func72,Tryz.ntmps72
  go_wp2_with fail
  go_ret
  first|exact⟨ret_string HX.out.symm,rfl⟩|exact⟨rfl,rfl⟩
 ·have h1:(xs.length:Int)≤(k:Int):=by omega
  have HX:Hid (xs.getD k ⟨#[]⟩=⟨#[]⟩):=by show _=_;rw[List.getD_eq_getElem?_getD,List.getElem?_eq_none (by omega)];rfl
  clear hc hv
  go_enter Tryz.func72,Tryz.ntmps72
  go_wp2_with fail
  go_ret
  first|exact⟨ret_string HX.out.symm,rfl⟩|exact⟨rfl,rfl⟩
theorem getD_txt (ps:List (List UInt8)) (k:Nat):(ps.map txt).getD k ⟨#[]⟩=txt (atL ps k):=by
 unfold atL
 rw[List.getD_eq_getElem?_getD,List.getD_eq_getElem?_getD,List.getElem?_map]
 cases ps[k]? <;> rfl
theorem atL_size {ps:List (List UInt8)} (h:∀q∈ps,q.length≤1048576) (k:Nat):(txt (atL ps k)).size≤1048576:=by
 rw[txt_size]
 unfold atL
 rw[List.getD_eq_getElem?_getD]
 cases hk:ps[k]? with
 | none=>simp
 | some q=>exact h q (List.mem_of_getElem? hk)
def zeroC:Chg:=⟨0,0,⟨#[]⟩,⟨#[]⟩,0,[],0⟩
def OChg (base:Nat) (w:World) (c:Chg) (u:Value):Prop:=∃bs,OStrs w u c.rows bs∧bs.Nodup∧∀b∈bs,base≤b
theorem keep7 {W X:World} {c0 c1 c2 c3 c4 c5 c6:Value} {t:TypeId} (h:Below (W.alloc (Obj.cells #[c0,c1,c2,c3,c4,c5,c6] t)).heap.size (W.alloc (Obj.cells #[c0,c1,c2,c3,c4,c5,c6] t)) X) :
  X.cell? ⟨W.heap.size,0,none⟩=some c0∧X.cell? ⟨W.heap.size,1,none⟩=some c1∧X.cell? ⟨W.heap.size,2,none⟩=some c2∧X.cell? ⟨W.heap.size,3,none⟩=some c3∧X.cell? ⟨W.heap.size,4,none⟩=some c4∧X.cell? ⟨W.heap.size,5,none⟩=some c5∧X.cell? ⟨W.heap.size,6,none⟩=some c6 ∧
  X.frozen? ⟨W.heap.size,0,none⟩=false∧X.frozen? ⟨W.heap.size,1,none⟩=false∧X.frozen? ⟨W.heap.size,2,none⟩=false∧X.frozen? ⟨W.heap.size,3,none⟩=false∧X.frozen? ⟨W.heap.size,4,none⟩=false∧X.frozen? ⟨W.heap.size,5,none⟩=false∧X.frozen? ⟨W.heap.size,6,none⟩=false∧W.heap.size<X.heap.size:=by
 have hz:W.heap.size<X.heap.size:=by have:=h.size;simp at this;omega
 refine⟨?_,?_,?_,?_,?_,?_,?_,?_,?_,?_,?_,?_,?_,?_,hz⟩
 all_goals first|exact(h.cell (by simp)).trans (by simp)|exact(h.frozen (by simp)).trans (by simp)
theorem sc_same {X:World} {b o:Nat} {v:Value} (h:(X.cell? ⟨b,o,none⟩).isSome=true):(X.setCell ⟨b,o,none⟩ v).cell? ⟨b,o,none⟩=some v:=by
 obtain⟨c,hc⟩:=Option.isSome_iff_exists.1 h
 exact World.cell?_setCell_same X ⟨b,o,none⟩ v hc
theorem sc_other {X:World} {b i j:Nat} {v:Value} (h:i≠j):(X.setCell ⟨b,i,none⟩ v).cell? ⟨b,j,none⟩=X.cell? ⟨b,j,none⟩ :=
 World.cell?_setCell_other X ⟨b,i,none⟩ ⟨b,j,none⟩ v (fun e=>h (by injection e))
theorem sc_far {X:World} {b d i j:Nat} {v:Value} (h:¬b=d):(X.setCell ⟨b,i,none⟩ v).cell? ⟨d,j,none⟩=X.cell? ⟨d,j,none⟩ :=
 World.cell?_setCell_far X ⟨b,i,none⟩ ⟨d,j,none⟩ v h
theorem al_old {X:World} {d j:Nat} {o:Obj} (h:d<X.heap.size):(X.alloc o).cell? ⟨d,j,none⟩=X.cell? ⟨d,j,none⟩ :=
 ((Below.refl X.heap.size X).alloc (leR _) o).cell (p:=⟨d,j,none⟩) h
theorem set7 {X:World} {b:Nat} (hx:∀i,i<7→∃c,X.cell? ⟨b,i,none⟩=some c) (k0 k1 k4 k6:Int) (t2 t3:ByteArray) (ad:Option Addr) (ln cp:Nat) :
  (((((((X.setCell ⟨b,0,none⟩ (.int .i64 k0)).setCell ⟨b,1,none⟩ (.int .i64 k1)).setCell ⟨b,2,none⟩ (.string t2)).setCell ⟨b,3,none⟩ (.string t3)).setCell ⟨b,4,none⟩ (.int .i64 k4)).setCell ⟨b,5,none⟩ (.slice ad ln cp)).setCell ⟨b,6,none⟩ (.int .i64 k6)).cell? ⟨b,0,none⟩=some (.int .i64 k0)∧(((((((X.setCell ⟨b,0,none⟩ (.int .i64 k0)).setCell ⟨b,1,none⟩ (.int .i64 k1)).setCell ⟨b,2,none⟩ (.string t2)).setCell ⟨b,3,none⟩ (.string t3)).setCell ⟨b,4,none⟩ (.int .i64 k4)).setCell ⟨b,5,none⟩ (.slice ad ln cp)).setCell ⟨b,6,none⟩ (.int .i64 k6)).cell? ⟨b,1,none⟩=some (.int .i64 k1)∧(((((((X.setCell ⟨b,0,none⟩ (.int .i64 k0)).setCell ⟨b,1,none⟩ (.int .i64 k1)).setCell ⟨b,2,none⟩ (.string t2)).setCell ⟨b,3,none⟩ (.string t3)).setCell ⟨b,4,none⟩ (.int .i64 k4)).setCell ⟨b,5,none⟩ (.slice ad ln cp)).setCell ⟨b,6,none⟩ (.int .i64 k6)).cell? ⟨b,2,none⟩=some (.string t2)∧(((((((X.setCell ⟨b,0,none⟩ (.int .i64 k0)).setCell ⟨b,1,none⟩ (.int .i64 k1)).setCell ⟨b,2,none⟩ (.string t2)).setCell ⟨b,3,none⟩ (.string t3)).setCell ⟨b,4,none⟩ (.int .i64 k4)).setCell ⟨b,5,none⟩ (.slice ad ln cp)).setCell ⟨b,6,none⟩ (.int .i64 k6)).cell? ⟨b,3,none⟩=some (.string t3)∧(((((((X.setCell ⟨b,0,none⟩ (.int .i64 k0)).setCell ⟨b,1,none⟩ (.int .i64 k1)).setCell ⟨b,2,none⟩ (.string t2)).setCell ⟨b,3,none⟩ (.string t3)).setCell ⟨b,4,none⟩ (.int .i64 k4)).setCell ⟨b,5,none⟩ (.slice ad ln cp)).setCell ⟨b,6,none⟩ (.int .i64 k6)).cell? ⟨b,4,none⟩=some (.int .i64 k4)∧(((((((X.setCell ⟨b,0,none⟩ (.int .i64 k0)).setCell ⟨b,1,none⟩ (.int .i64 k1)).setCell ⟨b,2,none⟩ (.string t2)).setCell ⟨b,3,none⟩ (.string t3)).setCell ⟨b,4,none⟩ (.int .i64 k4)).setCell ⟨b,5,none⟩ (.slice ad ln cp)).setCell ⟨b,6,none⟩ (.int .i64 k6)).cell? ⟨b,5,none⟩=some (.slice ad ln cp)∧(((((((X.setCell ⟨b,0,none⟩ (.int .i64 k0)).setCell ⟨b,1,none⟩ (.int .i64 k1)).setCell ⟨b,2,none⟩ (.string t2)).setCell ⟨b,3,none⟩ (.string t3)).setCell ⟨b,4,none⟩ (.int .i64 k4)).setCell ⟨b,5,none⟩ (.slice ad ln cp)).setCell ⟨b,6,none⟩ (.int .i64 k6)).cell? ⟨b,6,none⟩=some (.int .i64 k6):=by
 obtain⟨c0,z0⟩:=hx 0 (by omega)
 obtain⟨c1,z1⟩:=hx 1 (by omega)
 obtain⟨c2,z2⟩:=hx 2 (by omega)
 obtain⟨c3,z3⟩:=hx 3 (by omega)
 obtain⟨c4,z4⟩:=hx 4 (by omega)
 obtain⟨c5,z5⟩:=hx 5 (by omega)
 obtain⟨c6,z6⟩:=hx 6 (by omega)
 clear hx
 refine⟨?_,?_,?_,?_,?_,?_,?_⟩ <;> simp[sc_same,sc_other,z0,z1,z2,z3,z4,z5,z6]
theorem set7a {X:World} {b:Nat} {o:Obj} (hx:∀i,i<7→∃c,X.cell? ⟨b,i,none⟩=some c) (hb:b<X.heap.size) (k0 k1 k4 k6:Int) (t2 t3:ByteArray) (ad:Option Addr) (ln cp:Nat) :
  ((((((((X.setCell ⟨b,0,none⟩ (.int .i64 k0)).setCell ⟨b,1,none⟩ (.int .i64 k1)).setCell ⟨b,2,none⟩ (.string t2)).setCell ⟨b,3,none⟩ (.string t3)).setCell ⟨b,4,none⟩ (.int .i64 k4)).setCell ⟨b,5,none⟩ (.slice ad ln cp)).setCell ⟨b,6,none⟩ (.int .i64 k6)).alloc o).cell? ⟨b,0,none⟩=some (.int .i64 k0)∧((((((((X.setCell ⟨b,0,none⟩ (.int .i64 k0)).setCell ⟨b,1,none⟩ (.int .i64 k1)).setCell ⟨b,2,none⟩ (.string t2)).setCell ⟨b,3,none⟩ (.string t3)).setCell ⟨b,4,none⟩ (.int .i64 k4)).setCell ⟨b,5,none⟩ (.slice ad ln cp)).setCell ⟨b,6,none⟩ (.int .i64 k6)).alloc o).cell? ⟨b,1,none⟩=some (.int .i64 k1)∧((((((((X.setCell ⟨b,0,none⟩ (.int .i64 k0)).setCell ⟨b,1,none⟩ (.int .i64 k1)).setCell ⟨b,2,none⟩ (.string t2)).setCell ⟨b,3,none⟩ (.string t3)).setCell ⟨b,4,none⟩ (.int .i64 k4)).setCell ⟨b,5,none⟩ (.slice ad ln cp)).setCell ⟨b,6,none⟩ (.int .i64 k6)).alloc o).cell? ⟨b,2,none⟩=some (.string t2)∧((((((((X.setCell ⟨b,0,none⟩ (.int .i64 k0)).setCell ⟨b,1,none⟩ (.int .i64 k1)).setCell ⟨b,2,none⟩ (.string t2)).setCell ⟨b,3,none⟩ (.string t3)).setCell ⟨b,4,none⟩ (.int .i64 k4)).setCell ⟨b,5,none⟩ (.slice ad ln cp)).setCell ⟨b,6,none⟩ (.int .i64 k6)).alloc o).cell? ⟨b,3,none⟩=some (.string t3)∧((((((((X.setCell ⟨b,0,none⟩ (.int .i64 k0)).setCell ⟨b,1,none⟩ (.int .i64 k1)).setCell ⟨b,2,none⟩ (.string t2)).setCell ⟨b,3,none⟩ (.string t3)).setCell ⟨b,4,none⟩ (.int .i64 k4)).setCell ⟨b,5,none⟩ (.slice ad ln cp)).setCell ⟨b,6,none⟩ (.int .i64 k6)).alloc o).cell? ⟨b,4,none⟩=some (.int .i64 k4)∧((((((((X.setCell ⟨b,0,none⟩ (.int .i64 k0)).setCell ⟨b,1,none⟩ (.int .i64 k1)).setCell ⟨b,2,none⟩ (.string t2)).setCell ⟨b,3,none⟩ (.string t3)).setCell ⟨b,4,none⟩ (.int .i64 k4)).setCell ⟨b,5,none⟩ (.slice ad ln cp)).setCell ⟨b,6,none⟩ (.int .i64 k6)).alloc o).cell? ⟨b,5,none⟩=some (.slice ad ln cp)∧((((((((X.setCell ⟨b,0,none⟩ (.int .i64 k0)).setCell ⟨b,1,none⟩ (.int .i64 k1)).setCell ⟨b,2,none⟩ (.string t2)).setCell ⟨b,3,none⟩ (.string t3)).setCell ⟨b,4,none⟩ (.int .i64 k4)).setCell ⟨b,5,none⟩ (.slice ad ln cp)).setCell ⟨b,6,none⟩ (.int .i64 k6)).alloc o).cell? ⟨b,6,none⟩=some (.int .i64 k6):=by
 have h:=set7 hx k0 k1 k4 k6 t2 t3 ad ln cp
 have hz:b<(((((((X.setCell ⟨b,0,none⟩ (.int .i64 k0)).setCell ⟨b,1,none⟩ (.int .i64 k1)).setCell ⟨b,2,none⟩ (.string t2)).setCell ⟨b,3,none⟩ (.string t3)).setCell ⟨b,4,none⟩ (.int .i64 k4)).setCell ⟨b,5,none⟩ (.slice ad ln cp)).setCell ⟨b,6,none⟩ (.int .i64 k6)).heap.size:=by simp only[Deep.nblk_setCell];exact hb
 simp only[al_old hz]
 exact h
theorem loose_results {tmps:Array Value} {b:Nat} {W:World} {k0 k1 k4 k6:Int} {t2 t3:ByteArray} {ad:Option Addr} {ln cp:Nat} (h2:tmps[2]?=some (.pointer (some ⟨b,0,none⟩)))
  (s:W.cell? ⟨b,0,none⟩=some (.int .i64 k0)∧W.cell? ⟨b,1,none⟩=some (.int .i64 k1)∧W.cell? ⟨b,2,none⟩=some (.string t2)∧W.cell? ⟨b,3,none⟩=some (.string t3)∧W.cell? ⟨b,4,none⟩=some (.int .i64 k4)∧W.cell? ⟨b,5,none⟩=some (.slice ad ln cp)∧W.cell? ⟨b,6,none⟩=some (.int .i64 k6)) :
  (results Tryz.f33 tmps).run Tryz.prog W=.ok (.agg #[.int .i64 k0,.int .i64 k1,.string t2,.string t3,.int .i64 k4,.slice ad ln cp,.int .i64 k6]) W:=by
 obtain⟨s0,s1,s2,s3,s4,s5,s6⟩:=s
 simp[results,Tryz.results33,go_sem,h2,s0,s1,s2,s3,s4,s5,s6]
set_option maxRecDepth 100000 in
set_option maxHeartbeats 4000000 in
theorem loose_any (ps:List (List UInt8)) (v:Value) (w:World) {base:Nat} (h0:0<ps.length) (hn:ps.length≤1048577) (hz:∀q∈ps,q.length≤1048576) (hS:SBuf base w v (ps.map txt)) (hE:Env w) :
  Calls Tryz.prog 33 #[v] w fun e w'=>∃u,e=.returned (chgV (looseI ps) u)∧OChg base w' (looseI ps) u∧Below w.heap.size w w':=by
 have h':w.ownsRow base 9 1 v ((ps.map txt).map Value.string).length ((ps.map txt).map Value.string):=by rw[List.length_map];exact hS
 obtain⟨g,cap,rfl,hcp,hg,hlt,hc⟩:∃g cap,v=.slice (some ⟨g,0,none⟩) ps.length cap∧ps.length≤cap∧base≤g∧g<w.heap.size∧∀i (h:i<ps.length),w.cell? ⟨g,i,none⟩=some (.string (txt ps[i]))∧w.frozen? ⟨g,i,none⟩=false:=by
  rcases own_cells h' with⟨e,_⟩|⟨g,cap,rfl,hg,hlt,hc⟩
  ·have:=List.map_eq_nil_iff.1 (List.map_eq_nil_iff.1 e);rw[this] at h0;simp at h0
  ·refine⟨g,cap,by simp,?_,hg,hlt,fun i h=>?_⟩
   ·obtain⟨_,⟨e,_⟩|⟨g',cap',cur,e,_,_,hcp,_⟩⟩:=hS
    ·cases e
    ·injection e with _ _ e;subst e;simpa using hcp
   ·have:=hc i (by simpa using h)
    simpa using this
 have HAT:Hid (∀(k j:Nat) (W:World),k≤ps.length→j≤10→Below w.heap.size w W→Calls Tryz.prog 72 #[.slice (some ⟨g,k,none⟩) (ps.length - k) (cap - k),.int .i64 (j:Int)] W fun e w'=>e=.returned (.string (txt (atL ps (k+j))))∧w'=W):=fun k j W hk hj hb=>by
  have hs:StrsAt 0 W (.slice (some ⟨g,k,none⟩) (ps.length - k) (cap - k)) ((ps.drop k).map txt):=by
   refine⟨by simp;omega,.inr ⟨g,k,cap - k,by simp,⟨zrL _,Nat.lt_of_lt_of_le hlt hb.size⟩,fun i hi=>?_⟩⟩
   have hi':k+i<ps.length:=by simp at hi;omega
   refine⟨?_,?_⟩
   ·rw[Nat.mul_one,hb.cell (p:=⟨g,k+i,none⟩) hlt,(hc (k+i) hi').1]
    simp
   ·simp only[List.getElem_map,List.getElem_drop,txt_size]
    have:=hz ps[k+i] (List.getElem_mem _)
    omega
  have h:=atS_any _ _ j W hs (by omega)
  have e:((ps.drop k).map txt).getD j ⟨#[]⟩=txt (atL ps (k+j)):=by
   rw[getD_txt]
   unfold atL
   simp[List.getD_eq_getElem?_getD]
  rw[e] at h
  exact h
 have HAT0:Hid (∀(j:Nat) (W:World),j≤10→Below w.heap.size w W→Calls Tryz.prog 72 #[.slice (some ⟨g,0,none⟩) ps.length cap,.int .i64 (j:Int)] W fun e w'=>e=.returned (.string (txt (atL ps j)))∧w'=W):=fun j W hj hb=>by
  have:=HAT.out 0 j W (zrL _) hj hb
  simpa using this
 have HNU:Hid (∀(j:Nat) (W:World),Below w.heap.size w W→Calls Tryz.prog 71 #[.string (txt (atL ps j))] W fun e w'=>e=.returned (.int .i64 (numI (atL ps j)))∧Below W.heap.size W w'):=fun j W hb=>by
  have:=numberOf_any (txt (atL ps j)) W (atL_size hz j) (hE.kept hb)
  rw[txt_data] at this
  exact this
 have HOR:Hid (∀W:World,3≤ps.length→Below w.heap.size w W→∃bs,OStrs W (.slice (some ⟨g,3,none⟩) (ps.length - 3) (cap - 3)) ((ps.drop 3).map txt) bs∧bs.Nodup∧∀b∈bs,base≤b):=fun W h3 hb=>by
  refine⟨[g],⟨by simp;omega,.inr ⟨g,3,cap - 3,List.replicate (ps.length - 3) [],by simp,Nat.lt_of_lt_of_le hlt hb.size,by simp,by simp,fun i hi h2=>?_⟩⟩,by simp,by simp[hg]⟩
  have hi':3+i<ps.length:=by simp at hi;omega
  refine⟨?_,?_,?_,?_⟩
  ·rw[Nat.mul_one,hb.cell (p:=⟨g,3+i,none⟩) hlt,(hc (3+i) hi').1]
   simp
  ·rw[Nat.mul_one,hb.frozen (p:=⟨g,3+i,none⟩) hlt,(hc (3+i) hi').2]
  ·simp only[List.getElem_map,List.getElem_drop,txt_size]
   have:=hz ps[3+i] (List.getElem_mem _)
   omega
  ·simp
 have HATE:Hid (∀(ad:Option Addr) (c j:Nat) (W:World),j≤10→Calls Tryz.prog 72 #[.slice ad 0 c,.int .i64 (j:Int)] W fun e w'=>e=.returned (.string ⟨#[]⟩)∧w'=W):=fun ad c j W hj=>by
  have h:=atS_any [] (.slice ad 0 c) j W (lo:=0) ⟨by simp,.inl ⟨ad,c,rfl,rfl⟩⟩ (by omega)
  simpa using h
 have A0:Hid (∀W,Below w.heap.size w W→Calls Tryz.prog 72 #[.slice (some ⟨g,0,none⟩) ps.length cap,.int .i64 0] W fun e w'=>e=.returned (.string (txt (atL ps 0)))∧w'=W):=fun W hb=>HAT0.out 0 W (by omega) hb
 have A1:Hid (∀W,Below w.heap.size w W→Calls Tryz.prog 72 #[.slice (some ⟨g,0,none⟩) ps.length cap,.int .i64 1] W fun e w'=>e=.returned (.string (txt (atL ps 1)))∧w'=W):=fun W hb=>HAT0.out 1 W (by omega) hb
 have A2:Hid (∀W,Below w.heap.size w W→Calls Tryz.prog 72 #[.slice (some ⟨g,0,none⟩) ps.length cap,.int .i64 2] W fun e w'=>e=.returned (.string (txt (atL ps 2)))∧w'=W):=fun W hb=>HAT0.out 2 W (by omega) hb
 have AR:Hid (3<ps.length→(∀W,Below w.heap.size w W→Calls Tryz.prog 72 #[.slice (some ⟨g,3,none⟩) (ps.length - 3) (cap - 3),.int .i64 0] W fun e w'=>e=.returned (.string (txt (atL ps 3)))∧w'=W)∧(∀W,Below w.heap.size w W→Calls Tryz.prog 72 #[.slice (some ⟨g,3,none⟩) (ps.length - 3) (cap - 3),.int .i64 1] W fun e w'=>e=.returned (.string (txt (atL ps 4)))∧w'=W)∧(∀W,Below w.heap.size w W→∃bs,OStrs W (.slice (some ⟨g,3,none⟩) (ps.length - 3) (cap - 3)) ((ps.drop 3).map txt) bs∧bs.Nodup∧∀b∈bs,base≤b)):=fun h3 =>
  ⟨fun W hb=>HAT.out 3 0 W (by omega) (by omega) hb,fun W hb=>HAT.out 3 1 W (by omega) (by omega) hb,fun W hb=>HOR.out W (by omega) hb⟩
 have ARE:Hid (ps.length≤3→(∀ad c W,Below w.heap.size w W→Calls Tryz.prog 72 #[.slice ad 0 c,.int .i64 0] W fun e w'=>e=.returned (.string (txt (atL ps 3)))∧w'=W)∧(∀ad c W,Below w.heap.size w W→Calls Tryz.prog 72 #[.slice ad 0 c,.int .i64 1] W fun e w'=>e=.returned (.string (txt (atL ps 4)))∧w'=W)∧(∀ad c W,Below w.heap.size w W→∃bs,OStrs W (.slice ad 0 c) ((ps.drop 3).map txt) bs∧bs.Nodup∧∀b∈bs,base≤b)):=fun h3=>by
  have e3:atL ps 3=[]:=by unfold atL;rw[List.getD_eq_getElem?_getD,List.getElem?_eq_none (by omega)];rfl
  have e4:atL ps 4=[]:=by unfold atL;rw[List.getD_eq_getElem?_getD,List.getElem?_eq_none (by omega)];rfl
  have e5:ps.drop 3=[]:=List.drop_eq_nil_of_le h3
  rw[e3,e4,e5]
  exact⟨fun ad c W _=>HATE.out ad c 0 W (by omega),fun ad c W _=>HATE.out ad c 1 W (by omega),fun ad c W _=>⟨[],⟨by simp,.inl ⟨ad,c,rfl,rfl,rfl⟩⟩,by simp,by simp⟩⟩
 have U0:=hide (HNU.out 0)
 have U1:=hide (HNU.out 1)
 have U3:=hide (HNU.out 3)
 have U4:=hide (HNU.out 4)
 have HLI:Hid (looseI ps={ kind:=numI (atL ps 0),client:=numI (atL ps 1),tag:=txt (atL ps 2),query:=if numI (atL ps 0)=1 then txt (atL ps 3) else ⟨#[]⟩,page:=if numI (atL ps 0)=1 then numI (atL ps 4) else 0,rows:=if numI (atL ps 0)=2 then (ps.drop 3).map txt else [],n:=if numI (atL ps 0)=4 then numI (atL ps 3) else 0 }):=rfl
 clear HAT HAT0 HNU HOR HATE hc hS h' hE hz hg
 obtain⟨T0,hT0⟩:∃T0,txt (atL ps 0)=T0:=⟨_,rfl⟩
 obtain⟨T1,hT1⟩:∃T1,txt (atL ps 1)=T1:=⟨_,rfl⟩
 obtain⟨T2,hT2⟩:∃T2,txt (atL ps 2)=T2:=⟨_,rfl⟩
 obtain⟨T3,hT3⟩:∃T3,txt (atL ps 3)=T3:=⟨_,rfl⟩
 obtain⟨T4,hT4⟩:∃T4,txt (atL ps 4)=T4:=⟨_,rfl⟩
 obtain⟨N0,hN0⟩:∃N0,numI (atL ps 0)=N0:=⟨_,rfl⟩
 obtain⟨N1,hN1⟩:∃N1,numI (atL ps 1)=N1:=⟨_,rfl⟩
 obtain⟨N3,hN3⟩:∃N3,numI (atL ps 3)=N3:=⟨_,rfl⟩
 obtain⟨N4,hN4⟩:∃N4,numI (atL ps 4)=N4:=⟨_,rfl⟩
 rw[hT0] at A0 U0
 rw[hT1] at A1 U1
 rw[hT2] at A2 HLI
 rw[hT3] at AR ARE U3 HLI
 rw[hT4] at AR ARE U4
 rw[hN0] at U0 HLI
 rw[hN1] at U1 HLI
 rw[hN3] at U3 HLI
 rw[hN4] at U4 HLI
 clear hT0 hT1 hT2 hT3 hT4 hN0 hN1 hN3 hN4
 have b0:Below w.heap.size w (w.alloc (Obj.cells #[.int .i64 0,.int .i64 0,.string ⟨#[]⟩,.string ⟨#[]⟩,.int .i64 0,.slice none 0 0,.int .i64 0] 28)):=alcB _ _
 by_cases hlen:3<ps.length
 ·have m1:(3:Int)<(ps.length:Int):=by omega
  have m2:¬(ps.length:Int)<(3:Int):=by omega
  have m3:¬(ps.length:Int)≤(3:Int):=by omega
  have m4:(3:Int)≤(ps.length:Int):=by omega
  have m5:¬cap=3:=by omega
  have m6:min (3:Int) (ps.length:Int)=3:=by omega
  have m7:(3:Int)≤(cap:Int):=by omega
  have HR3:=hide (AR.out hlen)
  have R0:Hid (∀W,Below w.heap.size w W→Calls Tryz.prog 72 #[.slice (some ⟨g,3,none⟩) (ps.length - 3) (cap - 3),.int .i64 0] W fun e w'=>e=.returned (.string T3)∧w'=W):=HR3.out.1
  have R1:Hid (∀W,Below w.heap.size w W→Calls Tryz.prog 72 #[.slice (some ⟨g,3,none⟩) (ps.length - 3) (cap - 3),.int .i64 1] W fun e w'=>e=.returned (.string T4)∧w'=W):=HR3.out.2.1
  have RO:Hid (∀W,Below w.heap.size w W→∃bs,OStrs W (.slice (some ⟨g,3,none⟩) (ps.length - 3) (cap - 3)) ((ps.drop 3).map txt) bs∧bs.Nodup∧∀b∈bs,base≤b):=HR3.out.2.2
  clear HR3
  by_cases k1:N0=1
  ·subst k1
   have HX:Hid (looseI ps=⟨1,N1,T2,T3,N4,[],0⟩):=by show _=_;rw[HLI.out];simp
   rw[HX.out]
   go_enter Tryz.func33,Tryz.ntmps33
   go_wp2_with fail
   refine(A0.out _ b0).mono ?_
   rintro e W ⟨rfl,hW⟩
   rw[hW]
   clear hW W
   go_wp2_with fail
   refine(U0.out _ b0).mono ?_
   rintro e v1 ⟨rfl,hb1⟩
   have hB1:Below w.heap.size w v1:=b0.trans (hb1.mono b0.size)
   go_wp2_with fail
   refine(A1.out _ hB1).mono ?_
   rintro e W ⟨rfl,hW⟩
   rw[hW]
   clear hW W
   go_wp2_with fail
   refine(U1.out _ hB1).mono ?_
   rintro e v2 ⟨rfl,hb2⟩
   have hB2:Below w.heap.size w v2:=hB1.trans (hb2.mono hB1.size)
   have hx2:Below (w.alloc (Obj.cells #[.int .i64 0,.int .i64 0,.string ⟨#[]⟩,.string ⟨#[]⟩,.int .i64 0,.slice none 0 0,.int .i64 0] 28)).heap.size (w.alloc (Obj.cells #[.int .i64 0,.int .i64 0,.string ⟨#[]⟩,.string ⟨#[]⟩,.int .i64 0,.slice none 0 0,.int .i64 0] 28)) v2:=hb1.trans (hb2.mono hb1.size)
   go_wp2_with fail
   refine(A2.out _ hB2).mono ?_
   rintro e W ⟨rfl,hW⟩
   rw[hW]
   clear hW W
   have hB3:Below w.heap.size w (v2.alloc (Obj.cells #[.int .i64 1,.int .i64 N1,.string T2,.string ⟨#[]⟩,.int .i64 0,.slice none 0 0,.int .i64 0] 28)):=hB2.alloc hB2.size _
   go_wp2_with fail
   refine(R0.out _ hB3).mono ?_
   rintro e W ⟨rfl,hW⟩
   rw[hW]
   clear hW W
   go_wp2_with fail
   refine(R1.out _ hB3).mono ?_
   rintro e W ⟨rfl,hW⟩
   rw[hW]
   clear hW W
   go_wp2_with fail
   refine(U4.out _ hB3).mono ?_
   rintro e v4 ⟨rfl,hb4⟩
   have hB4:Below w.heap.size w v4:=hB3.trans (hb4.mono hB3.size)
   obtain⟨o0,o1,o2,o3,o4,o5,o6,p0,p1,p2,p3,p4,p5,p6,hz4⟩:=keep7 hb4
   have hx4:Below (w.alloc (Obj.cells #[.int .i64 0,.int .i64 0,.string ⟨#[]⟩,.string ⟨#[]⟩,.int .i64 0,.slice none 0 0,.int .i64 0] 28)).heap.size (w.alloc (Obj.cells #[.int .i64 0,.int .i64 0,.string ⟨#[]⟩,.string ⟨#[]⟩,.int .i64 0,.slice none 0 0,.int .i64 0] 28)) v4:=(hx2.alloc hx2.size _).trans (hb4.mono (hx2.alloc hx2.size _).size)
   obtain⟨z0,z1,z2,z3,z4,z5,z6,y0,y1,y2,y3,y4,y5,y6,hzw⟩:=keep7 hx4
   have HBF:=hide hB4
   have H2S:=hide hB2.size
   have HB2:=hide hB2
   have hne:¬w.heap.size=v2.heap.size:=by have:=hx2.size;simp at this;omega
   have hne2:¬v2.heap.size=w.heap.size:=fun h=>hne h.symm
   clear hB4 hb4 hx4 hx2 hB3 hB2 hb2 hB1 hb1 hlt
   go_wp2_with fail
   refine bodyPost_ret (v:=.agg #[.int .i64 1,.int .i64 N1,.string T2,.string T3,.int .i64 N4,.slice none 0 0,.int .i64 0]) (loose_results rfl (set7 (fun i hi=>?_) _ _ _ _ _ _ _ _ _)) rfl ⟨.slice none 0 0,rfl,?_,?_⟩
   ·match i,hi with
    | 0,_=>exact⟨_,(by simp only[sc_far hne2];exact z0)⟩
    | 1,_=>exact⟨_,(by simp only[sc_far hne2];exact z1)⟩
    | 2,_=>exact⟨_,(by simp only[sc_far hne2];exact z2)⟩
    | 3,_=>exact⟨_,(by simp only[sc_far hne2];exact z3)⟩
    | 4,_=>exact⟨_,(by simp only[sc_far hne2];exact z4)⟩
    | 5,_=>exact⟨_,(by simp only[sc_far hne2];exact z5)⟩
    | 6,_=>exact⟨_,(by simp only[sc_far hne2];exact z6)⟩
   ·exact⟨[],⟨by simp,.inl ⟨none,0,rfl,rfl,rfl⟩⟩,by simp,by simp⟩
   ·exact(by(iterate 9 refine Below.setCell ?_ (by dsimp only;first|exact leR _|exact H2S.out) _);exact HBF.out)
  have kb1:(N0 == 1)=false:=by simpa using k1
  by_cases k2:N0=2
  ·subst k2
   have HX:Hid (looseI ps=⟨2,N1,T2,⟨#[]⟩,0,(ps.drop 3).map txt,0⟩):=by show _=_;rw[HLI.out];simp
   rw[HX.out]
   go_enter Tryz.func33,Tryz.ntmps33
   go_wp2_with fail
   refine(A0.out _ b0).mono ?_
   rintro e W ⟨rfl,hW⟩
   rw[hW]
   clear hW W
   go_wp2_with fail
   refine(U0.out _ b0).mono ?_
   rintro e v1 ⟨rfl,hb1⟩
   have hB1:Below w.heap.size w v1:=b0.trans (hb1.mono b0.size)
   go_wp2_with fail
   refine(A1.out _ hB1).mono ?_
   rintro e W ⟨rfl,hW⟩
   rw[hW]
   clear hW W
   go_wp2_with fail
   refine(U1.out _ hB1).mono ?_
   rintro e v2 ⟨rfl,hb2⟩
   have hB2:Below w.heap.size w v2:=hB1.trans (hb2.mono hB1.size)
   have hx2:Below (w.alloc (Obj.cells #[.int .i64 0,.int .i64 0,.string ⟨#[]⟩,.string ⟨#[]⟩,.int .i64 0,.slice none 0 0,.int .i64 0] 28)).heap.size (w.alloc (Obj.cells #[.int .i64 0,.int .i64 0,.string ⟨#[]⟩,.string ⟨#[]⟩,.int .i64 0,.slice none 0 0,.int .i64 0] 28)) v2:=hb1.trans (hb2.mono hb1.size)
   go_wp2_with fail
   refine(A2.out _ hB2).mono ?_
   rintro e W ⟨rfl,hW⟩
   rw[hW]
   clear hW W
   have hB3:Below w.heap.size w (v2.alloc (Obj.cells #[.int .i64 2,.int .i64 N1,.string T2,.string ⟨#[]⟩,.int .i64 0,.slice none 0 0,.int .i64 0] 28)):=hB2.alloc hB2.size _
   obtain⟨z0,z1,z2,z3,z4,z5,z6,y0,y1,y2,y3,y4,y5,y6,hzw⟩:=keep7 hx2
   have HBF:=hide hB3
   have H2S:=hide hB2.size
   have HB2:=hide hB2
   have hne:¬w.heap.size=v2.heap.size:=by have:=hx2.size;simp at this;omega
   have hne2:¬v2.heap.size=w.heap.size:=fun h=>hne h.symm
   clear  hx2 hB3 hB2 hb2 hB1 hb1 hlt
   go_wp2_with fail
   refine bodyPost_ret (v:=.agg #[.int .i64 2,.int .i64 N1,.string T2,.string ⟨#[]⟩,.int .i64 0,.slice (some ⟨g,3,none⟩) (ps.length - 3) (cap - 3),.int .i64 0]) (loose_results rfl (set7a (fun i hi=>?_) hzw _ _ _ _ _ _ _ _ _)) rfl ⟨.slice (some ⟨g,3,none⟩) (ps.length - 3) (cap - 3),rfl,?_,?_⟩
   ·match i,hi with
    | 0,_=>exact⟨_,z0⟩
    | 1,_=>exact⟨_,z1⟩
    | 2,_=>exact⟨_,z2⟩
    | 3,_=>exact⟨_,z3⟩
    | 4,_=>exact⟨_,z4⟩
    | 5,_=>exact⟨_,z5⟩
    | 6,_=>exact⟨_,z6⟩
   ·exact RO.out _ (by refine Below.alloc ?_ (by simp only[Deep.nblk_setCell];exact H2S.out) _;(iterate 7 refine Below.setCell ?_ (by dsimp only;exact leR _) _);exact HB2.out)
   ·exact(by refine Below.alloc ?_ (by simp only[Deep.nblk_setCell];exact H2S.out) _;(iterate 7 refine Below.setCell ?_ (by dsimp only;exact leR _) _);exact HB2.out)
  have kb2:(N0 == 2)=false:=by simpa using k2
  by_cases k4:N0=4
  ·subst k4
   have HX:Hid (looseI ps=⟨4,N1,T2,⟨#[]⟩,0,[],N3⟩):=by show _=_;rw[HLI.out];simp
   rw[HX.out]
   go_enter Tryz.func33,Tryz.ntmps33
   go_wp2_with fail
   refine(A0.out _ b0).mono ?_
   rintro e W ⟨rfl,hW⟩
   rw[hW]
   clear hW W
   go_wp2_with fail
   refine(U0.out _ b0).mono ?_
   rintro e v1 ⟨rfl,hb1⟩
   have hB1:Below w.heap.size w v1:=b0.trans (hb1.mono b0.size)
   go_wp2_with fail
   refine(A1.out _ hB1).mono ?_
   rintro e W ⟨rfl,hW⟩
   rw[hW]
   clear hW W
   go_wp2_with fail
   refine(U1.out _ hB1).mono ?_
   rintro e v2 ⟨rfl,hb2⟩
   have hB2:Below w.heap.size w v2:=hB1.trans (hb2.mono hB1.size)
   have hx2:Below (w.alloc (Obj.cells #[.int .i64 0,.int .i64 0,.string ⟨#[]⟩,.string ⟨#[]⟩,.int .i64 0,.slice none 0 0,.int .i64 0] 28)).heap.size (w.alloc (Obj.cells #[.int .i64 0,.int .i64 0,.string ⟨#[]⟩,.string ⟨#[]⟩,.int .i64 0,.slice none 0 0,.int .i64 0] 28)) v2:=hb1.trans (hb2.mono hb1.size)
   go_wp2_with fail
   refine(A2.out _ hB2).mono ?_
   rintro e W ⟨rfl,hW⟩
   rw[hW]
   clear hW W
   have hB3:Below w.heap.size w (v2.alloc (Obj.cells #[.int .i64 4,.int .i64 N1,.string T2,.string ⟨#[]⟩,.int .i64 0,.slice none 0 0,.int .i64 0] 28)):=hB2.alloc hB2.size _
   go_wp2_with fail
   refine(R0.out _ hB3).mono ?_
   rintro e W ⟨rfl,hW⟩
   rw[hW]
   clear hW W
   go_wp2_with fail
   refine(U3.out _ hB3).mono ?_
   rintro e v4 ⟨rfl,hb4⟩
   have hB4:Below w.heap.size w v4:=hB3.trans (hb4.mono hB3.size)
   obtain⟨o0,o1,o2,o3,o4,o5,o6,p0,p1,p2,p3,p4,p5,p6,hz4⟩:=keep7 hb4
   have hx4:Below (w.alloc (Obj.cells #[.int .i64 0,.int .i64 0,.string ⟨#[]⟩,.string ⟨#[]⟩,.int .i64 0,.slice none 0 0,.int .i64 0] 28)).heap.size (w.alloc (Obj.cells #[.int .i64 0,.int .i64 0,.string ⟨#[]⟩,.string ⟨#[]⟩,.int .i64 0,.slice none 0 0,.int .i64 0] 28)) v4:=(hx2.alloc hx2.size _).trans (hb4.mono (hx2.alloc hx2.size _).size)
   obtain⟨z0,z1,z2,z3,z4,z5,z6,y0,y1,y2,y3,y4,y5,y6,hzw⟩:=keep7 hx4
   have HBF:=hide hB4
   have H2S:=hide hB2.size
   have HB2:=hide hB2
   have hne:¬w.heap.size=v2.heap.size:=by have:=hx2.size;simp at this;omega
   have hne2:¬v2.heap.size=w.heap.size:=fun h=>hne h.symm
   clear hB4 hb4 hx4 hx2 hB3 hB2 hb2 hB1 hb1 hlt
   go_wp2_with fail
   refine bodyPost_ret (v:=.agg #[.int .i64 4,.int .i64 N1,.string T2,.string ⟨#[]⟩,.int .i64 0,.slice none 0 0,.int .i64 N3]) (loose_results rfl (set7 (fun i hi=>?_) _ _ _ _ _ _ _ _ _)) rfl ⟨.slice none 0 0,rfl,?_,?_⟩
   ·match i,hi with
    | 0,_=>exact⟨_,(by simp only[sc_far hne2];exact z0)⟩
    | 1,_=>exact⟨_,(by simp only[sc_far hne2];exact z1)⟩
    | 2,_=>exact⟨_,(by simp only[sc_far hne2];exact z2)⟩
    | 3,_=>exact⟨_,(by simp only[sc_far hne2];exact z3)⟩
    | 4,_=>exact⟨_,(by simp only[sc_far hne2];exact z4)⟩
    | 5,_=>exact⟨_,(by simp only[sc_far hne2];exact z5)⟩
    | 6,_=>exact⟨_,(by simp only[sc_far hne2];exact z6)⟩
   ·exact⟨[],⟨by simp,.inl ⟨none,0,rfl,rfl,rfl⟩⟩,by simp,by simp⟩
   ·exact(by(iterate 8 refine Below.setCell ?_ (by dsimp only;first|exact leR _|exact H2S.out) _);exact HBF.out)
  have kb4:(N0 == 4)=false:=by simpa using k4
  have kb:True:=trivial
  have HX:Hid (looseI ps=⟨N0,N1,T2,⟨#[]⟩,0,[],0⟩):=by show _=_;rw[HLI.out];simp[k1,k2,k4]
  rw[HX.out]
  go_enter Tryz.func33,Tryz.ntmps33
  go_wp2_with fail
  refine(A0.out _ b0).mono ?_
  rintro e W ⟨rfl,hW⟩
  rw[hW]
  clear hW W
  go_wp2_with fail
  refine(U0.out _ b0).mono ?_
  rintro e v1 ⟨rfl,hb1⟩
  have hB1:Below w.heap.size w v1:=b0.trans (hb1.mono b0.size)
  go_wp2_with fail
  refine(A1.out _ hB1).mono ?_
  rintro e W ⟨rfl,hW⟩
  rw[hW]
  clear hW W
  go_wp2_with fail
  refine(U1.out _ hB1).mono ?_
  rintro e v2 ⟨rfl,hb2⟩
  have hB2:Below w.heap.size w v2:=hB1.trans (hb2.mono hB1.size)
  have hx2:Below (w.alloc (Obj.cells #[.int .i64 0,.int .i64 0,.string ⟨#[]⟩,.string ⟨#[]⟩,.int .i64 0,.slice none 0 0,.int .i64 0] 28)).heap.size (w.alloc (Obj.cells #[.int .i64 0,.int .i64 0,.string ⟨#[]⟩,.string ⟨#[]⟩,.int .i64 0,.slice none 0 0,.int .i64 0] 28)) v2:=hb1.trans (hb2.mono hb1.size)
  go_wp2_with fail
  refine(A2.out _ hB2).mono ?_
  rintro e W ⟨rfl,hW⟩
  rw[hW]
  clear hW W
  have hB3:Below w.heap.size w (v2.alloc (Obj.cells #[.int .i64 N0,.int .i64 N1,.string T2,.string ⟨#[]⟩,.int .i64 0,.slice none 0 0,.int .i64 0] 28)):=hB2.alloc hB2.size _
  obtain⟨z0,z1,z2,z3,z4,z5,z6,y0,y1,y2,y3,y4,y5,y6,hzw⟩:=keep7 hx2
  have HBF:=hide hB3
  have H2S:=hide hB2.size
  have HB2:=hide hB2
  have hne:¬w.heap.size=v2.heap.size:=by have:=hx2.size;simp at this;omega
  have hne2:¬v2.heap.size=w.heap.size:=fun h=>hne h.symm
  clear  hx2 hB3 hB2 hb2 hB1 hb1 hlt
  go_wp2_with fail
  refine bodyPost_ret (v:=.agg #[.int .i64 N0,.int .i64 N1,.string T2,.string ⟨#[]⟩,.int .i64 0,.slice none 0 0,.int .i64 0]) (loose_results rfl (set7a (fun i hi=>?_) hzw _ _ _ _ _ _ _ _ _)) rfl ⟨.slice none 0 0,rfl,?_,?_⟩
  ·match i,hi with
   | 0,_=>exact⟨_,z0⟩
   | 1,_=>exact⟨_,z1⟩
   | 2,_=>exact⟨_,z2⟩
   | 3,_=>exact⟨_,z3⟩
   | 4,_=>exact⟨_,z4⟩
   | 5,_=>exact⟨_,z5⟩
   | 6,_=>exact⟨_,z6⟩
  ·exact⟨[],⟨by simp,.inl ⟨none,0,rfl,rfl,rfl⟩⟩,by simp,by simp⟩
  ·exact(by refine Below.alloc ?_ (by simp only[Deep.nblk_setCell];exact H2S.out) _;(iterate 7 refine Below.setCell ?_ (by dsimp only;exact leR _) _);exact HB2.out)
 have m1:¬(3:Int)<(ps.length:Int):=by omega
 have m2:(ps.length:Int)≤(3:Int):=by omega
 have m6:min (3:Int) (ps.length:Int)=(ps.length:Int):=by omega
 have m7:(ps.length:Int)≤(cap:Int):=by omega
 by_cases hcl:cap=ps.length
 ·subst hcl
  have HR3:=hide (ARE.out (by omega))
  have R0:Hid (∀W,Below w.heap.size w W→Calls Tryz.prog 72 #[.slice (some ⟨g,0,none⟩) 0 0,.int .i64 0] W fun e w'=>e=.returned (.string T3)∧w'=W):=HR3.out.1 _ _
  have R1:Hid (∀W,Below w.heap.size w W→Calls Tryz.prog 72 #[.slice (some ⟨g,0,none⟩) 0 0,.int .i64 1] W fun e w'=>e=.returned (.string T4)∧w'=W):=HR3.out.2.1 _ _
  have RO:Hid (∀W,Below w.heap.size w W→∃bs,OStrs W (.slice (some ⟨g,0,none⟩) 0 0) ((ps.drop 3).map txt) bs∧bs.Nodup∧∀b∈bs,base≤b):=HR3.out.2.2 _ _
  clear HR3
  by_cases k1:N0=1
  ·subst k1
   have HX:Hid (looseI ps=⟨1,N1,T2,T3,N4,[],0⟩):=by show _=_;rw[HLI.out];simp
   rw[HX.out]
   go_enter Tryz.func33,Tryz.ntmps33
   go_wp2_with fail
   refine(A0.out _ b0).mono ?_
   rintro e W ⟨rfl,hW⟩
   rw[hW]
   clear hW W
   go_wp2_with fail
   refine(U0.out _ b0).mono ?_
   rintro e v1 ⟨rfl,hb1⟩
   have hB1:Below w.heap.size w v1:=b0.trans (hb1.mono b0.size)
   go_wp2_with fail
   refine(A1.out _ hB1).mono ?_
   rintro e W ⟨rfl,hW⟩
   rw[hW]
   clear hW W
   go_wp2_with fail
   refine(U1.out _ hB1).mono ?_
   rintro e v2 ⟨rfl,hb2⟩
   have hB2:Below w.heap.size w v2:=hB1.trans (hb2.mono hB1.size)
   have hx2:Below (w.alloc (Obj.cells #[.int .i64 0,.int .i64 0,.string ⟨#[]⟩,.string ⟨#[]⟩,.int .i64 0,.slice none 0 0,.int .i64 0] 28)).heap.size (w.alloc (Obj.cells #[.int .i64 0,.int .i64 0,.string ⟨#[]⟩,.string ⟨#[]⟩,.int .i64 0,.slice none 0 0,.int .i64 0] 28)) v2:=hb1.trans (hb2.mono hb1.size)
   go_wp2_with fail
   refine(A2.out _ hB2).mono ?_
   rintro e W ⟨rfl,hW⟩
   rw[hW]
   clear hW W
   have hB3:Below w.heap.size w (v2.alloc (Obj.cells #[.int .i64 1,.int .i64 N1,.string T2,.string ⟨#[]⟩,.int .i64 0,.slice none 0 0,.int .i64 0] 28)):=hB2.alloc hB2.size _
   go_wp2_with fail
   refine(R0.out _ hB3).mono ?_
   rintro e W ⟨rfl,hW⟩
   rw[hW]
   clear hW W
   go_wp2_with fail
   refine(R1.out _ hB3).mono ?_
   rintro e W ⟨rfl,hW⟩
   rw[hW]
   clear hW W
   go_wp2_with fail
   refine(U4.out _ hB3).mono ?_
   rintro e v4 ⟨rfl,hb4⟩
   have hB4:Below w.heap.size w v4:=hB3.trans (hb4.mono hB3.size)
   obtain⟨o0,o1,o2,o3,o4,o5,o6,p0,p1,p2,p3,p4,p5,p6,hz4⟩:=keep7 hb4
   have hx4:Below (w.alloc (Obj.cells #[.int .i64 0,.int .i64 0,.string ⟨#[]⟩,.string ⟨#[]⟩,.int .i64 0,.slice none 0 0,.int .i64 0] 28)).heap.size (w.alloc (Obj.cells #[.int .i64 0,.int .i64 0,.string ⟨#[]⟩,.string ⟨#[]⟩,.int .i64 0,.slice none 0 0,.int .i64 0] 28)) v4:=(hx2.alloc hx2.size _).trans (hb4.mono (hx2.alloc hx2.size _).size)
   obtain⟨z0,z1,z2,z3,z4,z5,z6,y0,y1,y2,y3,y4,y5,y6,hzw⟩:=keep7 hx4
   have HBF:=hide hB4
   have H2S:=hide hB2.size
   have HB2:=hide hB2
   have hne:¬w.heap.size=v2.heap.size:=by have:=hx2.size;simp at this;omega
   have hne2:¬v2.heap.size=w.heap.size:=fun h=>hne h.symm
   clear hB4 hb4 hx4 hx2 hB3 hB2 hb2 hB1 hb1 hlt
   go_wp2_with fail
   refine bodyPost_ret (v:=.agg #[.int .i64 1,.int .i64 N1,.string T2,.string T3,.int .i64 N4,.slice none 0 0,.int .i64 0]) (loose_results rfl (set7 (fun i hi=>?_) _ _ _ _ _ _ _ _ _)) rfl ⟨.slice none 0 0,rfl,?_,?_⟩
   ·match i,hi with
    | 0,_=>exact⟨_,(by simp only[sc_far hne2];exact z0)⟩
    | 1,_=>exact⟨_,(by simp only[sc_far hne2];exact z1)⟩
    | 2,_=>exact⟨_,(by simp only[sc_far hne2];exact z2)⟩
    | 3,_=>exact⟨_,(by simp only[sc_far hne2];exact z3)⟩
    | 4,_=>exact⟨_,(by simp only[sc_far hne2];exact z4)⟩
    | 5,_=>exact⟨_,(by simp only[sc_far hne2];exact z5)⟩
    | 6,_=>exact⟨_,(by simp only[sc_far hne2];exact z6)⟩
   ·exact⟨[],⟨by simp,.inl ⟨none,0,rfl,rfl,rfl⟩⟩,by simp,by simp⟩
   ·exact(by(iterate 9 refine Below.setCell ?_ (by dsimp only;first|exact leR _|exact H2S.out) _);exact HBF.out)
  have kb1:(N0 == 1)=false:=by simpa using k1
  by_cases k2:N0=2
  ·subst k2
   have HX:Hid (looseI ps=⟨2,N1,T2,⟨#[]⟩,0,(ps.drop 3).map txt,0⟩):=by show _=_;rw[HLI.out];simp
   rw[HX.out]
   go_enter Tryz.func33,Tryz.ntmps33
   go_wp2_with fail
   refine(A0.out _ b0).mono ?_
   rintro e W ⟨rfl,hW⟩
   rw[hW]
   clear hW W
   go_wp2_with fail
   refine(U0.out _ b0).mono ?_
   rintro e v1 ⟨rfl,hb1⟩
   have hB1:Below w.heap.size w v1:=b0.trans (hb1.mono b0.size)
   go_wp2_with fail
   refine(A1.out _ hB1).mono ?_
   rintro e W ⟨rfl,hW⟩
   rw[hW]
   clear hW W
   go_wp2_with fail
   refine(U1.out _ hB1).mono ?_
   rintro e v2 ⟨rfl,hb2⟩
   have hB2:Below w.heap.size w v2:=hB1.trans (hb2.mono hB1.size)
   have hx2:Below (w.alloc (Obj.cells #[.int .i64 0,.int .i64 0,.string ⟨#[]⟩,.string ⟨#[]⟩,.int .i64 0,.slice none 0 0,.int .i64 0] 28)).heap.size (w.alloc (Obj.cells #[.int .i64 0,.int .i64 0,.string ⟨#[]⟩,.string ⟨#[]⟩,.int .i64 0,.slice none 0 0,.int .i64 0] 28)) v2:=hb1.trans (hb2.mono hb1.size)
   go_wp2_with fail
   refine(A2.out _ hB2).mono ?_
   rintro e W ⟨rfl,hW⟩
   rw[hW]
   clear hW W
   have hB3:Below w.heap.size w (v2.alloc (Obj.cells #[.int .i64 2,.int .i64 N1,.string T2,.string ⟨#[]⟩,.int .i64 0,.slice none 0 0,.int .i64 0] 28)):=hB2.alloc hB2.size _
   obtain⟨z0,z1,z2,z3,z4,z5,z6,y0,y1,y2,y3,y4,y5,y6,hzw⟩:=keep7 hx2
   have HBF:=hide hB3
   have H2S:=hide hB2.size
   have HB2:=hide hB2
   have hne:¬w.heap.size=v2.heap.size:=by have:=hx2.size;simp at this;omega
   have hne2:¬v2.heap.size=w.heap.size:=fun h=>hne h.symm
   clear  hx2 hB3 hB2 hb2 hB1 hb1 hlt
   go_wp2_with fail
   refine bodyPost_ret (v:=.agg #[.int .i64 2,.int .i64 N1,.string T2,.string ⟨#[]⟩,.int .i64 0,.slice (some ⟨g,0,none⟩) 0 0,.int .i64 0]) (loose_results rfl (set7a (fun i hi=>?_) hzw _ _ _ _ _ _ _ _ _)) rfl ⟨.slice (some ⟨g,0,none⟩) 0 0,rfl,?_,?_⟩
   ·match i,hi with
    | 0,_=>exact⟨_,z0⟩
    | 1,_=>exact⟨_,z1⟩
    | 2,_=>exact⟨_,z2⟩
    | 3,_=>exact⟨_,z3⟩
    | 4,_=>exact⟨_,z4⟩
    | 5,_=>exact⟨_,z5⟩
    | 6,_=>exact⟨_,z6⟩
   ·exact RO.out _ (by refine Below.alloc ?_ (by simp only[Deep.nblk_setCell];exact H2S.out) _;(iterate 7 refine Below.setCell ?_ (by dsimp only;exact leR _) _);exact HB2.out)
   ·exact(by refine Below.alloc ?_ (by simp only[Deep.nblk_setCell];exact H2S.out) _;(iterate 7 refine Below.setCell ?_ (by dsimp only;exact leR _) _);exact HB2.out)
  have kb2:(N0 == 2)=false:=by simpa using k2
  by_cases k4:N0=4
  ·subst k4
   have HX:Hid (looseI ps=⟨4,N1,T2,⟨#[]⟩,0,[],N3⟩):=by show _=_;rw[HLI.out];simp
   rw[HX.out]
   go_enter Tryz.func33,Tryz.ntmps33
   go_wp2_with fail
   refine(A0.out _ b0).mono ?_
   rintro e W ⟨rfl,hW⟩
   rw[hW]
   clear hW W
   go_wp2_with fail
   refine(U0.out _ b0).mono ?_
   rintro e v1 ⟨rfl,hb1⟩
   have hB1:Below w.heap.size w v1:=b0.trans (hb1.mono b0.size)
   go_wp2_with fail
   refine(A1.out _ hB1).mono ?_
   rintro e W ⟨rfl,hW⟩
   rw[hW]
   clear hW W
   go_wp2_with fail
   refine(U1.out _ hB1).mono ?_
   rintro e v2 ⟨rfl,hb2⟩
   have hB2:Below w.heap.size w v2:=hB1.trans (hb2.mono hB1.size)
   have hx2:Below (w.alloc (Obj.cells #[.int .i64 0,.int .i64 0,.string ⟨#[]⟩,.string ⟨#[]⟩,.int .i64 0,.slice none 0 0,.int .i64 0] 28)).heap.size (w.alloc (Obj.cells #[.int .i64 0,.int .i64 0,.string ⟨#[]⟩,.string ⟨#[]⟩,.int .i64 0,.slice none 0 0,.int .i64 0] 28)) v2:=hb1.trans (hb2.mono hb1.size)
   go_wp2_with fail
   refine(A2.out _ hB2).mono ?_
   rintro e W ⟨rfl,hW⟩
   rw[hW]
   clear hW W
   have hB3:Below w.heap.size w (v2.alloc (Obj.cells #[.int .i64 4,.int .i64 N1,.string T2,.string ⟨#[]⟩,.int .i64 0,.slice none 0 0,.int .i64 0] 28)):=hB2.alloc hB2.size _
   go_wp2_with fail
   refine(R0.out _ hB3).mono ?_
   rintro e W ⟨rfl,hW⟩
   rw[hW]
   clear hW W
   go_wp2_with fail
   refine(U3.out _ hB3).mono ?_
   rintro e v4 ⟨rfl,hb4⟩
   have hB4:Below w.heap.size w v4:=hB3.trans (hb4.mono hB3.size)
   obtain⟨o0,o1,o2,o3,o4,o5,o6,p0,p1,p2,p3,p4,p5,p6,hz4⟩:=keep7 hb4
   have hx4:Below (w.alloc (Obj.cells #[.int .i64 0,.int .i64 0,.string ⟨#[]⟩,.string ⟨#[]⟩,.int .i64 0,.slice none 0 0,.int .i64 0] 28)).heap.size (w.alloc (Obj.cells #[.int .i64 0,.int .i64 0,.string ⟨#[]⟩,.string ⟨#[]⟩,.int .i64 0,.slice none 0 0,.int .i64 0] 28)) v4:=(hx2.alloc hx2.size _).trans (hb4.mono (hx2.alloc hx2.size _).size)
   obtain⟨z0,z1,z2,z3,z4,z5,z6,y0,y1,y2,y3,y4,y5,y6,hzw⟩:=keep7 hx4
   have HBF:=hide hB4
   have H2S:=hide hB2.size
   have HB2:=hide hB2
   have hne:¬w.heap.size=v2.heap.size:=by have:=hx2.size;simp at this;omega
   have hne2:¬v2.heap.size=w.heap.size:=fun h=>hne h.symm
   clear hB4 hb4 hx4 hx2 hB3 hB2 hb2 hB1 hb1 hlt
   go_wp2_with fail
   refine bodyPost_ret (v:=.agg #[.int .i64 4,.int .i64 N1,.string T2,.string ⟨#[]⟩,.int .i64 0,.slice none 0 0,.int .i64 N3]) (loose_results rfl (set7 (fun i hi=>?_) _ _ _ _ _ _ _ _ _)) rfl ⟨.slice none 0 0,rfl,?_,?_⟩
   ·match i,hi with
    | 0,_=>exact⟨_,(by simp only[sc_far hne2];exact z0)⟩
    | 1,_=>exact⟨_,(by simp only[sc_far hne2];exact z1)⟩
    | 2,_=>exact⟨_,(by simp only[sc_far hne2];exact z2)⟩
    | 3,_=>exact⟨_,(by simp only[sc_far hne2];exact z3)⟩
    | 4,_=>exact⟨_,(by simp only[sc_far hne2];exact z4)⟩
    | 5,_=>exact⟨_,(by simp only[sc_far hne2];exact z5)⟩
    | 6,_=>exact⟨_,(by simp only[sc_far hne2];exact z6)⟩
   ·exact⟨[],⟨by simp,.inl ⟨none,0,rfl,rfl,rfl⟩⟩,by simp,by simp⟩
   ·exact(by(iterate 8 refine Below.setCell ?_ (by dsimp only;first|exact leR _|exact H2S.out) _);exact HBF.out)
  have kb4:(N0 == 4)=false:=by simpa using k4
  have kb:True:=trivial
  have HX:Hid (looseI ps=⟨N0,N1,T2,⟨#[]⟩,0,[],0⟩):=by show _=_;rw[HLI.out];simp[k1,k2,k4]
  rw[HX.out]
  go_enter Tryz.func33,Tryz.ntmps33
  go_wp2_with fail
  refine(A0.out _ b0).mono ?_
  rintro e W ⟨rfl,hW⟩
  rw[hW]
  clear hW W
  go_wp2_with fail
  refine(U0.out _ b0).mono ?_
  rintro e v1 ⟨rfl,hb1⟩
  have hB1:Below w.heap.size w v1:=b0.trans (hb1.mono b0.size)
  go_wp2_with fail
  refine(A1.out _ hB1).mono ?_
  rintro e W ⟨rfl,hW⟩
  rw[hW]
  clear hW W
  go_wp2_with fail
  refine(U1.out _ hB1).mono ?_
  rintro e v2 ⟨rfl,hb2⟩
  have hB2:Below w.heap.size w v2:=hB1.trans (hb2.mono hB1.size)
  have hx2:Below (w.alloc (Obj.cells #[.int .i64 0,.int .i64 0,.string ⟨#[]⟩,.string ⟨#[]⟩,.int .i64 0,.slice none 0 0,.int .i64 0] 28)).heap.size (w.alloc (Obj.cells #[.int .i64 0,.int .i64 0,.string ⟨#[]⟩,.string ⟨#[]⟩,.int .i64 0,.slice none 0 0,.int .i64 0] 28)) v2:=hb1.trans (hb2.mono hb1.size)
  go_wp2_with fail
  refine(A2.out _ hB2).mono ?_
  rintro e W ⟨rfl,hW⟩
  rw[hW]
  clear hW W
  have hB3:Below w.heap.size w (v2.alloc (Obj.cells #[.int .i64 N0,.int .i64 N1,.string T2,.string ⟨#[]⟩,.int .i64 0,.slice none 0 0,.int .i64 0] 28)):=hB2.alloc hB2.size _
  obtain⟨z0,z1,z2,z3,z4,z5,z6,y0,y1,y2,y3,y4,y5,y6,hzw⟩:=keep7 hx2
  have HBF:=hide hB3
  have H2S:=hide hB2.size
  have HB2:=hide hB2
  have hne:¬w.heap.size=v2.heap.size:=by have:=hx2.size;simp at this;omega
  have hne2:¬v2.heap.size=w.heap.size:=fun h=>hne h.symm
  clear  hx2 hB3 hB2 hb2 hB1 hb1 hlt
  go_wp2_with fail
  refine bodyPost_ret (v:=.agg #[.int .i64 N0,.int .i64 N1,.string T2,.string ⟨#[]⟩,.int .i64 0,.slice none 0 0,.int .i64 0]) (loose_results rfl (set7a (fun i hi=>?_) hzw _ _ _ _ _ _ _ _ _)) rfl ⟨.slice none 0 0,rfl,?_,?_⟩
  ·match i,hi with
   | 0,_=>exact⟨_,z0⟩
   | 1,_=>exact⟨_,z1⟩
   | 2,_=>exact⟨_,z2⟩
   | 3,_=>exact⟨_,z3⟩
   | 4,_=>exact⟨_,z4⟩
   | 5,_=>exact⟨_,z5⟩
   | 6,_=>exact⟨_,z6⟩
  ·exact⟨[],⟨by simp,.inl ⟨none,0,rfl,rfl,rfl⟩⟩,by simp,by simp⟩
  ·exact(by refine Below.alloc ?_ (by simp only[Deep.nblk_setCell];exact H2S.out) _;(iterate 7 refine Below.setCell ?_ (by dsimp only;exact leR _) _);exact HB2.out)
 have HR3:=hide (ARE.out (by omega))
 have R0:Hid (∀W,Below w.heap.size w W→Calls Tryz.prog 72 #[.slice (some ⟨g,ps.length,none⟩) 0 (cap - ps.length),.int .i64 0] W fun e w'=>e=.returned (.string T3)∧w'=W):=HR3.out.1 _ _
 have R1:Hid (∀W,Below w.heap.size w W→Calls Tryz.prog 72 #[.slice (some ⟨g,ps.length,none⟩) 0 (cap - ps.length),.int .i64 1] W fun e w'=>e=.returned (.string T4)∧w'=W):=HR3.out.2.1 _ _
 have RO:Hid (∀W,Below w.heap.size w W→∃bs,OStrs W (.slice (some ⟨g,ps.length,none⟩) 0 (cap - ps.length)) ((ps.drop 3).map txt) bs∧bs.Nodup∧∀b∈bs,base≤b):=HR3.out.2.2 _ _
 clear HR3
 by_cases k1:N0=1
 ·subst k1
  have HX:Hid (looseI ps=⟨1,N1,T2,T3,N4,[],0⟩):=by show _=_;rw[HLI.out];simp
  rw[HX.out]
  go_enter Tryz.func33,Tryz.ntmps33
  go_wp2_with fail
  refine(A0.out _ b0).mono ?_
  rintro e W ⟨rfl,hW⟩
  rw[hW]
  clear hW W
  go_wp2_with fail
  refine(U0.out _ b0).mono ?_
  rintro e v1 ⟨rfl,hb1⟩
  have hB1:Below w.heap.size w v1:=b0.trans (hb1.mono b0.size)
  go_wp2_with fail
  refine(A1.out _ hB1).mono ?_
  rintro e W ⟨rfl,hW⟩
  rw[hW]
  clear hW W
  go_wp2_with fail
  refine(U1.out _ hB1).mono ?_
  rintro e v2 ⟨rfl,hb2⟩
  have hB2:Below w.heap.size w v2:=hB1.trans (hb2.mono hB1.size)
  have hx2:Below (w.alloc (Obj.cells #[.int .i64 0,.int .i64 0,.string ⟨#[]⟩,.string ⟨#[]⟩,.int .i64 0,.slice none 0 0,.int .i64 0] 28)).heap.size (w.alloc (Obj.cells #[.int .i64 0,.int .i64 0,.string ⟨#[]⟩,.string ⟨#[]⟩,.int .i64 0,.slice none 0 0,.int .i64 0] 28)) v2:=hb1.trans (hb2.mono hb1.size)
  go_wp2_with fail
  refine(A2.out _ hB2).mono ?_
  rintro e W ⟨rfl,hW⟩
  rw[hW]
  clear hW W
  have hB3:Below w.heap.size w (v2.alloc (Obj.cells #[.int .i64 1,.int .i64 N1,.string T2,.string ⟨#[]⟩,.int .i64 0,.slice none 0 0,.int .i64 0] 28)):=hB2.alloc hB2.size _
  go_wp2_with fail
  refine(R0.out _ hB3).mono ?_
  rintro e W ⟨rfl,hW⟩
  rw[hW]
  clear hW W
  go_wp2_with fail
  refine(R1.out _ hB3).mono ?_
  rintro e W ⟨rfl,hW⟩
  rw[hW]
  clear hW W
  go_wp2_with fail
  refine(U4.out _ hB3).mono ?_
  rintro e v4 ⟨rfl,hb4⟩
  have hB4:Below w.heap.size w v4:=hB3.trans (hb4.mono hB3.size)
  obtain⟨o0,o1,o2,o3,o4,o5,o6,p0,p1,p2,p3,p4,p5,p6,hz4⟩:=keep7 hb4
  have hx4:Below (w.alloc (Obj.cells #[.int .i64 0,.int .i64 0,.string ⟨#[]⟩,.string ⟨#[]⟩,.int .i64 0,.slice none 0 0,.int .i64 0] 28)).heap.size (w.alloc (Obj.cells #[.int .i64 0,.int .i64 0,.string ⟨#[]⟩,.string ⟨#[]⟩,.int .i64 0,.slice none 0 0,.int .i64 0] 28)) v4:=(hx2.alloc hx2.size _).trans (hb4.mono (hx2.alloc hx2.size _).size)
  obtain⟨z0,z1,z2,z3,z4,z5,z6,y0,y1,y2,y3,y4,y5,y6,hzw⟩:=keep7 hx4
  have HBF:=hide hB4
  have H2S:=hide hB2.size
  have HB2:=hide hB2
  have hne:¬w.heap.size=v2.heap.size:=by have:=hx2.size;simp at this;omega
  have hne2:¬v2.heap.size=w.heap.size:=fun h=>hne h.symm
  clear hB4 hb4 hx4 hx2 hB3 hB2 hb2 hB1 hb1 hlt
  go_wp2_with fail
  refine bodyPost_ret (v:=.agg #[.int .i64 1,.int .i64 N1,.string T2,.string T3,.int .i64 N4,.slice none 0 0,.int .i64 0]) (loose_results rfl (set7 (fun i hi=>?_) _ _ _ _ _ _ _ _ _)) rfl ⟨.slice none 0 0,rfl,?_,?_⟩
  ·match i,hi with
   | 0,_=>exact⟨_,(by simp only[sc_far hne2];exact z0)⟩
   | 1,_=>exact⟨_,(by simp only[sc_far hne2];exact z1)⟩
   | 2,_=>exact⟨_,(by simp only[sc_far hne2];exact z2)⟩
   | 3,_=>exact⟨_,(by simp only[sc_far hne2];exact z3)⟩
   | 4,_=>exact⟨_,(by simp only[sc_far hne2];exact z4)⟩
   | 5,_=>exact⟨_,(by simp only[sc_far hne2];exact z5)⟩
   | 6,_=>exact⟨_,(by simp only[sc_far hne2];exact z6)⟩
  ·exact⟨[],⟨by simp,.inl ⟨none,0,rfl,rfl,rfl⟩⟩,by simp,by simp⟩
  ·exact(by(iterate 9 refine Below.setCell ?_ (by dsimp only;first|exact leR _|exact H2S.out) _);exact HBF.out)
 have kb1:(N0 == 1)=false:=by simpa using k1
 by_cases k2:N0=2
 ·subst k2
  have HX:Hid (looseI ps=⟨2,N1,T2,⟨#[]⟩,0,(ps.drop 3).map txt,0⟩):=by show _=_;rw[HLI.out];simp
  rw[HX.out]
  go_enter Tryz.func33,Tryz.ntmps33
  go_wp2_with fail
  refine(A0.out _ b0).mono ?_
  rintro e W ⟨rfl,hW⟩
  rw[hW]
  clear hW W
  go_wp2_with fail
  refine(U0.out _ b0).mono ?_
  rintro e v1 ⟨rfl,hb1⟩
  have hB1:Below w.heap.size w v1:=b0.trans (hb1.mono b0.size)
  go_wp2_with fail
  refine(A1.out _ hB1).mono ?_
  rintro e W ⟨rfl,hW⟩
  rw[hW]
  clear hW W
  go_wp2_with fail
  refine(U1.out _ hB1).mono ?_
  rintro e v2 ⟨rfl,hb2⟩
  have hB2:Below w.heap.size w v2:=hB1.trans (hb2.mono hB1.size)
  have hx2:Below (w.alloc (Obj.cells #[.int .i64 0,.int .i64 0,.string ⟨#[]⟩,.string ⟨#[]⟩,.int .i64 0,.slice none 0 0,.int .i64 0] 28)).heap.size (w.alloc (Obj.cells #[.int .i64 0,.int .i64 0,.string ⟨#[]⟩,.string ⟨#[]⟩,.int .i64 0,.slice none 0 0,.int .i64 0] 28)) v2:=hb1.trans (hb2.mono hb1.size)
  go_wp2_with fail
  refine(A2.out _ hB2).mono ?_
  rintro e W ⟨rfl,hW⟩
  rw[hW]
  clear hW W
  have hB3:Below w.heap.size w (v2.alloc (Obj.cells #[.int .i64 2,.int .i64 N1,.string T2,.string ⟨#[]⟩,.int .i64 0,.slice none 0 0,.int .i64 0] 28)):=hB2.alloc hB2.size _
  obtain⟨z0,z1,z2,z3,z4,z5,z6,y0,y1,y2,y3,y4,y5,y6,hzw⟩:=keep7 hx2
  have HBF:=hide hB3
  have H2S:=hide hB2.size
  have HB2:=hide hB2
  have hne:¬w.heap.size=v2.heap.size:=by have:=hx2.size;simp at this;omega
  have hne2:¬v2.heap.size=w.heap.size:=fun h=>hne h.symm
  clear  hx2 hB3 hB2 hb2 hB1 hb1 hlt
  go_wp2_with fail
  refine bodyPost_ret (v:=.agg #[.int .i64 2,.int .i64 N1,.string T2,.string ⟨#[]⟩,.int .i64 0,.slice (some ⟨g,ps.length,none⟩) 0 (cap - ps.length),.int .i64 0]) (loose_results rfl (set7a (fun i hi=>?_) hzw _ _ _ _ _ _ _ _ _)) rfl ⟨.slice (some ⟨g,ps.length,none⟩) 0 (cap - ps.length),rfl,?_,?_⟩
  ·match i,hi with
   | 0,_=>exact⟨_,z0⟩
   | 1,_=>exact⟨_,z1⟩
   | 2,_=>exact⟨_,z2⟩
   | 3,_=>exact⟨_,z3⟩
   | 4,_=>exact⟨_,z4⟩
   | 5,_=>exact⟨_,z5⟩
   | 6,_=>exact⟨_,z6⟩
  ·exact RO.out _ (by refine Below.alloc ?_ (by simp only[Deep.nblk_setCell];exact H2S.out) _;(iterate 7 refine Below.setCell ?_ (by dsimp only;exact leR _) _);exact HB2.out)
  ·exact(by refine Below.alloc ?_ (by simp only[Deep.nblk_setCell];exact H2S.out) _;(iterate 7 refine Below.setCell ?_ (by dsimp only;exact leR _) _);exact HB2.out)
 have kb2:(N0 == 2)=false:=by simpa using k2
 by_cases k4:N0=4
 ·subst k4
  have HX:Hid (looseI ps=⟨4,N1,T2,⟨#[]⟩,0,[],N3⟩):=by show _=_;rw[HLI.out];simp
  rw[HX.out]
  go_enter Tryz.func33,Tryz.ntmps33
  go_wp2_with fail
  refine(A0.out _ b0).mono ?_
  rintro e W ⟨rfl,hW⟩
  rw[hW]
  clear hW W
  go_wp2_with fail
  refine(U0.out _ b0).mono ?_
  rintro e v1 ⟨rfl,hb1⟩
  have hB1:Below w.heap.size w v1:=b0.trans (hb1.mono b0.size)
  go_wp2_with fail
  refine(A1.out _ hB1).mono ?_
  rintro e W ⟨rfl,hW⟩
  rw[hW]
  clear hW W
  go_wp2_with fail
  refine(U1.out _ hB1).mono ?_
  rintro e v2 ⟨rfl,hb2⟩
  have hB2:Below w.heap.size w v2:=hB1.trans (hb2.mono hB1.size)
  have hx2:Below (w.alloc (Obj.cells #[.int .i64 0,.int .i64 0,.string ⟨#[]⟩,.string ⟨#[]⟩,.int .i64 0,.slice none 0 0,.int .i64 0] 28)).heap.size (w.alloc (Obj.cells #[.int .i64 0,.int .i64 0,.string ⟨#[]⟩,.string ⟨#[]⟩,.int .i64 0,.slice none 0 0,.int .i64 0] 28)) v2:=hb1.trans (hb2.mono hb1.size)
  go_wp2_with fail
  refine(A2.out _ hB2).mono ?_
  rintro e W ⟨rfl,hW⟩
  rw[hW]
  clear hW W
  have hB3:Below w.heap.size w (v2.alloc (Obj.cells #[.int .i64 4,.int .i64 N1,.string T2,.string ⟨#[]⟩,.int .i64 0,.slice none 0 0,.int .i64 0] 28)):=hB2.alloc hB2.size _
  go_wp2_with fail
  refine(R0.out _ hB3).mono ?_
  rintro e W ⟨rfl,hW⟩
  rw[hW]
  clear hW W
  go_wp2_with fail
  refine(U3.out _ hB3).mono ?_
  rintro e v4 ⟨rfl,hb4⟩
  have hB4:Below w.heap.size w v4:=hB3.trans (hb4.mono hB3.size)
  obtain⟨o0,o1,o2,o3,o4,o5,o6,p0,p1,p2,p3,p4,p5,p6,hz4⟩:=keep7 hb4
  have hx4:Below (w.alloc (Obj.cells #[.int .i64 0,.int .i64 0,.string ⟨#[]⟩,.string ⟨#[]⟩,.int .i64 0,.slice none 0 0,.int .i64 0] 28)).heap.size (w.alloc (Obj.cells #[.int .i64 0,.int .i64 0,.string ⟨#[]⟩,.string ⟨#[]⟩,.int .i64 0,.slice none 0 0,.int .i64 0] 28)) v4:=(hx2.alloc hx2.size _).trans (hb4.mono (hx2.alloc hx2.size _).size)
  obtain⟨z0,z1,z2,z3,z4,z5,z6,y0,y1,y2,y3,y4,y5,y6,hzw⟩:=keep7 hx4
  have HBF:=hide hB4
  have H2S:=hide hB2.size
  have HB2:=hide hB2
  have hne:¬w.heap.size=v2.heap.size:=by have:=hx2.size;simp at this;omega
  have hne2:¬v2.heap.size=w.heap.size:=fun h=>hne h.symm
  clear hB4 hb4 hx4 hx2 hB3 hB2 hb2 hB1 hb1 hlt
  go_wp2_with fail
  refine bodyPost_ret (v:=.agg #[.int .i64 4,.int .i64 N1,.string T2,.string ⟨#[]⟩,.int .i64 0,.slice none 0 0,.int .i64 N3]) (loose_results rfl (set7 (fun i hi=>?_) _ _ _ _ _ _ _ _ _)) rfl ⟨.slice none 0 0,rfl,?_,?_⟩
  ·match i,hi with
   | 0,_=>exact⟨_,(by simp only[sc_far hne2];exact z0)⟩
   | 1,_=>exact⟨_,(by simp only[sc_far hne2];exact z1)⟩
   | 2,_=>exact⟨_,(by simp only[sc_far hne2];exact z2)⟩
   | 3,_=>exact⟨_,(by simp only[sc_far hne2];exact z3)⟩
   | 4,_=>exact⟨_,(by simp only[sc_far hne2];exact z4)⟩
   | 5,_=>exact⟨_,(by simp only[sc_far hne2];exact z5)⟩
   | 6,_=>exact⟨_,(by simp only[sc_far hne2];exact z6)⟩
  ·exact⟨[],⟨by simp,.inl ⟨none,0,rfl,rfl,rfl⟩⟩,by simp,by simp⟩
  ·exact(by(iterate 8 refine Below.setCell ?_ (by dsimp only;first|exact leR _|exact H2S.out) _);exact HBF.out)
 have kb4:(N0 == 4)=false:=by simpa using k4
 have kb:True:=trivial
 have HX:Hid (looseI ps=⟨N0,N1,T2,⟨#[]⟩,0,[],0⟩):=by show _=_;rw[HLI.out];simp[k1,k2,k4]
 rw[HX.out]
 go_enter Tryz.func33,Tryz.ntmps33
 go_wp2_with fail
 refine(A0.out _ b0).mono ?_
 rintro e W ⟨rfl,hW⟩
 rw[hW]
 clear hW W
 go_wp2_with fail
 refine(U0.out _ b0).mono ?_
 rintro e v1 ⟨rfl,hb1⟩
 have hB1:Below w.heap.size w v1:=b0.trans (hb1.mono b0.size)
 go_wp2_with fail
 refine(A1.out _ hB1).mono ?_
 rintro e W ⟨rfl,hW⟩
 rw[hW]
 clear hW W
 go_wp2_with fail
 refine(U1.out _ hB1).mono ?_
 rintro e v2 ⟨rfl,hb2⟩
 have hB2:Below w.heap.size w v2:=hB1.trans (hb2.mono hB1.size)
 have hx2:Below (w.alloc (Obj.cells #[.int .i64 0,.int .i64 0,.string ⟨#[]⟩,.string ⟨#[]⟩,.int .i64 0,.slice none 0 0,.int .i64 0] 28)).heap.size (w.alloc (Obj.cells #[.int .i64 0,.int .i64 0,.string ⟨#[]⟩,.string ⟨#[]⟩,.int .i64 0,.slice none 0 0,.int .i64 0] 28)) v2:=hb1.trans (hb2.mono hb1.size)
 go_wp2_with fail
 refine(A2.out _ hB2).mono ?_
 rintro e W ⟨rfl,hW⟩
 rw[hW]
 clear hW W
 have hB3:Below w.heap.size w (v2.alloc (Obj.cells #[.int .i64 N0,.int .i64 N1,.string T2,.string ⟨#[]⟩,.int .i64 0,.slice none 0 0,.int .i64 0] 28)):=hB2.alloc hB2.size _
 obtain⟨z0,z1,z2,z3,z4,z5,z6,y0,y1,y2,y3,y4,y5,y6,hzw⟩:=keep7 hx2
 have HBF:=hide hB3
 have H2S:=hide hB2.size
 have HB2:=hide hB2
 have hne:¬w.heap.size=v2.heap.size:=by have:=hx2.size;simp at this;omega
 have hne2:¬v2.heap.size=w.heap.size:=fun h=>hne h.symm
 clear  hx2 hB3 hB2 hb2 hB1 hb1 hlt
 go_wp2_with fail
 refine bodyPost_ret (v:=.agg #[.int .i64 N0,.int .i64 N1,.string T2,.string ⟨#[]⟩,.int .i64 0,.slice none 0 0,.int .i64 0]) (loose_results rfl (set7a (fun i hi=>?_) hzw _ _ _ _ _ _ _ _ _)) rfl ⟨.slice none 0 0,rfl,?_,?_⟩
 ·match i,hi with
  | 0,_=>exact⟨_,z0⟩
  | 1,_=>exact⟨_,z1⟩
  | 2,_=>exact⟨_,z2⟩
  | 3,_=>exact⟨_,z3⟩
  | 4,_=>exact⟨_,z4⟩
  | 5,_=>exact⟨_,z5⟩
  | 6,_=>exact⟨_,z6⟩
 ·exact⟨[],⟨by simp,.inl ⟨none,0,rfl,rfl,rfl⟩⟩,by simp,by simp⟩
 ·exact(by refine Below.alloc ?_ (by simp only[Deep.nblk_setCell];exact H2S.out) _;(iterate 7 refine Below.setCell ?_ (by dsimp only;exact leR _) _);exact HB2.out)
end Go.Proofs.YtglcdcekkglmiaaGreatDoor.Msg
