import Derived.Test.YtfdihjnlgdiioaaGreatDoorG10
import Derived.Laws.BytesArg
import Derived.Below
import Derived.BigQuiet
import Derived.Deep.RegionHeld3
import Derived.Lib.ItoaMem
import Derived.Lib.AtoiAllCases
import Derived.Test.YtfdihjnlgdiioaaGreatDoorG1
import Derived.Test.YtfdihjnlgdiioaaGreatDoorG4
namespace Go.Proofs.YtfdihjnlgdiioaaGreatDoor.dB
open Go.ChangeShapes Go.WideShapes Go.ChangeAt Go.RowKit
set_option linter.unusedVariables false
set_option linter.unusedSimpArgs false
def QV (v:Value):Prop:=∃a n c,v=.slice a n c
def KU {α:Type} (A:Nat→World→Value→α→Prop) (lo:Nat) (w:World) (v u:Value) (x:α):Prop :=
 ∃L W,lo≤L∧A L W u x∧W.heap.size≤w.heap.size∧∀b,L≤b→b<W.heap.size→w.heap[b]?=W.heap[b]?∧v.ownBlock≠some b
theorem KU.new {α:Type} {A:Nat→World→Value→α→Prop} {lo L:Nat} {w:World} {v u:Value} {x:α} (h:A L w u x) (hl:lo≤L) (hn:∀b,v.ownBlock=some b→b<L∨w.heap.size≤b):KU A lo w v u x :=
 ⟨L,w,hl,h,aS _,fun b h1 h2=>⟨rfl,fun e=>by rcases hn b e with h|h <;> omega⟩⟩
theorem KU.below {α:Type} {A:Nat→World→Value→α→Prop} {lo:Nat} {w w':World} {v u:Value} {x:α} (h:KU A lo w v u x) (hb:Below w.heap.size w w'):KU A lo w' v u x:=by
 obtain⟨L,W,h1,h2,h3,h4⟩:=h
 exact⟨L,W,h1,h2,Nat.le_trans h3 hb.size,fun b g1 g2=>⟨(hb.block b (by omega)).trans (h4 b g1 g2).1,(h4 b g1 g2).2⟩⟩
theorem KU.app {α:Type} {A:Nat→World→Value→α→Prop} {lo:Nat} {w w':World} {v v' u:Value} {x:α} (h:KU A lo w v u x) (ho:Only v.ownBlock.toList w w') (hv:∀b,v'.ownBlock=some b→v.ownBlock=some b∨w.heap.size≤b):KU A lo w' v' u x:=by
 obtain⟨L,W,h1,h2,h3,h4⟩:=h
 refine⟨L,W,h1,h2,Nat.le_trans h3 ho.size,fun b g1 g2=>⟨(ho.block b (by omega) fun hm=>?_).trans (h4 b g1 g2).1,fun e=>?_⟩⟩
 ·exact(h4 b g1 g2).2 (by simpa using hm)
 ·rcases hv b e with e1|e1
  ·exact(h4 b g1 g2).2 e1
  ·omega
def wI {α β:Type} (A:Nat→World→Value→α→Prop) (val:β→Value) (rel:β→α→Prop) (lo:Nat) (w:World) (v:Value) (ps:List β) (xs:List α):Prop :=
 ps.length=xs.length∧(∀y∈ps,QV (val y))∧∀i (h1:i<ps.length) (h2:i<xs.length),rel ps[i] xs[i]∧KU A lo w v (val ps[i]) xs[i]
section
variable {α β:Type} {A:Nat→World→Value→α→Prop} {val:β→Value} {rel:β→α→Prop} {lo:Nat} {w w':World} {v v':Value} {ps:List β} {xs:List α}
theorem wI.nil (A:Nat→World→Value→α→Prop) (val:β→Value) (rel:β→α→Prop) (lo:Nat) (w:World) (v:Value):wI A val rel lo w v [] []:=⟨rfl,by simp,fun i h=>absurd h (by simp)⟩
theorem wI.below (h:wI A val rel lo w v ps xs) (hb:Below w.heap.size w w'):wI A val rel lo w' v ps xs :=
 ⟨h.1,h.2.1,fun i h1 h2=>⟨(h.2.2 i h1 h2).1,(h.2.2 i h1 h2).2.below hb⟩⟩
theorem wI.app (h:wI A val rel lo w v ps xs) (ho:Only v.ownBlock.toList w w') (hv:∀b,v'.ownBlock=some b→v.ownBlock=some b∨w.heap.size≤b):wI A val rel lo w' v' ps xs :=
 ⟨h.1,h.2.1,fun i h1 h2=>⟨(h.2.2 i h1 h2).1,(h.2.2 i h1 h2).2.app ho hv⟩⟩
theorem wI.snoc (h:wI A val rel lo w v ps xs) {y:β} {x:α} (h1:QV (val y)) (hr:rel y x) (hi:KU A lo w v (val y) x):wI A val rel lo w v (ps++[y]) (xs++[x]):=by
 refine⟨by simp[h.1],fun z hz=>?_,fun i g1 g2=>?_⟩
 ·rcases List.mem_append.1 hz with hz|hz
  ·exact h.2.1 z hz
  ·rw[List.mem_singleton.1 hz];exact h1
 ·by_cases hi1:i<ps.length
  ·have hi2:i<xs.length:=by rw[←h.1];exact hi1
   rw[List.getElem_append_left hi1,List.getElem_append_left hi2]
   exact h.2.2 i hi1 hi2
  ·have e:i=ps.length:=by simp at g1;omega
   subst e
   have e2:ps.length=xs.length:=h.1
   rw[List.getElem_append_right (aS _),List.getElem_append_right (by omega)]
   simp only[e2,Nat.sub_self,List.getElem_cons_zero]
   exact⟨hr,hi⟩
end
theorem II {β:Type} {C:β→List Value} {c bytes:Nat} {t e:TypeId} {z:Value} (ht:Tryz.prog.underlying t=some (.slice e)) (hinfo:(Tryz.prog.info? e).map (fun i=>(i.zero,i.size,i.bytes))=some (some z,c,bytes)) (hz:z.cells.size=c) (hc:0<c)
  {base n:Nat} {w:World} {v:Value} {ps:List β} (h:FB C c e base w v ps) (x:β) (hCx:(C x).length=c) (h1:∀u∈C x,u.oneCell'=true) (hb:base≤w.heap.size) (hn:ps.length=n) (hl:n≤100000) (hby:bytes≤1000) :
  ∃a' c' w',(Builtin.append_ #[t,t] t #[v,.slice (some ⟨w.heap.size,0,none⟩) 1 1]).run Tryz.prog (w.alloc (.cells (C x).toArray e))=.ok (.slice a' (n+1) c') w' ∧
   FB C c e base w' (.slice a' (n+1) c') (ps++[x])∧Only v.ownBlock.toList w w'∧(∀b,(Value.slice a' (n+1) c').ownBlock=some b→v.ownBlock=some b∨w.heap.size≤b):=by
 subst hn
 obtain⟨i0,hi,hz0,hz1,hz2⟩:=info_parts hinfo
 have hbl:(ps.length+1) * bytes≤100001 * 1000:=Nat.mul_le_mul (by omega) hby
 obtain⟨v',w',hr,ho,hg,_,hat⟩:=run_append_own_at (P:=Tryz.prog) (w:=w.alloc (.cells (C x).toArray e)) base t t e i0 z c bytes ht hi hz0 hz1 hz2 hz hc v ps.length (flat C ps) (World.ownsRow.alloc h _) ⟨w.heap.size,0,none⟩ 1 1 (C x) (by rw[hCx];omega) (BA _ _) h1 (by unfold maxLen;omega) (by omega) (by rw[Deep.nblk_alloc];omega)
 have hF:FB C c e base w' v' (ps++[x]):=by
  unfold FB
  rw[List.length_append,List.length_singleton,Et]
  exact ho
 obtain⟨a8,c8,e8,_,_⟩:=hF.form
 rw[List.length_append,List.length_singleton] at e8
 subst e8
 refine⟨a8,c8,w',hr,hF,?_,fun b hb=>?_⟩
 ·refine(Only.of_below ((Below.refl w.heap.size w).alloc (aS _) _)).trans ⟨hg.os,hg.tape,hg.output,hg.size,fun k hk hn=>hg.block k hk fun e1=>hn ?_⟩
  rw[←e1]
  simp
 ·rcases hat with hat|hat
  ·exact .inl (by rw[←hat];exact hb)
  ·refine .inr ?_
   rw[hat] at hb
   injection hb with hb
   rw[Deep.nblk_alloc] at hb
   omega
def QW (x:ByteArray × Value):List Value:=[.string x.1,x.2]
def aef (x:ByteArray × Value) (s:Seg):Prop:=x.1=s.name∧s.name.size≤9223372036854775807
def Vd (L:Nat) (W:World) (u:Value) (s:Seg):Prop:=aG L W u s.fields
abbrev AO:=wI (α:=Seg) (β:=ByteArray × Value) Vd (fun x=>x.2) aef
theorem Ve {base lo:Nat} {w:World} {v:Value} {ps:List (ByteArray × Value)} {xs:List Seg} (h:FB QW 2 54 base w v ps) (hp:AO lo w v ps xs) (hl:lo≤base) (hz:ps.length≤9223372036854775807):aX lo w v xs:=by
 obtain⟨h0,hA⟩:=FB.at (C:=QW) (c:=2) (Z:=fun _=>True) (fun _=>rfl) h hz (fun _ _=>trivial)
 refine⟨by rw[←hp.1];exact h0,?_⟩
 rcases hA with⟨a,cap,e,rfl⟩|⟨b,off,cap,e,hbb,hA⟩
 ·exact .inl ⟨a,cap,e,List.eq_nil_of_length_eq_zero (by rw[←hp.1];rfl)⟩
 ·refine .inr ⟨b,off,cap,by rw[←hp.1];exact e,⟨by omega,hbb.2⟩,fun i hi=>?_⟩
  have hi1:i<ps.length:=by rw[hp.1];exact hi
  obtain⟨⟨q1,q2⟩,L,W,g1,g2,g3,g4⟩:=hp.2.2 i hi1 hi
  have c0:=(hA i hi1).1 0 (by simp[QW])
  have c1:=(hA i hi1).1 1 (by simp[QW])
  refine⟨?_,q2,ps[i].2,by simpa [QW] using c1,At.mono wB (At.same aP g2 ⟨g3,fun d h1 h2=>(g4 d h1 h2).1⟩) g1⟩
  rw[←q1]
  simpa [QW] using c0
theorem QX:(Tryz.prog.info? 54).map (fun i=>(i.zero,i.size,i.bytes))=some (some (.agg #[.string ByteArray.empty,.slice none 0 0]),2,40):=by kernel_rfl
theorem QY {base n lo:Nat} {w:World} {v:Value} {ps:List (ByteArray × Value)} {xs:List Seg} (h:FB QW 2 54 base w v ps) (hp:AO lo w v ps xs) (s:Seg) (u:Value) (hs:s.name.size≤9223372036854775807) (hu:KU Vd lo w v u s) (h1:QV u) (hb:base≤w.heap.size) (hn:ps.length=n) (hl:n≤100000) :
  ∃a' c' w',(Builtin.append_ #[26,26] 26 #[v,.slice (some ⟨w.heap.size,0,none⟩) 1 1]).run Tryz.prog (w.alloc (.cells #[.string s.name,u] 54))=.ok (.slice a' (n+1) c') w' ∧
   FB QW 2 54 base w' (.slice a' (n+1) c') (ps++[(s.name,u)])∧AO lo w' (.slice a' (n+1) c') (ps++[(s.name,u)]) (xs++[s])∧Only v.ownBlock.toList w w':=by
 obtain⟨a',c',w',hr,hF,ho,hv⟩:=II (C:=QW) (c:=2) (bytes:=40) (e:=54) Tryz.underlying26 QX rfl (by decide) h (s.name,u) rfl (fun z hz=>by
  obtain⟨a,m,c,e⟩:=h1
  have hz':z=.string s.name∨z=u:=by simpa [QW] using hz
  rcases hz' with rfl|rfl
  ·rfl
  ·rw[e];rfl) hb hn hl (by decide)
 exact⟨a',c',w',hr,hF,(hp.snoc (y:=(s.name,u)) h1 ⟨rfl,hs⟩ hu).app ho hv,ho⟩
end Go.Proofs.YtfdihjnlgdiioaaGreatDoor.dB
namespace Go.Proofs.YtfdihjnlgdiioaaGreatDoor.Frame
open Go.ChangeShapes Go.WideShapes Go.ChangeAt Go.RowKit
theorem QZ (l:List UInt8) (c:UInt8) (h:hasB l (c.toNat:Int)=false):Lib.indexByte l c = -1:=by
 induction l with
 | nil=>rfl
 | cons b l ih =>
  simp only[hasB,List.any_cons,Bool.or_eq_false_iff] at h
  have hb:(b == c)=false:=by
   rw[beq_eq_false_iff_ne]
   intro e
   subst e
   simp at h
  unfold Lib.indexByte
  rw[hb,ih h.2]
  rfl
theorem bF {a b:ByteArray} (h:a=b):Ending.returned (.string a)=.returned (.string b):=by rw[h]
set_option maxRecDepth 100000 in
set_option maxHeartbeats 400000 in
theorem tV (n:Int) (w:World) (h0:0≤n) (h1:n≤255) :
  Calls Tryz.prog 78 #[.int .i64 n] w fun e w'=>e=.returned (.string ⟨#[UInt8.ofNat n.toNat]⟩)∧Below w.heap.size w w':=by
 have hr:=run_convert_bytes_arg (P:=Tryz.prog) (w.alloc (Obj.cells #[Value.int IntKind.u8 n] 5)) 22 5 Tryz.underlying22 Tryz.underlying5 w.heap.size 0 1 1 [n] rfl
  (by intro i hi;obtain rfl:i=0:=by omega
      simp) 9 Tryz.underlying9
 go_enter Tryz.func78,Tryz.ntmps78
 go_wp2
 go_ret
 exact⟨rfl,(Below.refl _ _).alloc (Nat.le_refl _) _⟩
end Go.Proofs.YtfdihjnlgdiioaaGreatDoor.Frame
namespace Go.Proofs.YtfdihjnlgdiioaaGreatDoor.dB
open Go.ChangeShapes Go.WideShapes Go.ChangeAt Go.RowKit
set_option linter.unusedVariables false
set_option linter.unusedSimpArgs false
def EM (_:Nat) (w:World) (b off:Nat) (x:UInt8):Prop:=w.cell? ⟨b,off,none⟩=some (.int .u8 (x.toNat:Int))
def iU:Nat→World→Value→List UInt8→Prop:=At 1 EM
theorem bJ:Kept EM:=fun lo w w' b off x h h1 h2 hb=>by unfold EM at *;rw[hb.cell h1 h2];exact h
theorem fO {lo:Nat} {w:World} {v:Value} {xs:List UInt8} (h:iU lo w v xs):∃a cap,v=.slice a xs.length cap∧∀i,i<xs.length→∃b off,a=some ⟨b,off,none⟩∧b<w.heap.size∧w.cell? ⟨b,off+i,none⟩=some (.int .u8 ((xs.getD i 0).toNat:Int)):=by
 obtain⟨hl,h⟩:=h
 rcases h with⟨a,cap,rfl,rfl⟩|⟨b,off,cap,rfl,hlt,h⟩
 ·exact⟨a,cap,rfl,fun i hi=>absurd hi (by simp)⟩
 ·exact⟨_,cap,rfl,fun i hi=>⟨b,off,rfl,hlt.2,by have:=h i hi;unfold EM at this;rw[List.getD_eq_getElem?_getD,List.getElem?_eq_getElem hi];simpa using this⟩⟩
theorem FY (a b:Nat) (ha:a<1099511627776) (hb:b<1099511627776):bits .xor .i64 (a:Int) (b:Int)=((a ^^^ b:Nat):Int):=by
 have hx:a ^^^ b<2 ^ 40:=Nat.xor_lt_two_pow (by omega) (by omega)
 have h1:(BitVec.ofInt 64 (a:Int)).toNat=a:=by
  rw[BitVec.ofInt_natCast,BitVec.toNat_ofNat];exact Nat.mod_eq_of_lt (by omega)
 have h2:(BitVec.ofInt 64 (b:Int)).toNat=b:=by
  rw[BitVec.ofInt_natCast,BitVec.toNat_ofNat];exact Nat.mod_eq_of_lt (by omega)
 show IntKind.i64.wrap ((BitVec.ofInt 64 (a:Int) ^^^ BitVec.ofInt 64 (b:Int)).toNat:Int)=_
 rw[BitVec.toNat_xor,h1,h2,IntKind.wrap_i64]
 omega
def tkX (cs:List UInt8) (p:Nat):Nat:=(cs.getD (p % cs.length) 0).toNat * 131+(cs.getD ((p * 7+3) % cs.length) 0).toNat * 1117+p * 29+p / cs.length * 53
def tk (cs:List UInt8) (p n:Nat):Nat :=
 if n<1∨cs.length=0 then 0 else if p<cs.length∧n≤256 then (cs.getD p 0).toNat % n else (tkX cs p ^^^ (tkX cs p / 64)) % n
theorem jK (cs:List UInt8) (p n:Nat) (h:1≤n):tk cs p n<n:=by
 unfold tk
 split
 ·omega
 ·split <;> exact Nat.mod_lt _ (by omega)
theorem su (cs:List UInt8) (p n m:Nat) (h:n≤m+1):tk cs p n≤m:=by
 by_cases h1:1≤n
 ·have:=jK cs p n h1;omega
 ·unfold tk;rw[if_pos (.inl (by omega))];exact eH _
set_option maxRecDepth 100000 in
set_option maxHeartbeats 4000000 in
theorem fJ (cs:List UInt8) (v:Value) (p n:Nat) (w:World) {lo:Nat} (hv:iU lo w v cs) (hl:cs.length≤1048576) (hp:p≤4194304) (hn:n≤1048576) :
  Calls Tryz.prog 41 #[v,.int .i64 (p:Int),.int .i64 (n:Int)] w fun e w'=>e=.returned (.tuple #[.int .i64 ((tk cs p n:Nat):Int),.int .i64 ((p+1:Nat):Int)])∧w'=w:=by
 obtain⟨a,cap,rfl,hc⟩:=fO hv
 have HC:=hide hc
 clear hv hc
 obtain⟨t,ht⟩:∃t,tk cs p n=t:=⟨_,rfl⟩
 have HT:=hide ht
 rw[ht]
 clear ht
 obtain⟨L,hL⟩:∃L,cs.length=L:=⟨_,rfl⟩
 have HL:=hide hL
 rw[hL] at hl ⊢
 clear hL
 have e1:((p+1:Nat):Int)=(p:Int)+1:=by omega
 rw[e1]
 by_cases h1:(n:Int)<1
 ·have HX:Hid (t=0):=by rw[←HT.out];unfold tk;exact if_pos (.inl (by omega))
  rw[HX.out]
  go_enter Tryz.func41,Tryz.ntmps41
  go_wp2_with fail
  go_ret2
  exact⟨rfl,rfl⟩
 ·by_cases h0:L=0
  ·have HX:Hid (t=0):=by rw[←HT.out];unfold tk;exact if_pos (.inr (by rw[HL.out];exact h0))
   rw[HX.out]
   subst h0
   go_enter Tryz.func41,Tryz.ntmps41
   go_wp2_with fail
   go_ret2
   exact⟨rfl,rfl⟩
  ·have h0i:¬(L:Int)=0:=by omega
   have h0b:((L:Int) == 0)=false:=by simpa using h0i
   have hn0:¬(n:Int)=0:=by omega
   have agz:((n:Int) == 0)=false:=by simpa using hn0
   have hcond:¬(n<1∨cs.length=0):=by rw[HL.out];omega
   by_cases h2:p<L∧n≤256
   ·obtain⟨h2a,h2b⟩:=h2
    have agA:(p:Int)<(L:Int):=by omega
    have agB:(n:Int)≤256:=by omega
    obtain⟨b,off,rfl,hb,hcell⟩:=HC.out p (by rw[HL.out];exact h2a)
    obtain⟨c,hcc⟩:∃c:Nat,(cs.getD p 0).toNat=c:=⟨_,rfl⟩
    have hc6:c≤255:=by have:=(cs.getD p 0).toNat_lt;omega
    have HX:Hid (t=c % n):=by rw[←HT.out];unfold tk;rw[if_neg hcond,if_pos ⟨by rw[HL.out];exact h2a,h2b⟩,hcc];exact rfl
    rw[hcc] at hcell
    have h4:(0:Int)≤(c:Int):=by omega
    have h5:(c:Int)≤255:=by omega
    have h6:(c:Int).tmod (n:Int)=(t:Int):=by rw[Int.tmod_eq_emod_of_nonneg (by omega),HX.out];omega
    have h6b:(c:Int) % (n:Int)=(t:Int):=by rw[HX.out];omega
    clear hcc hcond h0
    go_enter Tryz.func41,Tryz.ntmps41
    go_wp2_with fail
    go_ret2
    exact⟨rfl,rfl⟩
   ·have hq1:p % L<L:=Nat.mod_lt _ (by omega)
    have hq2:(p * 7+3) % L<L:=Nat.mod_lt _ (by omega)
    obtain⟨b,off,rfl,hb,hcell⟩:=HC.out (p % L) (by rw[HL.out];exact hq1)
    obtain⟨b2,off2,e2,hb2,hcell2⟩:=HC.out ((p * 7+3) % L) (by rw[HL.out];exact hq2)
    injection e2 with e2
    injection e2 with e2 e3
    subst e2 e3
    obtain⟨c,hcc⟩:∃c:Nat,(cs.getD (p % L) 0).toNat=c:=⟨_,rfl⟩
    have hc6:c≤255:=by have:=(cs.getD (p % L) 0).toNat_lt;omega
    obtain⟨c2,YH⟩:∃c:Nat,(cs.getD ((p * 7+3) % L) 0).toNat=c:=⟨_,rfl⟩
    have Q0:c2≤255:=by have:=(cs.getD ((p * 7+3) % L) 0).toNat_lt;omega
    obtain⟨q,hq⟩:∃q,p % L=q:=⟨_,rfl⟩
    obtain⟨q2,Vf⟩:∃q,(p * 7+3) % L=q:=⟨_,rfl⟩
    obtain⟨y,hy⟩:∃y,p / L=y:=⟨_,rfl⟩
    have hyl:y≤p:=by rw[←hy];exact Nat.div_le_self _ _
    obtain⟨x,hx⟩:∃x,c * 131+c2 * 1117+p * 29+y * 53=x:=⟨_,rfl⟩
    have hX:tkX cs p=x:=by unfold tkX;rw[HL.out,hcc,YH,hy,hx]
    have HX:Hid (t=(x ^^^ (x / 64)) % n):=by rw[←HT.out];unfold tk;rw[if_neg hcond,if_neg (by rw[HL.out];exact h2),hX];exact rfl
    rw[hcc,hq] at hcell
    rw[YH,Vf] at hcell2
    rw[hq] at hq1
    rw[Vf] at hq2
    have m1:(p:Int).tmod (L:Int)=(q:Int):=by rw[Int.tmod_eq_emod_of_nonneg (by omega),←hq];omega
    have m1b:(p:Int) % (L:Int)=(q:Int):=by rw[←hq];omega
    have m2b:((p:Int) * 7+3) % (L:Int)=(q2:Int):=by
     have e7:(p:Int) * 7+3=((p * 7+3:Nat):Int):=by omega
     rw[e7,←Vf]
     exact(Int.natCast_emod _ _).symm
    have m2:((p:Int) * 7+3).tmod (L:Int)=(q2:Int):=by rw[Int.tmod_eq_emod_of_nonneg (by omega)];exact m2b
    have m3:(p:Int).tdiv (L:Int)=(y:Int):=by rw[Int.tdiv_eq_ediv_of_nonneg (by omega),←hy];omega
    have m3b:(p:Int) / (L:Int)=(y:Int):=by rw[←hy];omega
    have hxl:x<1099511627776:=by omega
    have m4:(c:Int) * 131+(c2:Int) * 1117+(p:Int) * 29+(y:Int) * 53=(x:Int):=by omega
    obtain⟨y2,hy2⟩:∃y,x / 64=y:=⟨_,rfl⟩
    rw[hy2] at HX
    have m5:(x:Int).tdiv 64=(y2:Int):=by rw[Int.tdiv_eq_ediv_of_nonneg (by omega)];omega
    have m5b:(x:Int) / 64=(y2:Int):=by omega
    obtain⟨z,hz⟩:∃z,x ^^^ y2=z:=⟨_,rfl⟩
    have m6:bits .xor .i64 (x:Int) (y2:Int)=(z:Int):=by rw[FY _ _ hxl (by omega),hz]
    have hzl:z<1099511627776:=by rw[←hz];exact Nat.xor_lt_two_pow (n:=40) (by omega) (by omega)
    rw[hz] at HX
    have m7:(z:Int).tmod (n:Int)=(t:Int):=by rw[Int.tmod_eq_emod_of_nonneg (by omega),HX.out];omega
    have m7b:(z:Int) % (n:Int)=(t:Int):=by rw[HX.out];omega
    have g1:(q:Int)<(L:Int):=by omega
    have g2:(q2:Int)<(L:Int):=by omega
    have h4:(0:Int)≤(c:Int):=by omega
    have h5:(c:Int)≤255:=by omega
    have h4':(0:Int)≤(c2:Int):=by omega
    have h5':(c2:Int)≤255:=by omega
    have b1:¬((p:Int)<(L:Int)∧(n:Int)≤256):=by omega
    clear hcc YH hq Vf hy hx hX hz hcond h0 HX hy2
    go_enter Tryz.func41,Tryz.ntmps41
    by_cases hpl:(p:Int)<(L:Int)
    ·have hn2:¬(n:Int)≤256:=by omega
     go_wp2_with fail
     go_ret2
     exact⟨rfl,rfl⟩
    ·go_wp2_with fail
     go_ret2
     exact⟨rfl,rfl⟩
def oN (b:ByteArray):Bool:=b.size == 0
def gX (r:lW):lW:=ay oN r
def gQ (f:Field):Field:=ay List.isEmpty (f.map gX)
def trimF (fs:List Field):List Field:=ay List.isEmpty (fs.map gQ)
def jS {α:Type} (O:World→Value→α→List Nat→Prop) (P:Nat→Prop) (e:TypeId) (base:Nat) (w:World) (v:Value) (xs:List α):Prop :=
 ∃(vs:List Value) (bss:List (List Nat)),vs.length=xs.length∧bss.length=xs.length∧w.ownsRow base e 1 v xs.length vs ∧
  ∀i (h:i<xs.length) (h1:i<vs.length) (h2:i<bss.length),O w vs[i] xs[i] bss[i]∧∀b∈bss[i],P b∧b<w.heap.size∧v.ownBlock≠some b
theorem jS.empty {α:Type} (O:World→Value→α→List Nat→Prop) (P:Nat→Prop) (e:TypeId) (base:Nat) (w:World) (hb:base≤w.heap.size):jS O P e base (w.alloc (.cells #[] e)) (.slice (some ⟨w.heap.size,0,none⟩) 0 0) [] :=
 ⟨[],[],rfl,rfl,World.ownsRow_lit (base:=base) (e:=e) (size:=1) w #[] 0 hb (by unfold maxLen;omega) rfl,fun i h=>absurd h (by simp)⟩
theorem jS.push {α:Type} {O:World→Value→α→List Nat→Prop} (hkeep:∀w w' v x bs,O w v x bs→w.heap.size≤w'.heap.size→(∀d∈bs,w'.heap[d]?=w.heap[d]?)→O w' v x bs)
  (Qk:∀w v x bs,O w v x bs→∀d∈bs,d<w.heap.size) {P:Nat→Prop} {e:TypeId} {base:Nat} {w w3 w4:World} {v v' u:Value} {xs:List α} {x:α} {bs:List Nat} {vs:List Value} {bss:List (List Nat)}
  (h1:vs.length=xs.length) (h2:bss.length=xs.length) (h3:w.ownsRow base e 1 v xs.length vs)
  (h5:∀i (h:i<xs.length) (h1:i<vs.length) (h2:i<bss.length),O w vs[i] xs[i] bss[i]∧∀b∈bss[i],P b∧b<w.heap.size∧v.ownBlock≠some b)
  (hb:Below w.heap.size w w3) (hu:O w3 u x bs) (hf:∀b∈bs,P b∧v.ownBlock≠some b)
  {n:Nat} (hn:n=xs.length) (ho:w4.ownsRow base e 1 v' (n+1) (vs++[u])) (hg:w3.grownBy w4 v.ownBlock) (hat:v'.ownBlock=v.ownBlock∨v'.ownBlock=some w3.heap.size) :
  jS O P e base w4 v' (xs++[x]):=by
 subst hn
 have hown:∀b,v.ownBlock=some b→b<w.heap.size:=fun b hb'=>(oH h3 hb').2
 have hold:∀b,b<w.heap.size→v.ownBlock≠some b→w4.heap[b]?=w.heap[b]?:=fun b hb1 hb2=>(hg.block b (Nat.lt_of_lt_of_le hb1 hb.size) (fun e=>hb2 e.symm)).trans (hb.block b hb1)
 have Ae:=hg.size
 refine⟨vs++[u],bss++[bs],by simp[h1],by simp[h2],by simpa using ho,fun i hi g1 g2=>?_⟩
 by_cases hlt:i<xs.length
 ·obtain⟨k1,k2⟩:=h5 i hlt (by omega) (by omega)
  have a1:(vs++[u])[i]=vs[i]'(by omega):=List.getElem_append_left (by omega)
  have a2:(bss++[bs])[i]=bss[i]'(by omega):=List.getElem_append_left (by omega)
  have a3:(xs++[x])[i]=xs[i]:=List.getElem_append_left hlt
  rw[a1,a2,a3]
  refine⟨hkeep _ _ _ _ _ k1 (Nat.le_trans hb.size Ae) fun d hd=>hold d (k2 d hd).2.1 (k2 d hd).2.2,fun b hb'=>⟨(k2 b hb').1,by have:=(k2 b hb').2.1;have:=hb.size;omega,?_⟩⟩
  rcases hat with hat|hat
  ·rw[hat];exact(k2 b hb').2.2
  ·rw[hat];intro e;injection e with e;have:=(k2 b hb').2.1;have:=hb.size;omega
 ·have e1:i=xs.length:=by simp at hi;omega
  subst e1
  have e2:(vs++[u])[xs.length]=u:=by rw[List.getElem_append_right (by omega)];simp[h1]
  have e3:(bss++[bs])[xs.length]=bs:=by rw[List.getElem_append_right (by omega)];simp[h2]
  have e4:(xs++[x])[xs.length]=x:=by rw[List.getElem_append_right (aS _)];simp
  rw[e2,e3,e4]
  have hlt3:=Qk _ _ _ _ hu
  refine⟨hkeep _ _ _ _ _ hu Ae fun d hd=>hg.block d (hlt3 d hd) (fun e=>(hf d hd).2 e.symm),fun b hb'=>⟨(hf b hb').1,Nat.lt_of_lt_of_le (hlt3 b hb') Ae,?_⟩⟩
  rcases hat with hat|hat
  ·rw[hat];exact(hf b hb').2
  ·rw[hat];intro e;injection e with e;have:=hlt3 b hb';omega
theorem jS.first {α:Type} {O:World→Value→α→List Nat→Prop} {R:World→Nat→Nat→α→List Nat→Prop} (hR:∀w b off x bs v,w.cell? ⟨b,off,none⟩=some v→O w v x bs→R w b off x bs)
  {P:Nat→Prop} {e:TypeId} {base:Nat} {w:World} {v:Value} {xs:List α} (h:jS O P e base w v xs) (hl:xs.length≤9223372036854775807) {n:Nat} (hn:n≤xs.length) :
  ∃a cap,v=.slice a xs.length cap∧xs.length≤cap∧cap≤9223372036854775807∧jS O P e base w (.slice a n cap) (xs.take n) ∧
   ∃bs,bS 1 R w (.slice a n cap) (xs.take n) bs∧∀b∈bs,b<w.heap.size∧(P b∨base≤b):=by
 obtain⟨vs,bss,h1,h2,h3,h5⟩:=h
 have hlt:=hl
 obtain⟨hlen,hown⟩:=h3
 rcases hown with⟨rfl,h0⟩|⟨g,cap,cur,rfl,hg,hs,hcap,hm,hsz,ht⟩
 ·have hn0:n=0:=by omega
  subst hn0
  exact⟨none,0,by rw[h0],by omega,by omega,⟨[],[],by simp,by simp,⟨by simp,.inl ⟨rfl,by simp⟩⟩,fun i h=>absurd h (by simp)⟩,[],⟨by simp,.inl ⟨_,_,rfl,by simp,rfl⟩⟩,by simp⟩
 ·have hgl:g<w.heap.size:=by rw[Array.getElem?_eq_some_iff] at hs;exact hs.1
  have hln:(xs.take n).length=n:=by rw[List.length_take];omega
  refine⟨_,cap,rfl,hcap,by unfold maxLen at hm;omega,⟨vs.take n,bss.take n,by rw[List.length_take,hln];omega,by rw[List.length_take,hln];omega,⟨by rw[List.length_take,hln];omega,.inr ⟨g,cap,cur,by rw[hln],hg,hs,by rw[hln];omega,hm,hsz,by rw[hln,←ht,List.take_take];congr 1;omega⟩⟩,fun i hi g1 g2=>?_⟩,?_⟩
  ·rw[hln] at hi
   rw[List.getElem_take,List.getElem_take,List.getElem_take]
   exact h5 i (by omega) (by omega) (by omega)
  ·by_cases hn0:n=0
   ·subst hn0
    exact⟨[],⟨by simp,.inl ⟨_,_,rfl,by simp,rfl⟩⟩,by simp⟩
   ·refine⟨g :: (bss.take n).flatten,⟨by omega,.inr ⟨g,0,cap,bss.take n,by rw[hln],hgl,rfl,by rw[List.length_take,hln];omega,fun i hi hi2=>?_⟩⟩,?_⟩
    ·have hix:i<xs.length:=by omega
     have k:=h5 i hix (by omega) (by omega)
     rw[List.getElem_take,List.getElem_take]
     refine hR _ _ _ _ _ _ ?_ k.1
     obtain⟨ve,hve⟩:∃ve,vs[i]'(by omega)=ve:=⟨_,rfl⟩
     have e1:vs[i]?=some ve:=by rw[←hve];exact List.getElem?_eq_getElem (by omega)
     rw[hve]
     rw[←ht,List.getElem?_take,if_pos (by omega)] at e1
     simp only[World.cell?,hs,Nat.zero_add,Nat.mul_one]
     rw[←Array.getElem?_toList,e1]
     rfl
    ·intro b hb
     rw[List.mem_cons,List.mem_flatten] at hb
     rcases hb with rfl|⟨l,hl',hm'⟩
     ·exact⟨hgl,.inr hg⟩
     ·obtain⟨i,hi,rfl⟩:=List.getElem_of_mem hl'
      rw[List.length_take] at hi
      rw[List.getElem_take] at hm'
      have:=(h5 i (by omega) (by omega) (by omega)).2 b hm'
      exact⟨this.2.1,.inl this.1⟩
theorem fV.first {w:World} {a:Option Addr} {cap n:Nat} {x:lW} {bs:List Nat} (h:fV w (.slice a x.length cap) x bs) (hn:n≤x.length):∃bs',fV w (.slice a n cap) (x.take n) bs'∧∀b∈bs',b∈bs:=by
 obtain⟨hl,h⟩:=h
 have hln:(x.take n).length=n:=by rw[List.length_take];omega
 rcases h with⟨a',cap',he,rfl,rfl⟩|⟨b,off,cap',bss,he,hlt,rfl,hlen,h⟩
 ·have hn0:n=0:=by simpa using hn
  subst hn0
  exact⟨[],⟨by simp,.inl ⟨_,_,rfl,by simp,rfl⟩⟩,by simp⟩
 ·injection he with e1 _ e3
  subst e1 e3
  refine⟨b :: (bss.take n).flatten,⟨by omega,.inr ⟨b,off,cap,bss.take n,by rw[hln],hlt,rfl,by rw[List.length_take,hln];omega,fun i hi h2=>?_⟩⟩,?_⟩
  ·rw[List.getElem_take,List.getElem_take]
   exact h i (by omega) (by omega)
  ·intro c hc
   rw[List.mem_cons,List.mem_flatten] at hc ⊢
   rcases hc with rfl|⟨l,hl',hm⟩
   ·exact .inl rfl
   ·exact .inr ⟨l,List.mem_of_mem_take hl',hm⟩
theorem bS.form {α:Type} {n:Nat} {R:World→Nat→Nat→α→List Nat→Prop} {w:World} {v:Value} {xs:List α} {bs:List Nat} (h:bS n R w v xs bs):∃a cap,v=.slice a xs.length cap ∧
  ∀i (hi:i<xs.length),∃b off cs,a=some ⟨b,off,none⟩∧b<w.heap.size∧b∈bs∧R w b (off+i * n) xs[i] cs∧∀c∈cs,c∈bs:=by
 obtain⟨hl,h⟩:=h
 rcases h with⟨a,cap,rfl,rfl,rfl⟩|⟨b,off,cap,bss,rfl,hlt,rfl,hlen,h⟩
 ·exact⟨a,cap,rfl,fun i hi=>absurd hi (by simp)⟩
 ·exact⟨_,cap,rfl,fun i hi=>⟨b,off,bss[i]'(by omega),rfl,hlt,by simp,h i hi (by omega),fun c hc=>by
   rw[List.mem_cons,List.mem_flatten]
   exact .inr ⟨_,List.getElem_mem (by omega),hc⟩⟩⟩
def EN (w:World) (v:Value) (x:lW) (bs:List Nat):Prop:=fV w v x bs∧∃a cap,v=.slice a x.length cap∧x.length≤cap∧cap≤9223372036854775807
def Vg (w:World) (b off:Nat) (x:lW) (bs:List Nat):Prop:=∃v,w.cell? ⟨b,off,none⟩=some v∧EN w v x bs
def tX:World→Value→List lW→List Nat→Prop:=bS 1 Vg
def KV (w:World) (b off:Nat) (x:Field) (bs:List Nat):Prop:=∃v,w.cell? ⟨b,off,none⟩=some v∧tX w v x bs
def MR:World→Value→List Field→List Nat→Prop:=bS 1 KV
theorem wJ:Es Vg:=fun w w' b off x bs h hb hs hc=>let ⟨v,h1,h2,h3⟩:=h;⟨v,by rw[fZ hb];exact h1,bS.kept d9 h2 hs hc,h3⟩
theorem IJ:LtO Vg:=fun w b off x bs h=>let ⟨v,h1,h2,h3⟩:=h;bS.lt jy h2
def vO:ByteArray:=⟨#[124,94,126,38,35,36,120,32,126,124,94]⟩
def mQ (cs:List UInt8) (p:Nat):ByteArray :=
 if tk cs p 8<2 then ⟨#[]⟩ else if tk cs p 8=2 then (vO.extract (tk cs (p+1) 30 % 10) (tk cs (p+1) 30 % 10+1)++⟨#[121]⟩)++⟨#[UInt8.ofNat 92]⟩
 else if tk cs p 8=3 then ⟨#[UInt8.ofNat 92]⟩++⟨#[70]⟩ else ⟨#[99]⟩++⟨#[UInt8.ofNat (97+tk cs (p+1) 30 % 26)]⟩
theorem EO (cs:List UInt8) (p:Nat):(mQ cs p).size≤3:=by
 unfold mQ
 split
 ·exact eH _
 ·split
  ·rw[ByteArray.size_append,ByteArray.size_append,ByteArray.size_extract]
   have h1:(⟨#[121]⟩:ByteArray).size=1:=rfl
   have h2:(⟨#[UInt8.ofNat 92]⟩:ByteArray).size=1:=rfl
   omega
  ·split
   ·exact(by decide:(2:Nat)≤3)
   ·rw[ByteArray.size_append]
    have h1:(⟨#[99]⟩:ByteArray).size=1:=rfl
    have h2:∀x,(⟨#[x]⟩:ByteArray).size=1:=fun _=>rfl
    rw[h1,h2]
    decide
theorem YI {w w2:World} (h:Below w.drew.heap.size w.drew w2):Below w.heap.size w w2:=(Below.refl w.heap.size w).drew.trans h
set_option maxRecDepth 100000 in
set_option maxHeartbeats 4000000 in
theorem FZ (cs:List UInt8) (v:Value) (p:Nat) (w:World) {lo:Nat} (hv:iU lo w v cs) (hl:cs.length≤1048576) (hp:p≤4000000) :
  Calls Tryz.prog 106 #[v,.int .i64 (p:Int)] w fun e w'=>e=.returned (.tuple #[.string (mQ cs p),.int .i64 ((p+2:Nat):Int)])∧Below w.heap.size w w':=by
 have HT1:=hide (fJ cs v p 8 w hv hl (by omega) (by decide))
 have HT2:=hide (fJ cs v (p+1) 30 w hv hl (by omega) (by decide))
 obtain⟨aa,cap,rfl,_⟩:=fO hv
 obtain⟨r,hr⟩:∃r,mQ cs p=r:=⟨_,rfl⟩
 have HR:=hide hr
 rw[hr]
 unfold mQ at HR
 have ha:=jK cs p 8 (by decide)
 have hb:=jK cs (p+1) 30 (by decide)
 obtain⟨a,hae⟩:∃a,tk cs p 8=a:=⟨_,rfl⟩
 obtain⟨b,hbe⟩:∃b,tk cs (p+1) 30=b:=⟨_,rfl⟩
 rw[hae] at HT1 HR ha
 rw[hbe] at HT2 HR hb
 have e1:((p+2:Nat):Int)=((p+1+1:Nat):Int):=by omega
 rw[e1]
 clear hae hbe hr hv e1
 obtain⟨p1,hp1⟩:∃q,p+1=q:=⟨_,rfl⟩
 rw[hp1] at HT1 HT2 ⊢
 obtain⟨p2,hp2⟩:∃q,p1+1=q:=⟨_,rfl⟩
 rw[hp2] at HT2 ⊢
 clear hp1 hp2
 have HB0:Hid (Below w.heap.size w w):=Below.refl _ _
 go_enter Tryz.func106,Tryz.ntmps106
 go_wp2_with fail
 refine HT1.out.mono ?_
 rintro e w1 ⟨rfl,hw1⟩
 (try rw[hw1])
 clear hw1 w1
 go_wp2_with fail
 refine HT2.out.mono ?_
 rintro e w1 ⟨rfl,hw1⟩
 (try rw[hw1])
 clear hw1 w1
 by_cases h2:(a:Int)<2
 ·have HX:Hid (r=⟨#[]⟩):=by have:=HR.out;rw[if_pos (by omega)] at this;exact this.symm
  go_wp2_with fail
  go_ret2
  exact⟨by rw[HX.out];rfl,HB0.out⟩
 ·by_cases h3:(a:Int)=2
  ·have h3b:((a:Int) == 2)=true:=by simpa using h3
   obtain⟨q,hq⟩:∃q,b % 10=q:=⟨_,rfl⟩
   have aeg:q≤9:=by omega
   have HX:Hid (r=(vO.extract q (q+1)++⟨#[121]⟩)++⟨#[UInt8.ofNat 92]⟩):=by have:=HR.out;rw[if_neg (by omega),if_pos (by omega),hq] at this;exact this.symm
   have m1:(b:Int).tmod 10=(q:Int):=by rw[Int.tmod_eq_emod_of_nonneg (by omega)];omega
   have m2:(b:Int) % 10=(q:Int):=by omega
   have m3:IntKind.i64.wrap ((q:Int)+1)=(q:Int)+1:=by rw[IntKind.wrap_i64];omega
   have m4:(0:Int)≤(q:Int):=by omega
   have m5:(q:Int)≤(q:Int)+1:=by omega
   have aeh:vO.size=11:=rfl
   have m6:(q:Int)+1≤(vO.size:Int):=by omega
   have m8:(q:Int)≤(vO.size:Int):=by omega
   clear aeh
   have m7:((q:Int)+1).toNat=q+1:=by omega
   have z1:(vO.extract q (q+1)).size=1:=by rw[ByteArray.size_extract];have:vO.size=11:=rfl;omega
   have n1:¬9223372036854775807<(vO.extract q (q+1)).size+1:=by omega
   have n2:¬9223372036854775807<(vO.extract q (q+1)).size+1+1:=by omega
   have ed:(⟨#[124,94,126,38,35,36,120,32,126,124,94]⟩:ByteArray)=vO:=rfl
   go_upto_region 8 with fail
   go_region_held3 (fun X:World=>True) (exact trivial)
    (first|(go_at_call 78;refine(Frame.tV 92 _ (by decide) (by decide)).mono ?_;rintro e w2 ⟨rfl,hb2⟩))
   all_goals
    go_wp2_with fail
    go_ret2
    exact⟨by rw[HX.out];rfl,YI hb2⟩
  ·have h3b:((a:Int) == 2)=false:=by simpa using h3
   by_cases h4:(a:Int)=3
   ·have h4b:((a:Int) == 3)=true:=by simpa using h4
    have HX:Hid (r=⟨#[UInt8.ofNat 92]⟩++⟨#[70]⟩):=by have:=HR.out;rw[if_neg (by omega),if_neg (by omega),if_pos (by omega)] at this;exact this.symm
    go_wp2_with (first|(go_at_call 78;refine(Frame.tV 92 _ (by decide) (by decide)).mono ?_;rintro e w2 ⟨rfl,hb2⟩))
    go_ret2
    exact⟨by rw[HX.out];rfl,hb2⟩
   ·have h4b:((a:Int) == 3)=false:=by simpa using h4
    obtain⟨q,hq⟩:∃q,b % 26=q:=⟨_,rfl⟩
    have aeg:q≤25:=by omega
    have HX:Hid (r=⟨#[99]⟩++⟨#[UInt8.ofNat (97+q)]⟩):=by have:=HR.out;rw[if_neg (by omega),if_neg (by omega),if_neg (by omega),hq] at this;exact this.symm
    have m1:(b:Int).tmod 26=(q:Int):=by rw[Int.tmod_eq_emod_of_nonneg (by omega)];omega
    have m2:(b:Int) % 26=(q:Int):=by omega
    have HQ:=hide (fun W=>Frame.tV (97+(q:Int)) W (by omega) (by omega))
    have e97:(97+(q:Int)).toNat=97+q:=by omega
    rw[e97] at HQ
    obtain⟨ch,hch⟩:∃c,UInt8.ofNat (97+q)=c:=⟨_,rfl⟩
    rw[hch] at HQ HX
    clear hq hch
    go_wp2_with (first|(go_at_call 78;refine(HQ.out _).mono ?_;rintro e w2 ⟨rfl,hb2⟩))
    go_ret2
    exact⟨by rw[HX.out];rfl,hb2⟩
end Go.Proofs.YtfdihjnlgdiioaaGreatDoor.dB
namespace Go.Proofs.YtfdihjnlgdiioaaGreatDoor.dB
open Go.Lib
set_option linter.unusedVariables false
def mR (acc:Nat):List UInt8→Nat
 | []=>acc
 | c :: r=>mR (acc * 10+(c.toNat - 48)) r
def dU (c:UInt8):Bool:=decide (48≤c.toNat) && decide (c.toNat≤57)
def iG (l:List UInt8):Int :=
 if l.length<1 then -1 else if 9<l.length then -1 else if l.all dU then (if decDigits (mR 0 l) == l then (mR 0 l:Int) else -1) else -1
def jB (l:List UInt8):Int:=match atoiAll l with
 | .ok v=>if itoa v == l then v else 0
 | _=>0
theorem yY:∀(l:List UInt8) (acc:Nat) (c:UInt8),mR acc (l++[c])=mR acc l * 10+(c.toNat - 48)
 | [],acc,c=>rfl
 | b :: r,acc,c=>by
  show mR _ (r++[c])=_
  rw[yY r]
  rfl
theorem MS:∀(l:List UInt8) (acc:Nat),acc≤mR acc l
 | [],acc=>Nat.le_refl _
 | c :: r,acc=>Nat.le_trans (by omega) (MS r _)
theorem EP (l:List UInt8) (k:Nat) (h:k<l.length):mR 0 (l.take (k+1))=mR 0 (l.take k) * 10+(l[k].toNat - 48):=by
 rw[List.take_succ_eq_append_getElem h,yY]
theorem MU (l:List UInt8) (ha:l.all dU=true) (k:Nat) (hk:k≤l.length):mR 0 (l.take k)<10 ^ k:=by
 induction k with
 | zero=>rw[List.take_zero,Nat.pow_zero];exact Nat.zero_lt_one
 | succ k ih =>
  have h1:=ih (by omega)
  rw[EP l k (by omega)]
  have h2:=List.all_eq_true.1 ha l[k] (List.getElem_mem _)
  simp only[dU,Bool.and_eq_true,decide_eq_true_eq] at h2
  rw[Nat.pow_succ]
  omega
theorem xK:∀(l:List UInt8) (acc:Nat),l.all dU=true→mR acc l<18446744073709551616→parseUint10 acc l=.ok (mR acc l)
 | [],acc,_,_=>rfl
 | c :: r,acc,ha,h=>by
  rw[List.all_cons,Bool.and_eq_true] at ha
  have h2:=ha.1
  simp only[dU,Bool.and_eq_true,decide_eq_true_eq] at h2
  have h3:=MS r (acc * 10+(c.toNat - 48))
  have h4:mR acc (c :: r)=mR (acc * 10+(c.toNat - 48)) r:=rfl
  rw[h4] at h ⊢
  show (if 48≤c.toNat∧c.toNat≤57 then _ else _)=_
  rw[if_pos h2,if_neg (by omega),if_neg (by omega)]
  exact xK r _ ha.2 h
theorem uR (d:Nat) (h:d<10):(UInt8.ofNat (48+d)).toNat=48+d:=by
 rw[UInt8.toNat_ofNat']
 omega
theorem rJ (u:Nat):mR 0 (decDigits u)=u∧(decDigits u).all dU=true∧1≤(decDigits u).length:=by
 induction u using Nat.strongRecOn with
 | _ u ih =>
  rw[decDigits]
  split
  ·rename_i h
   refine⟨?_,?_,by simp⟩
   ·show 0 * 10+((UInt8.ofNat (48+u)).toNat - 48)=u
    rw[uR u h];omega
   ·simp only[List.all_cons,List.all_nil,dU,uR u h,Bool.and_true,Bool.and_eq_true,decide_eq_true_eq];omega
  ·rename_i h
   obtain⟨h1,h2,h3⟩:=ih (u / 10) (by omega)
   refine⟨?_,?_,by simp⟩
   ·rw[yY,h1,uR _ (by omega)];omega
   ·rw[List.all_append,h2]
    simp only[List.all_cons,List.all_nil,dU,uR (u % 10) (by omega),Bool.and_true,Bool.true_and,Bool.and_eq_true,decide_eq_true_eq]
    omega
theorem AP (k:Nat):∀u,u<10 ^ (k+1)→(decDigits u).length≤k+1:=by
 induction k with
 | zero=>intro u h;rw[decDigits,dif_pos (by omega)];simp
 | succ k ih =>
  intro u h
  rw[decDigits]
  split
  ·simp
  ·have h2:u / 10<10 ^ (k+1):=by rw[Nat.pow_succ] at h;omega
   have:=ih _ h2
   rw[List.length_append]
   simp
   omega
theorem Q5 (u:Nat) (h:u<9223372036854775808):jB (decDigits u)=u:=by
 obtain⟨h1,h2,h3⟩:=rJ u
 have e:atoiAll (decDigits u)=.ok (u:Int):=by
  have hp:=xK (decDigits u) 0 h2 (by omega)
  rw[h1] at hp
  cases hl:decDigits u with
  | nil=>rw[hl] at h3;simp at h3
  | cons c r =>
   rw[hl] at h2 hp
   rw[List.all_cons,Bool.and_eq_true] at h2
   have h4:=h2.1
   simp only[dU,Bool.and_eq_true,decide_eq_true_eq] at h4
   rw[atoiAll_plain c r (by omega) (by omega)]
   unfold parseMag
   rw[if_neg (by simp),hp]
   show (if 9223372036854775808≤u then _ else _)=_
   rw[if_neg (by omega)]
 unfold jB
 rw[e]
 show (if itoa (u:Int) == decDigits u then _ else _)=_
 rw[itoa_nonneg,if_pos (by simp)]
theorem BN (u:Nat) (h:u<1000000000):iG (decDigits u)=u:=by
 obtain⟨h1,h2,h3⟩:=rJ u
 have h4:=AP 8 u (by omega)
 unfold iG
 rw[if_neg (by omega),if_neg (by omega),if_pos h2,h1]
 simp
theorem Vh {l:List UInt8} (h:0≤iG l):l=decDigits (iG l).toNat∧iG l<1000000000:=by
 unfold iG at h ⊢
 split at h
 ·omega
 ·split at h
  ·omega
  ·split at h
   ·rename_i h1 h2 h3
    split at h
    ·rename_i h4
     rw[if_neg h1,if_neg h2,if_pos h3,if_pos h4]
     refine⟨?_,?_⟩
     ·rw[Int.toNat_natCast];exact(beq_iff_eq.1 h4).symm
     ·have h5:=MU l h3 l.length (Nat.le_refl _)
      rw[List.take_length] at h5
      have h6:(10:Nat) ^ l.length≤10 ^ 9:=Nat.pow_le_pow_right (by omega) (by omega)
      omega
    ·omega
   ·omega
theorem Vi {l:List UInt8} (h:1≤jB l):l=decDigits (jB l).toNat∧jB l≤9223372036854775807:=by
 unfold jB at h ⊢
 cases ha:atoiAll l with
 | «syntax»=>rw[ha] at h;simp at h
 | range=>rw[ha] at h;simp at h
 | ok v =>
  rw[ha] at h
  simp only at h ⊢
  split at h
  ·rename_i h2
   have hb:=atoiAll_bounds ha
   rw[if_pos h2]
   refine⟨?_,hb.2⟩
   have h3:=beq_iff_eq.1 h2
   obtain⟨u,rfl⟩:=Int.eq_ofNat_of_zero_le (show 0≤v by omega)
   rw[itoa_nonneg] at h3
   rw[Int.toNat_natCast]
   exact h3.symm
  ·omega
theorem tY (l:List UInt8) (h:(1≤iG l)∨(1≤jB l∧jB l≤999999999)):iG l=jB l:=by
 rcases h with h|⟨h,h'⟩
 ·obtain⟨h1,h2⟩:=Vh (by omega:0≤iG l)
  obtain⟨u,hu⟩:=Int.eq_ofNat_of_zero_le (show 0≤iG l by omega)
  rw[hu,Int.toNat_natCast] at h1
  rw[hu]
  rw[h1,Q5 u (by omega)]
 ·obtain⟨h1,h2⟩:=Vi h
  obtain⟨u,hu⟩:=Int.eq_ofNat_of_zero_le (show 0≤jB l by omega)
  rw[hu,Int.toNat_natCast] at h1
  rw[hu]
  rw[h1,BN u (by omega)]
theorem Om (l:List UInt8) (b:Int) (hb:b≤999999999) (hb1:1≤b):(decide (1≤iG l) && decide (iG l≤b))=(decide (1≤jB l) && decide (jB l≤b)):=by
 by_cases h:(1≤iG l)∨(1≤jB l∧jB l≤999999999)
 ·rw[tY l h]
 ·have h1:¬1≤iG l:=fun x=>h (.inl x)
  have h2:¬(1≤jB l∧jB l≤b):=fun x=>h (.inr ⟨x.1,by omega⟩)
  rw[decide_eq_false h1,Bool.false_and]
  symm
  rw[Bool.and_eq_false_iff,decide_eq_false_iff_not,decide_eq_false_iff_not]
  omega
end Go.Proofs.YtfdihjnlgdiioaaGreatDoor.dB
namespace Go.Proofs.YtfdihjnlgdiioaaGreatDoor.dB
open Go.ChangeShapes Go.WideShapes Go.ChangeAt Go.RowKit
set_option linter.unusedVariables false
set_option linter.unusedSimpArgs false
def kW (lo hi:Nat) (s:ByteArray):Bool:=decide (lo≤s.size) && (decide (s.size≤hi) && dI s)
def fH (s:ByteArray):Bool:=kW 1 16 s
def aL (s:ByteArray):Bool:=kW 1 20 s
def aW (s:ByteArray):Bool:=kW 0 200 s
theorem xL {lo hi:Nat} {s:ByteArray} (h:¬lo≤s.size):kW lo hi s=false:=by unfold kW;rw[decide_eq_false h];rfl
theorem qJ {lo hi:Nat} {s:ByteArray} (h:¬s.size≤hi):kW lo hi s=false:=by unfold kW;rw[decide_eq_false (p:=s.size≤hi) h,Bool.false_and,Bool.and_false]
theorem qK {lo hi:Nat} {s:ByteArray} (h:lo≤s.size) (h':s.size≤hi):kW lo hi s=dI s:=by unfold kW;rw[decide_eq_true h,decide_eq_true h'];rfl
set_option maxHeartbeats 400000 in
theorem bg (s:ByteArray) (w:World) (hs:s.size≤9223372036854775807) :
  Calls Tryz.prog 46 #[.string s] w fun e w'=>e=.returned (.bool (fH s))∧w'=w:=by
 by_cases h1:(1:Int)≤(s.size:Int)
 ·by_cases h2:(s.size:Int)≤16
  ·have HX:Hid (fH s=dI s):=qK (by omega) (by omega)
   go_enter Tryz.func46,Tryz.ntmps46
   go_wp2_with (go_at_call 76;refine(uP s _ hs).mono ?_;rintro e w' ⟨rfl,rfl⟩)
   go_ret
   exact⟨aA HX.out.symm,rfl⟩
  ·have HX:Hid (fH s=false):=qJ (by omega)
   go_enter Tryz.func46,Tryz.ntmps46
   go_wp2_with fail
   go_ret
   exact⟨aA HX.out.symm,rfl⟩
 ·have HX:Hid (fH s=false):=xL (by omega)
  go_enter Tryz.func46,Tryz.ntmps46
  go_wp2_with fail
  go_ret
  exact⟨aA HX.out.symm,rfl⟩
set_option maxHeartbeats 400000 in
theorem aD (s:ByteArray) (w:World) (hs:s.size≤9223372036854775807) :
  Calls Tryz.prog 45 #[.string s] w fun e w'=>e=.returned (.bool (aL s))∧w'=w:=by
 by_cases h1:(1:Int)≤(s.size:Int)
 ·by_cases h2:(s.size:Int)≤20
  ·have HX:Hid (aL s=dI s):=qK (by omega) (by omega)
   go_enter Tryz.func45,Tryz.ntmps45
   go_wp2_with (go_at_call 76;refine(uP s _ hs).mono ?_;rintro e w' ⟨rfl,rfl⟩)
   go_ret
   exact⟨aA HX.out.symm,rfl⟩
  ·have HX:Hid (aL s=false):=qJ (by omega)
   go_enter Tryz.func45,Tryz.ntmps45
   go_wp2_with fail
   go_ret
   exact⟨aA HX.out.symm,rfl⟩
 ·have HX:Hid (aL s=false):=xL (by omega)
  go_enter Tryz.func45,Tryz.ntmps45
  go_wp2_with fail
  go_ret
  exact⟨aA HX.out.symm,rfl⟩
set_option maxHeartbeats 400000 in
theorem bC (s:ByteArray) (w:World) (hs:s.size≤9223372036854775807) :
  Calls Tryz.prog 47 #[.string s] w fun e w'=>e=.returned (.bool (aW s))∧w'=w:=by
 by_cases h2:(s.size:Int)≤200
 ·have HX:Hid (aW s=dI s):=qK (by omega) (by omega)
  go_enter Tryz.func47,Tryz.ntmps47
  go_wp2_with (go_at_call 76;refine(uP s _ hs).mono ?_;rintro e w' ⟨rfl,rfl⟩)
  go_ret
  exact⟨aA HX.out.symm,rfl⟩
 ·have HX:Hid (aW s=false):=qJ (by omega)
  go_enter Tryz.func47,Tryz.ntmps47
  go_wp2_with fail
  go_ret
  exact⟨aA HX.out.symm,rfl⟩
def IK (d:Nat):UInt8:=UInt8.ofNat (48+d)
def bR (u:Nat):ByteArray:=⟨(Lib.decDigits u).toArray⟩
theorem BO (u:Nat) (h:u<10):bR u=⟨#[IK u]⟩:=by unfold bR IK;rw[Lib.decDigits,dif_pos h]
theorem ER (u:Nat) (h:¬u<10):bR u=bR (u / 10)++⟨#[IK (u % 10)]⟩:=by
 unfold bR IK
 rw[Lib.decDigits,dif_neg h]
 apply ByteArray.ext
 simp
theorem Vj (u:Nat):Int.tmod (-(u:Int)) 10 = -((u % 10:Nat):Int):=by
 rw[Int.neg_tmod,Int.tmod_eq_emod_of_nonneg (by omega)]
 omega
theorem Vk (u:Nat):Int.tdiv (-(u:Int)) 10 = -((u / 10:Nat):Int):=by
 rw[Int.neg_tdiv,Int.tdiv_eq_ediv_of_nonneg (by omega)]
 omega
theorem KW:∀d,d<10→(⟨#[48,49,50,51,52,53,54,55,56,57]⟩:ByteArray).extract d (d+1)=⟨#[IK d]⟩:=by unfold IK;decide
theorem IL (d:Nat) (h:d<10) (w:World):(Instr.slice 9 (.string ⟨#[48,49,50,51,52,53,54,55,56,57]⟩) (some (.int .i64 (d:Int))) (some (.int .i64 ((d:Int)+1))) none).run Tryz.prog w=.ok (.string ⟨#[IK d]⟩) w:=by
 rw[run_slice_string w 9 ⟨#[48,49,50,51,52,53,54,55,56,57]⟩ .i64 .i64 _ _ Tryz.underlying9 (by omega) (by omega) (by show ((d:Int)+1)≤10;omega),show ((d:Int)).toNat=d by omega,show ((d:Int)+1).toNat=d+1 by omega,KW d h]
set_option maxHeartbeats 400000 in
set_option maxRecDepth 100000 in
theorem F3 (u:Nat):∀(w:World),u≤9223372036854775807 →
  Calls Tryz.prog 54 #[.int .i64 (-(u:Int))] w fun e w'=>e=.returned (.string (bR u))∧Below w.heap.size w w':=by
 induction u using Nat.strongRecOn with
 | _ u ih =>
  intro w hu
  have hr:=Vj u
  have hq:=Vk u
  by_cases h:u<10
  ·have h1:(-10:Int) < -(u:Int):=by omega
   have e:u % 10=u:=by omega
   rw[e] at hr
   have hsl:=IL u h
   have HX:=hide (BO u h)
   clear ih hq e
   go_enter Tryz.func54,Tryz.ntmps54
   go_wp2_with fail
   go_ret
   exact⟨bF HX.out.symm,Below.refl _ _⟩
  ·have h1:¬(-10:Int) < -(u:Int):=by omega
   have HX:=hide (ER u h)
   have HIH:=hide (ih (u / 10) (by omega))
   obtain⟨d,hd⟩:∃d,u % 10=d:=⟨_,rfl⟩
   have aei:d<10:=by omega
   rw[hd] at hr HX
   have hsl:=IL d aei
   have hlen:(bR (u / 10)).size≤30:=by
    unfold bR
    have:=AP 19 (u / 10) (by omega)
    show (Lib.decDigits (u / 10)).toArray.size≤30
    simp
    omega
   obtain⟨q,hq2⟩:∃q,u / 10=q:=⟨_,rfl⟩
   rw[hq2] at hq HX HIH hlen
   have hq9:q≤9223372036854775807:=by omega
   have hw1:IntKind.i64.wrap ((d:Int)+1)=(d:Int)+1:=by rw[IntKind.wrap_i64];omega
   have hw2:IntKind.i64.wrap (-(q:Int)) = -(q:Int):=by rw[IntKind.wrap_i64];omega
   have afU:¬9223372036854775807<(bR q).size+1:=by omega
   clear ih hd hq2
   go_enter Tryz.func54,Tryz.ntmps54
   go_wp2_with fail
   go_region_held3 (fun w'=>Below w.heap.size w w')
    (first|exact(Below.refl _ _).drew|exact hb3)
    (first|(go_at_call 54;refine(HIH.out _ hq9).mono ?_;rintro e w2 ⟨rfl,hb2⟩;have hb3:Below w.heap.size w w2:=aj hb2 ((Below.refl _ _).drew)))
   go_wp2_with fail
   go_ret
   exact⟨bF HX.out.symm,hb3⟩
set_option maxRecDepth 100000 in
theorem nG (u:Nat) (w:World) (hu:u≤9223372036854775807) :
  Calls Tryz.prog 27 #[.int .i64 (u:Int)] w fun e w'=>e=.returned (.string (bR u))∧Below w.heap.size w w':=by
 have h0:¬(u:Int)<0:=by omega
 go_enter Tryz.func27,Tryz.ntmps27
 go_wp2_with (go_at_call 54;refine(F3 u _ hu).mono ?_;rintro e w2 ⟨rfl,hb2⟩)
 go_ret
 exact⟨rfl,hb2⟩
theorem KX (l:List UInt8) (k:Nat) (hl:l.length≤9) (ha:(l.take k).all dU=true) (hk:k≤l.length):mR 0 (l.take k)<1000000000:=by
 have h1:=MU (l.take k) ha k (by rw[List.length_take];omega)
 rw[List.take_take,Nat.min_self] at h1
 have h2:(10:Nat) ^ k≤10 ^ 9:=Nat.pow_le_pow_right (by omega) (by omega)
 omega
theorem Oo (l:List UInt8) (k:Nat) (h:k<l.length) (hd:dU l[k]=true):((mR 0 (l.take (k+1)):Nat):Int)=(mR 0 (l.take k):Int) * 10+((l[k].toNat:Int) - 48):=by
 rw[EP l k h]
 simp only[dU,Bool.and_eq_true,decide_eq_true_eq] at hd
 omega
set_option maxHeartbeats 1000000 in
set_option maxRecDepth 100000 in
theorem rM (s:ByteArray) (w:World) (hs:s.size≤9223372036854775807) :
  Calls Tryz.prog 48 #[.string s] w fun e w'=>e=.returned (.int .i64 (iG s.data.toList))∧Below w.heap.size w w':=by
 have hsz:s.data.toList.length=s.size:=by simp
 by_cases h1:(s.size:Int)<1
 ·have HX:Hid (iG s.data.toList = -1):=by unfold iG;rw[if_pos (by omega)];trivial
  clear hsz
  go_enter Tryz.func48,Tryz.ntmps48
  go_wp2_with fail
  go_ret
  exact⟨jh HX.out.symm,Below.refl _ _⟩
 by_cases h9:(9:Int)<(s.size:Int)
 ·have HX:Hid (iG s.data.toList = -1):=by unfold iG;rw[if_neg (by omega),if_pos (by omega)];trivial
  clear hsz
  go_enter Tryz.func48,Tryz.ntmps48
  go_wp2_with fail
  go_ret
  exact⟨jh HX.out.symm,Below.refl _ _⟩
 have HN:Hid (iG s.data.toList=if s.data.toList.all dU then (if Lib.decDigits (mR 0 s.data.toList) == s.data.toList then (mR 0 s.data.toList:Int) else -1) else -1):=by
  unfold iG;rw[if_neg (by omega),if_neg (by omega)];trivial
 have nC:=hide hsz
 clear hsz
 have Ki:Hid (∀k,k≤s.size→(s.data.toList.take k).all dU=true→mR 0 (s.data.toList.take k)<1000000000):=fun k hk ha=>KX _ _ (by rw[nC.out];omega) ha (by rw[nC.out];exact hk)
 have HNX:Hid (∀k (h:k<s.size),dU s[k]=true→((mR 0 (s.data.toList.take (k+1)):Nat):Int)=(mR 0 (s.data.toList.take k):Int) * 10+((s[k].toNat:Int) - 48)):=fun k h hd=>Oo s.data.toList k (by rw[nC.out];exact h) hd
 have Q6:Hid (∀k (h:k<s.size),(s.data.toList.take k).all dU=true→dU s[k]=true→(s.data.toList.take (k+1)).all dU=true):=fun k h h1 h2=>jD (p:=dU) (xs:=s.data.toList) (k:=k) (by rw[nC.out];exact h) h1 h2
 have Xr:Hid (∀k (h:k<s.size),dU s[k]=false→s.data.toList.all dU=false):=fun k h h2=>iy (p:=dU) (xs:=s.data.toList) (k:=k) (by rw[nC.out];exact h) h2
 have abn:Hid ((s.data.toList.take s.size).all dU=true→s.data.toList.all dU=true):=fun h=>jE (by rw[nC.out];exact aS _) h
 have Vl:Hid (s.data.toList.take s.size=s.data.toList):=List.take_of_length_le (by rw[nC.out];exact aS _)
 have Ul:Hid (∀u,((bR u).toList == s.toList)=(Lib.decDigits u == s.data.toList)):=fun u=>by unfold bR;rw[ByteArray.toList_eq,ByteArray.toList_eq]
 obtain⟨V,hV⟩:∃V:Nat→Nat,V=fun k=>mR 0 (s.data.toList.take k):=⟨_,rfl⟩
 have HV0:Hid (V 0=0):=hide (by rw[hV];show mR 0 (List.take 0 _)=0;rw[List.take_zero];rfl)
 have HVB:Hid (∀k,k≤s.size→(s.data.toList.take k).all dU=true→V k<1000000000):=fun k hk ha=>by rw[hV];exact Ki.out k hk ha
 have HVN:Hid (∀k (h:k<s.size),dU s[k]=true→((V (k+1):Nat):Int)=(V k:Int) * 10+((s[k].toNat:Int) - 48)):=fun k h hd=>by rw[hV];exact HNX.out k h hd
 have Qz:Hid (V s.size=mR 0 s.data.toList):=hide (by rw[hV];show mR 0 _=_;rw[Vl.out])
 clear hV Ki HNX
 go_enter Tryz.func48,Tryz.ntmps48
 go_wp2_with fail
 go_loop [3,4] (fun n i=>∃k:Nat,k≤s.size∧i=.int .i64 k∧n=.int .i64 (V k:Int)∧(s.data.toList.take k).all dU=true) (fun n i=>s.size - (intOf i).toNat)
 case atStart=>exact⟨0,eH _,rfl,by rw[HV0.out];rfl,rfl⟩
 case round =>
  obtain⟨k,hk,rfl,rfl,hall⟩:=hrel
  have HA:=hide hall
  have hvb:=HVB.out k hk hall
  clear hall
  by_cases hlt:k<s.size
  ·have HP:Hid (dU s[k]=(decide (48≤s[k].toNat) && decide (s[k].toNat≤57))):=rfl
   by_cases c1:(s[k].toNat:Int)<48
   ·have HF:Hid (dU s[k]=false):=by rw[HP.out,decide_eq_false (by omega)];rfl
    have HX:Hid (iG s.data.toList = -1):=by rw[HN.out,Xr.out k hlt HF.out];rfl
    go_wp2_with fail
    go_ret
    exact⟨jh HX.out.symm,Below.refl _ _⟩
   ·by_cases c2:(57:Int)<(s[k].toNat:Int)
    ·have HF:Hid (dU s[k]=false):=by rw[HP.out,decide_eq_false (p:=s[k].toNat≤57) (by omega),Bool.and_false];trivial
     have HX:Hid (iG s.data.toList = -1):=by rw[HN.out,Xr.out k hlt HF.out];rfl
     go_wp2_with fail
     go_ret
     exact⟨jh HX.out.symm,Below.refl _ _⟩
    ·have HF:Hid (dU s[k]=true):=by rw[HP.out,decide_eq_true (by omega),decide_eq_true (by omega)];rfl
     have HZ:=hide (Q6.out k hlt HA.out HF.out)
     have HNV:=hide (HVN.out k hlt HF.out)
     have hc1:(48:Int)≤(s[k].toNat:Int):=by omega
     have hc2:(s[k].toNat:Int)≤57:=by omega
     go_wp2_with fail
     go_round
     case rel=>exact⟨k+1,by omega,by go_num,by rw[HNV.out],HZ.out⟩
     case measure=>simp[intOf];omega
  ·obtain rfl:k=s.size:=by omega
   have Xt:=hide (abn.out HA.out)
   have HV:=Qz
   obtain⟨u,hu⟩:∃u,V s.size=u:=⟨_,rfl⟩
   rw[hu] at hvb HV
   have MV:Hid (iG s.data.toList=if Lib.decDigits u == s.data.toList then (u:Int) else -1):=by rw[HN.out,Xt.out,←HV.out];rfl
   rw[hu]
   cases he:(bR u).toList == s.toList
   ·have HX:Hid (iG s.data.toList = -1):=by rw[MV.out,←Ul.out,he];rfl
    go_wp2_with (go_at_call 27;refine(nG u _ (by omega)).mono ?_;rintro e w2 ⟨rfl,hb2⟩)
    go_ret
    exact⟨jh HX.out.symm,hb2⟩
   ·have HX:Hid (iG s.data.toList=(u:Int)):=by rw[MV.out,←Ul.out,he];rfl
    go_wp2_with (go_at_call 27;refine(nG u _ (by omega)).mono ?_;rintro e w2 ⟨rfl,hb2⟩)
    go_ret
    exact⟨jh HX.out.symm,hb2⟩
def ah (s:ByteArray):Field:=if s.size=0 then [] else [[s]]
theorem isE {s:ByteArray}:s.data.toList.isEmpty=decide (s.size=0):=by
 cases h:s.data.toList with
 | nil =>
  have:s.size=0:=by show s.data.size=0;rw[←Array.length_toList,h];rfl
  simp[this]
 | cons a r =>
  have:s.size≠0:=by show s.data.size≠0;rw[←Array.length_toList,h];simp
  simp[this]
theorem IQ {w:World} {b o:Nat} {v:Value} (h:w.cell? ⟨b,o,none⟩=some v):b<w.heap.size:=by
 rcases Nat.lt_or_ge b w.heap.size with h'|h'
 ·exact h'
 ·simp[World.cell?,Array.getElem?_eq_none h'] at h
theorem Q7 {β:Type} (a:Option Addr) (x:List β) (c:Nat):Lens [Value.slice a x.length c] [x]:=⟨rfl,fun k h1 h2=>⟨a,c,by
 obtain rfl:k=0:=by simp at h1;omega
 rfl⟩⟩
theorem qL (w:World) (a:Option Addr) (c:Nat):bP w (.slice a 0 c) [] []:=⟨by simp,.inl ⟨a,c,rfl,rfl,rfl⟩⟩
theorem Q8 {w:World} {s:ByteArray} {g g1 cap iH:Nat} (hs:s.size≤9223372036854775807) (hg:g<w.heap.size) (hg1:g1<w.heap.size) (h0:w.cell? ⟨g,0,none⟩=some (.slice (some ⟨g1,0,none⟩) 1 iH)) (h1:w.cell? ⟨g1,0,none⟩=some (.string s)) (h2:w.frozen? ⟨g1,0,none⟩=false) :
  bP w (.slice (some ⟨g,0,none⟩) 1 cap) [[s]] [g,g1]:=by
 refine⟨by simp,.inr ⟨g,0,cap,[[g1]],rfl,hg,rfl,rfl,fun i h h'=>?_⟩⟩
 obtain rfl:i=0:=by simp at h;omega
 refine⟨_,h0,by simp,.inr ⟨g1,0,iH,[[]],rfl,hg1,rfl,rfl,fun k hk hk'=>?_⟩⟩
 obtain rfl:k=0:=by simp at hk;omega
 exact⟨h1,h2,hs,rfl⟩
set_option maxHeartbeats 2000000 in
theorem dx (s:ByteArray) (w:World) (hs:s.size≤1048576) :
  Calls Tryz.prog 197 #[.string s] w fun e w'=>∃u,e=.returned (.agg #[u])∧∃bs,bP w' u (ah s) bs∧bs.Nodup∧(∀b∈bs,w.heap.size≤b)∧Below w.heap.size w w':=by
 have hb0:=(Below.refl w.heap.size w).alloc (aS _) (Obj.cells #[.slice none 0 0] 57)
 have hb1:=hb0.alloc hb0.size (Obj.cells #[.string s] 9)
 obtain⟨w1,hw1⟩:∃w1,(w.alloc (Obj.cells #[.slice none 0 0] 57)).alloc (Obj.cells #[.string s] 9)=w1:=⟨_,rfl⟩
 have hsb:oG (w.heap.size+1) w1 (.slice (some ⟨w.heap.size+1,0,none⟩) 1 1) ([s.data.toList].map txt):=by
  unfold oG
  rw[←hw1]
  have h:=World.ownsRow_lit (base:=w.heap.size+1) (e:=9) (size:=1) (w.alloc (Obj.cells #[.slice none 0 0] 57)) #[.string s] 1 (by simp) (by unfold maxLen;omega) rfl
  simpa [qj] using h
 have hbx:w1.cell? ⟨w.heap.size,0,none⟩=some (.slice none 0 0):=by rw[←hw1,World.cell?_alloc_lt _ _ ⟨w.heap.size,0,none⟩ (by simp)];simp
 have hfx:w1.frozen? ⟨w.heap.size,0,none⟩=false:=by rw[←hw1,World.frozen?_alloc_old _ _ ⟨w.heap.size,0,none⟩ (by simp)];simp
 have hlx:=IQ hbx
 rw[hw1] at hb1
 have AQ:=hide hsb
 have HB1:=hide hb1
 clear hsb hb0 hb1
 have HT:Hid (ay List.isEmpty [s.data.toList]=if s.size=0 then [] else [s.data.toList]):=by
  unfold ay aK
  rw[show aK List.isEmpty ([]:List (List UInt8))=0 from rfl]
  simp only
  rw[isE]
  by_cases h:s.size=0
  ·rw[if_pos h,decide_eq_true h];rfl
  ·rw[if_neg h,decide_eq_false h];rfl
 by_cases h0:s.size=0
 ·have HT0:Hid (ay List.isEmpty [s.data.toList]=[]):=by rw[HT.out,if_pos h0];trivial
  have HF:Hid (ah s=[]):=by unfold ah;rw[if_pos h0];trivial
  go_enter Tryz.func197,Tryz.ntmps197
  go_wp2_with fail
  refine(oJ [s.data.toList] _ _ _ AQ.out (by simp) (by simp) (by intro p hp;simp at hp;subst hp;simp;exact hs)).mono ?_
  rintro e w2 ⟨u1,rfl,hu1,hb2⟩
  rw[HT0.out] at hu1
  obtain⟨a,cap,rfl⟩:=tH hu1
  have KY:w2.cell? ⟨w.heap.size,0,none⟩=some (.slice none 0 0):=(hb2.cell (p:=⟨w.heap.size,0,none⟩) hlx).trans hbx
  have YJ:w2.frozen? ⟨w.heap.size,0,none⟩=false:=(hb2.frozen (p:=⟨w.heap.size,0,none⟩) hlx).trans hfx
  have HB2:=hide (aj hb2 HB1.out)
  have Q9:w.heap.size<w2.heap.size:=by have:=hb2.size;omega
  clear hu1 hb2
  have HB3:=hide (HB2.out.alloc HB2.out.size (Obj.cells #[.slice a 0 cap] 60))
  have HL:Hid ((w2.alloc (Obj.cells #[.slice a 0 cap] 60)).ownsRow w2.heap.size 60 1 (.slice (some ⟨w2.heap.size,0,none⟩) 1 1) [Value.slice a 0 cap].length [.slice a 0 cap]):=by
   have h:=World.ownsRow_lit (base:=w2.heap.size) (e:=60) (size:=1) w2 #[.slice a 0 cap] 1 (aS _) (by unfold maxLen;omega) rfl
   exact h
  have YK:(w2.alloc (Obj.cells #[.slice a 0 cap] 60)).cell? ⟨w.heap.size,0,none⟩=some (.slice none 0 0):=(World.cell?_alloc_lt _ _ ⟨w.heap.size,0,none⟩ Q9).trans KY
  have YL:(w2.alloc (Obj.cells #[.slice a 0 cap] 60)).frozen? ⟨w.heap.size,0,none⟩=false:=(World.frozen?_alloc_old _ _ ⟨w.heap.size,0,none⟩ (Nat.ne_of_lt Q9)).trans YJ
  go_wp2_with fail
  refine(og (β:=UInt8) [[]] [.slice a 0 cap] _ _ _ HL.out (Q7 a [] cap) (by simp) (by simp) (by intro x hx;simp at hx;subst hx;simp)).mono ?_
  rintro e w3 ⟨u2,rfl,hu2,hb3⟩
  obtain⟨a2,c2,rfl⟩:=tH hu2
  have e0:aK List.isEmpty ([[]]:List (List UInt8))=0:=rfl
  rw[e0]
  have Ra:w.heap.size<(w2.alloc (Obj.cells #[.slice a 0 cap] 60)).heap.size:=by simp;omega
  have Oq:w3.cell? ⟨w.heap.size,0,none⟩=some (.slice none 0 0):=(hb3.cell (p:=⟨w.heap.size,0,none⟩) Ra).trans YK
  have YM:w3.frozen? ⟨w.heap.size,0,none⟩=false:=(hb3.frozen (p:=⟨w.heap.size,0,none⟩) Ra).trans YL
  have YN:w.heap.size<w3.heap.size:=by have:=hb3.size;omega
  have nA:=hide ((aj hb3 HB3.out).setCell (p:=⟨w.heap.size,0,none⟩) (aS _) (.slice a2 0 c2))
  clear hb3 hu2
  go_wp2_with fail
  exact bodyPost_ret (v:=.agg #[.slice a2 0 c2]) (by simp[results,Tryz.results197,go_sem,Oq,YM,YN]) rfl ⟨_,rfl,[],by rw[HF.out];exact qL _ _ _,by simp,by simp,nA.out⟩
 ·have HT0:Hid (ay List.isEmpty [s.data.toList]=[s.data.toList]):=by rw[HT.out,if_neg h0];trivial
  have HF:Hid (ah s=[[s]]):=by unfold ah;rw[if_neg h0];trivial
  go_enter Tryz.func197,Tryz.ntmps197
  go_wp2_with fail
  refine(oJ [s.data.toList] _ _ _ AQ.out (by simp) (by simp) (by intro p hp;simp at hp;subst hp;simp;exact hs)).mono ?_
  rintro e w2 ⟨u1,rfl,hu1,hb2⟩
  rw[HT0.out] at hu1
  have abo:w2.ownsRow w1.heap.size 9 1 u1 [Value.string s].length [.string s]:=by
   have:=hu1
   unfold oG at this
   simpa [qj] using this
  obtain⟨h,_⟩|⟨g1,iH,rfl,hg1,hl1,hc1⟩:=gu abo
  ·cases h
  have hcs:w2.cell? ⟨g1,0,none⟩=some (.string s)∧w2.frozen? ⟨g1,0,none⟩=false:=hc1 0 (by simp)
  have KY:w2.cell? ⟨w.heap.size,0,none⟩=some (.slice none 0 0):=(hb2.cell (p:=⟨w.heap.size,0,none⟩) hlx).trans hbx
  have YJ:w2.frozen? ⟨w.heap.size,0,none⟩=false:=(hb2.frozen (p:=⟨w.heap.size,0,none⟩) hlx).trans hfx
  have HB2:=hide (aj hb2 HB1.out)
  have Q9:w.heap.size<w2.heap.size:=by have:=hb2.size;omega
  have HCS:=hide hcs
  have IU:Hid (w.heap.size<g1∧g1<w2.heap.size):=⟨by omega,hl1⟩
  clear hu1 abo hb2 hc1 hcs
  have HB3:=hide (HB2.out.alloc HB2.out.size (Obj.cells #[.slice (some ⟨g1,0,none⟩) 1 iH] 60))
  have HL:Hid ((w2.alloc (Obj.cells #[.slice (some ⟨g1,0,none⟩) 1 iH] 60)).ownsRow w2.heap.size 60 1 (.slice (some ⟨w2.heap.size,0,none⟩) 1 1) [Value.slice (some ⟨g1,0,none⟩) 1 iH].length [.slice (some ⟨g1,0,none⟩) 1 iH]):=by
   have h:=World.ownsRow_lit (base:=w2.heap.size) (e:=60) (size:=1) w2 #[.slice (some ⟨g1,0,none⟩) 1 iH] 1 (aS _) (by unfold maxLen;omega) rfl
   exact h
  have YK:(w2.alloc (Obj.cells #[.slice (some ⟨g1,0,none⟩) 1 iH] 60)).cell? ⟨w.heap.size,0,none⟩=some (.slice none 0 0):=(World.cell?_alloc_lt _ _ ⟨w.heap.size,0,none⟩ Q9).trans KY
  have YL:(w2.alloc (Obj.cells #[.slice (some ⟨g1,0,none⟩) 1 iH] 60)).frozen? ⟨w.heap.size,0,none⟩=false:=(World.frozen?_alloc_old _ _ ⟨w.heap.size,0,none⟩ (Nat.ne_of_lt Q9)).trans YJ
  have Xl:Hid ((w2.alloc (Obj.cells #[.slice (some ⟨g1,0,none⟩) 1 iH] 60)).cell? ⟨g1,0,none⟩=some (.string s)∧(w2.alloc (Obj.cells #[.slice (some ⟨g1,0,none⟩) 1 iH] 60)).frozen? ⟨g1,0,none⟩=false) :=
   ⟨(World.cell?_alloc_lt _ _ ⟨g1,0,none⟩ IU.out.2).trans HCS.out.1,(World.frozen?_alloc_old _ _ ⟨g1,0,none⟩ (Nat.ne_of_lt IU.out.2)).trans HCS.out.2⟩
  go_wp2_with fail
  refine(og (β:=List UInt8) [[s.data.toList]] [.slice (some ⟨g1,0,none⟩) 1 iH] _ _ _ HL.out (Q7 (some ⟨g1,0,none⟩) [s.data.toList] iH) (by simp) (by simp) (by intro x hx;simp at hx;subst hx;simp)).mono ?_
  rintro e w3 ⟨u2,rfl,hu2,hb3⟩
  have e0:aK List.isEmpty ([[s.data.toList]]:List (List (List UInt8)))=1:=rfl
  have abp:w3.ownsRow (w2.alloc (Obj.cells #[.slice (some ⟨g1,0,none⟩) 1 iH] 60)).heap.size 60 1 u2 [Value.slice (some ⟨g1,0,none⟩) 1 iH].length [.slice (some ⟨g1,0,none⟩) 1 iH]:=by
   rw[e0] at hu2
   exact hu2
  obtain⟨h,_⟩|⟨g,c2,rfl,hg,hl2,hc2⟩:=gu abp
  ·cases h
  have Ra:w.heap.size<(w2.alloc (Obj.cells #[.slice (some ⟨g1,0,none⟩) 1 iH] 60)).heap.size:=by simp;omega
  have hga:g1<(w2.alloc (Obj.cells #[.slice (some ⟨g1,0,none⟩) 1 iH] 60)).heap.size:=by have:=IU.out.2;simp;omega
  have hg2:w2.heap.size+1≤g:=by simpa using hg
  have Oq:w3.cell? ⟨w.heap.size,0,none⟩=some (.slice none 0 0):=(hb3.cell (p:=⟨w.heap.size,0,none⟩) Ra).trans YK
  have YM:w3.frozen? ⟨w.heap.size,0,none⟩=false:=(hb3.frozen (p:=⟨w.heap.size,0,none⟩) Ra).trans YL
  have YN:w.heap.size<w3.heap.size:=by have:=hb3.size;omega
  have nA:=hide ((aj hb3 HB3.out).setCell (p:=⟨w.heap.size,0,none⟩) (aS _) (.slice (some ⟨g,0,none⟩) 1 c2))
  have HO:Hid (bP (w3.setCell ⟨w.heap.size,0,none⟩ (.slice (some ⟨g,0,none⟩) 1 c2)) (.slice (some ⟨g,0,none⟩) 1 c2) [[s]] [g,g1]):=by
   have n1:(⟨w.heap.size,0,none⟩:Addr).block≠(⟨g,0,none⟩:Addr).block:=by simp;omega
   have n2:(⟨w.heap.size,0,none⟩:Addr).block≠(⟨g1,0,none⟩:Addr).block:=by have h:=IU.out.1;show w.heap.size≠g1;omega
   have c1:w3.cell? ⟨g,0,none⟩=some (.slice (some ⟨g1,0,none⟩) 1 iH):=(hc2 0 (by simp)).1
   have d1:w3.cell? ⟨g1,0,none⟩=some (.string s):=(hb3.cell (p:=⟨g1,0,none⟩) hga).trans Xl.out.1
   have d2:w3.frozen? ⟨g1,0,none⟩=false:=(hb3.frozen (p:=⟨g1,0,none⟩) hga).trans Xl.out.2
   have z3:=hb3.size
   refine Q8 (by omega) (by rw[Deep.nblk_setCell];exact hl2) (by rw[Deep.nblk_setCell];exact Nat.lt_of_lt_of_le hga z3) ((World.cell?_setCell_far _ _ _ _ n1).trans c1) ((World.cell?_setCell_far _ _ _ _ n2).trans d1) ?_
   rw[kK (Deep.blk_setCell_other _ _ _ _ (by have:=IU.out.1;simp;omega))]
   exact d2
  have GX:=hide (show [g,g1].Nodup by
   have h:=IU.out.2
   have h':g≠g1:=by omega
   simp[h'])
  have sQ:=hide (show ∀b∈[g,g1],w.heap.size≤b by
   have h:=IU.out.1
   intro b hb
   simp at hb
   omega)
  clear hb3 hu2 abp hc2 e0
  go_wp2_with fail
  exact bodyPost_ret (v:=.agg #[.slice (some ⟨g,0,none⟩) 1 c2]) (by simp[results,Tryz.results197,go_sem,Oq,YM,YN]) rfl ⟨_,rfl,[g,g1],by rw[HF.out];exact HO.out,GX.out,sQ.out,nA.out⟩
def letters:List UInt8:=[70,83,82,69,84]
theorem KZ:∀c:UInt8,(Lib.indexByte [124,94,126,92,38] c = -1∧esc c=[c])∨∃m:Nat,m<5∧Lib.indexByte [124,94,126,92,38] c=m∧esc c=[92,letters.getD m 0,92]:=by
 intro c
 unfold esc letters
 by_cases h1:c=124
 ·subst h1;exact .inr ⟨0,by decide,by decide,by decide⟩
 by_cases h2:c=94
 ·subst h2;exact .inr ⟨1,by decide,by decide,by decide⟩
 by_cases h3:c=126
 ·subst h3;exact .inr ⟨2,by decide,by decide,by decide⟩
 by_cases h4:c=92
 ·subst h4;exact .inr ⟨3,by decide,by decide,by decide⟩
 by_cases h5:c=38
 ·subst h5;exact .inr ⟨4,by decide,by decide,by decide⟩
 left
 have t:∀n:UInt8,c≠n→c.toNat≠n.toNat:=fun n h e=>h (UInt8.toNat_inj.1 e)
 have k1:=t 124 h1
 have k2:=t 94 h2
 have k3:=t 126 h3
 have k4:=t 92 h4
 have k5:=t 38 h5
 simp only[show (124:UInt8).toNat=124 from rfl,show (94:UInt8).toNat=94 from rfl,show (126:UInt8).toNat=126 from rfl,show (92:UInt8).toNat=92 from rfl,show (38:UInt8).toNat=38 from rfl] at k1 k2 k3 k4 k5
 refine⟨Frame.QZ _ _ ?_,?_⟩
 ·simp only[Frame.hasB,List.any_cons,List.any_nil,Bool.or_false,Bool.or_eq_false_iff,beq_eq_false_iff_ne,show (124:UInt8).toNat=124 from rfl,show (94:UInt8).toNat=94 from rfl,show (126:UInt8).toNat=126 from rfl,show (92:UInt8).toNat=92 from rfl,show (38:UInt8).toNat=38 from rfl]
  omega
 ·rw[if_neg k1,if_neg k2,if_neg k5,if_neg k3,if_neg k4]
theorem ES (c:UInt8) (n:Int) (w:World) (h:Lib.indexByte [124,94,126,92,38] c=n) :
  Calls Tryz.prog 81 #[.string ⟨#[124,94,126,92,38]⟩,.int .u8 (c.toNat:Int)] w fun e w'=>e=.returned (.int .i64 n)∧w'=w:=by
 refine(Frame.D6 _ _ _).mono ?_
 rintro e w' ⟨rfl,rfl⟩
 refine⟨jh ?_,rfl⟩
 rw[←h]
 congr 1
 simp
theorem K3 (w:World) (x y z:Value) (t:TypeId):∀(j:Nat) (u:Value),[x,y,z][j]?=some u→(w.alloc (.cells #[x,y,z] t)).cell? ((⟨w.heap.size,0,none⟩:Addr).add j)=some u:=by
 intro j u hj
 match j with
 | 0=>simp at hj;subst hj;simp[Addr.add]
 | 1=>simp at hj;subst hj;simp[Addr.add]
 | 2=>simp at hj;subst hj;simp[Addr.add]
 | j+3=>simp at hj
theorem Buf.abq {base:Nat} {w wr w':World} {v0 v v':Value} {bs:List UInt8} (c d e:UInt8) (o:Obj) (hb:fQ w v0 wr v)
  {n:Nat} (hl:n=bs.length) (h:w'.ownsRow base 5 1 v' (n+3) (Qh bs++[.int .u8 c.toNat,.int .u8 d.toNat,.int .u8 e.toNat])) (hg:(wr.alloc o).grownBy w' v.ownBlock) (hat:v'.ownBlock=v.ownBlock∨v'.ownBlock=some (wr.heap.size+1)) :
  Buf base w' v' (bs++[c,d,e])∧fQ w v0 w' v':=by
 subst hl
 refine⟨by unfold Buf;simpa [Qh] using h,(hb.alloc o).trans ⟨hg,?_⟩⟩
 rcases hat with hat|hat
 ·exact .inl hat
 ·exact .inr ⟨_,hat,by rw[Deep.nblk_alloc];exact aS _⟩
set_option maxRecDepth 100000 in
set_option maxHeartbeats 1000000 in
theorem vP (base:Nat) (bs:List UInt8) (s:ByteArray) (v:Value) (w:World) (hown:Buf base w v bs) (hbase:base≤w.heap.size) (hl:bs.length+3 * s.size≤70368744177664) :
  Calls Tryz.prog 138 #[v,.string s] w fun e w'=>∃u R,e=.returned u∧Wr bs (dR s.data.toList) R∧Buf base w' u R∧fQ w v w' u:=by
 obtain⟨i0,hi,hz0,hz1,hz2⟩:=oD
 obtain⟨a,cap,rfl⟩:∃a cap,v=.slice a bs.length cap:=by
  obtain⟨hlen,⟨rfl,h0⟩|⟨g,cap,cur,rfl,_⟩⟩:=hown
  ·exact⟨none,0,by rw[h0]⟩
  ·exact⟨_,_,rfl⟩
 by_cases hlong:(40000:Int)<(bs.length:Int)
 ·have HW:=hide (Wr.stay bs (dR s.data.toList) (by omega))
  go_enter Tryz.func138,Tryz.ntmps138
  go_wp2_with fail
  go_ret
  exact⟨_,_,rfl,HW.out,hown,fQ.refl _ _⟩
 ·have h92:((({ data:=#[124,94,126,92,38] }:ByteArray)[3].toNat:Nat):Int)=92:=rfl
  go_enter Tryz.func138,Tryz.ntmps138
  go_wp2_with fail
  go_loopw [0,15] (fun v1 i wr=>∃k:Nat,k≤s.size∧i=.int .i64 k∧Buf base wr v1 (bs++dR (s.data.toList.take k))∧fQ w (.slice a bs.length cap) wr v1) (fun _ i _=>s.size - (intOf i).toNat)
  case atStart=>exact⟨0,eH _,rfl,by simpa [dR] using hown,fQ.refl _ _⟩
  case round =>
   obtain⟨k,hk,rfl,hbuf,hb⟩:=hrel
   by_cases hlt:k<s.size
   ·have HE:Hid (bs++dR (s.data.toList.take (k+1))=(bs++dR (s.data.toList.take k))++esc s[k]):=by rw[uO s k hlt,Ey,List.append_assoc];trivial
    have hlen:(bs++dR (s.data.toList.take k)).length≤bs.length+3 * k:=by
     have:=FK (s.data.toList.take k)
     have h2:(s.data.toList.take k).length≤k:=List.length_take_le _ _
     rw[List.length_append];omega
    have hz:base≤wr.heap.size:=Nat.le_trans hbase hb.1.size
    generalize hB:bs++dR (s.data.toList.take k)=B at *
    clear hB
    rcases KZ s[k] with⟨hx,he⟩|⟨m,hm,hx,he⟩
    ·have HI:=hide hx
     have HJ:Hid (bs++dR (s.data.toList.take (k+1))=B++[s[k]]):=by rw[HE.out,he];trivial
     clear hx he
     go_wp2_with fail
     refine(ES s[k] _ _ HI.out).mono ?_
     rintro e w' ⟨rfl,rfl⟩
     go_wp2_with (first
      | (at_builtin;refine wpList_append_own_at _ rfl _ _ 22 rfl base 5 i0 (.int .u8 0) 1 1 Tryz.underlying22 hi hz0 hz1 hz2 rfl (by decide) _ _ _ rfl (World.ownsRow.alloc hbuf _) ⟨w'.heap.size,0,none⟩ 1 1 [.int .u8 s[k].toNat] rfl rfl ?c1 ?c2 ?c3 ?c4 ?c5 ?_)
      | go_in)
     case c1=>exact gH _ _ _
     case c2=>exact oF _
     case c3=>unfold maxLen;omega
     case c4=>omega
     case c5=>simp;omega
     ·intro v' w2 hown' hgrow hnil hat
      have R:=Buf.snoc (bs:=B) s[k] _ hb rfl hown' hgrow hat
      clear hown' hgrow hnil hat hbuf hb
      go_wp2
      go_roundw
      case rel=>exact⟨k+1,by omega,by go_num,by rw[HJ.out];exact R.1,R.2⟩
      case measure=>simp[intOf];omega
    ·have HI:=hide hx
     have HJ:Hid (bs++dR (s.data.toList.take (k+1))=B++[92,letters.getD m 0,92]):=by rw[HE.out,he];trivial
     have HM:Hid (((({ data:=#[70,83,82,69,84] }:ByteArray)[m]'hm).toNat:Int)=((letters.getD m 0).toNat:Int)):=by
      match m,hm with
      | 0,_=>rfl
      | 1,_=>rfl
      | 2,_=>rfl
      | 3,_=>rfl
      | 4,_=>rfl
     clear hx he
     have hm5:(m:Int)<5:=by omega
     have hm0:¬(m:Int)<0:=by omega
     go_wp2_with fail
     refine(ES s[k] _ _ HI.out).mono ?_
     rintro e w' ⟨rfl,rfl⟩
     go_wp2_with (first
      | (at_builtin;refine wpList_append_own_at _ rfl _ _ 22 rfl base 5 i0 (.int .u8 0) 1 1 Tryz.underlying22 hi hz0 hz1 hz2 rfl (by decide) _ _ _ rfl (World.ownsRow.alloc hbuf _) ⟨w'.heap.size,0,none⟩ 3 3 [.int .u8 92,.int .u8 (({ data:=#[70,83,82,69,84] }:ByteArray)[m]'hm).toNat,.int .u8 92] rfl rfl ?c1 ?c2 ?c3 ?c4 ?c5 ?_)
      | go_in)
     case c1=>exact K3 _ _ _ _ _
     case c2 =>
      intro u hu
      simp only[List.mem_cons,List.not_mem_nil,or_false] at hu
      rcases hu with rfl|rfl|rfl <;> rfl
     case c3=>unfold maxLen;omega
     case c4=>omega
     case c5=>simp;omega
     ·intro v' w2 hown' hgrow hnil hat
      rw[HM.out] at hown'
      have R:=Buf.abq (bs:=B) 92 (letters.getD m 0) 92 _ hb rfl hown' hgrow hat
      clear hown' hgrow hnil hat hbuf hb
      go_wp2
      go_roundw
      case rel=>exact⟨k+1,by omega,by go_num,by rw[HJ.out];exact R.1,R.2⟩
      case measure=>simp[intOf];omega
   ·have HW:Hid (Wr bs (dR s.data.toList) (bs++dR s.data.toList)):=Wr.full _ _
    go_wp2_with fail
    go_ret
    exact⟨_,_,rfl,HW.out,by rw[List.take_of_length_le (by simp;omega)] at hbuf;exact hbuf,hb⟩
end Go.Proofs.YtfdihjnlgdiioaaGreatDoor.dB
