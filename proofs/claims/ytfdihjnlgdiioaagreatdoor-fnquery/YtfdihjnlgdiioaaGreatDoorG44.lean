import Derived.Test.YtfdihjnlgdiioaaGreatDoorG43
namespace Go.Proofs.YtfdihjnlgdiioaaGreatDoor.dB
open Go.ChangeShapes Go.WideShapes Go.ChangeAt Go.RowKit
set_option linter.unusedVariables false
set_option linter.unusedSimpArgs false
def fC (v:Value):List Value:=[v]
def aaI (L:Nat) (W:World) (u:Value) (f:Field):Prop:=gL L W u f
abbrev Nq:=wI (α:=Field) (β:=Value) aaI (fun x=>x) (fun _ _=>True)
theorem fields_of {base lo:Nat} {w:World} {v:Value} {ps:List Value} {xs:List Field} (h:FB fC 1 57 base w v ps) (hp:Nq lo w v ps xs) (hl:lo≤base) (hz:ps.length≤9223372036854775807):aG lo w v xs:=by
 obtain⟨h0,hA⟩:=FB.at (C:=fC) (c:=1) (Z:=fun _=>True) (fun _=>rfl) h hz (fun _ _=>trivial)
 refine⟨by rw[←hp.1];exact h0,?_⟩
 rcases hA with⟨a,cap,e,rfl⟩|⟨b,off,cap,e,hbb,hA⟩
 ·exact .inl ⟨a,cap,e,List.eq_nil_of_length_eq_zero (by rw[←hp.1];rfl)⟩
 ·refine .inr ⟨b,off,cap,by rw[←hp.1];exact e,⟨by omega,hbb.2⟩,fun i hi=>?_⟩
  have hi1:i<ps.length:=by rw[hp.1];exact hi
  obtain⟨_,L,W,g1,g2,g3,g4⟩:=hp.2.2 i hi1 hi
  have c0:=(hA i hi1).1 0 (by simp[fC])
  exact⟨ps[i],by simpa [fC] using c0,At.mono Ho (At.same iQ g2 ⟨g3,fun d h1 h2=>(g4 d h1 h2).1⟩) g1⟩
def FL (W0:World) (lo:Nat) (X:World) (v:Value) (xs:List Field):Prop:=∃ps,FB fC 1 57 W0.heap.size X v ps∧Nq lo X v ps xs∧Below W0.heap.size W0 X
theorem FL.start (W0:World) (lo:Nat):FL W0 lo (W0.alloc (.cells #[] 57)) (.slice (some ⟨W0.heap.size,0,none⟩) 0 0) [] :=
 ⟨[],FB.lit _ _ _ _,wI.nil _ _ _ _ _ _,aO _ _⟩
theorem FL.below {W0:World} {lo:Nat} {X X':World} {v:Value} {xs:List Field} (h:FL W0 lo X v xs) (hb:Below X.heap.size X X'):FL W0 lo X' v xs:=by
 obtain⟨ps,h1,h2,h3⟩:=h
 exact⟨ps,h1.below hb,h2.below hb,aj hb h3⟩
theorem FL.fields {W0:World} {lo:Nat} {X:World} {v:Value} {xs:List Field} (h:FL W0 lo X v xs) (hl:lo≤W0.heap.size) (hz:xs.length≤9223372036854775807):aG lo X v xs:=by
 obtain⟨ps,h1,h2,h3⟩:=h
 exact fields_of h1 h2 hl (by rw[h2.1];exact hz)
theorem FL.own {W0:World} {lo:Nat} {X:World} {v:Value} {xs:List Field} (h:FL W0 lo X v xs):∀b,v.ownBlock=some b→W0.heap.size≤b∧b<X.heap.size:=by
 obtain⟨ps,h1,h2,h3⟩:=h
 exact fun b hb=>h1.own b (by rw[hb];simp)
theorem FL.more {W0:World} {lo n:Nat} {X:World} {v:Value} {xs:List Field} (h:FL W0 lo X v xs) (f:Field) (u:Value) (hu:KU aaI lo X v u f) (h1:QV u) (hn:xs.length=n) (hl:n≤100000) :
  ∃a' c' w',(Builtin.append_ #[52,52] 52 #[v,.slice (some ⟨X.heap.size,0,none⟩) 1 1]).run Tryz.prog (X.alloc (.cells #[u] 57))=.ok (.slice a' (n+1) c') w'∧FL W0 lo w' (.slice a' (n+1) c') (xs++[f]):=by
 have hown:=h.own
 obtain⟨ps,g1,g2,g3⟩:=h
 obtain⟨a',c',w',hr,hF,ho,hv⟩:=II (C:=fC) (c:=1) (bytes:=24) (e:=57) Tryz.underlying52 kL rfl (by decide) g1 u rfl (fun z hz=>by
  obtain⟨a,m,c,e⟩:=h1
  have hz':z=u:=by simpa [fC] using hz
  rw[hz',e];rfl) g3.size (by rw[g2.1];exact hn) hl (by decide)
 exact⟨a',c',w',hr,_,hF,(g2.snoc (y:=u) h1 trivial hu).app ho hv,g3.trans (ho.below g3.size fun d hd=>(hown d (by simpa using hd)).1)⟩
theorem FL.old {W0:World} {lo L n:Nat} {X:World} {v:Value} {xs:List Field} (h:FL W0 lo X v xs) (f:Field) (u:Value) (hu:gL L W0 u f) (hL:lo≤L) (hn:xs.length=n) (hl:n≤100000) :
  ∃a' c' w',(Builtin.append_ #[52,52] 52 #[v,.slice (some ⟨X.heap.size,0,none⟩) 1 1]).run Tryz.prog (X.alloc (.cells #[u] 57))=.ok (.slice a' (n+1) c') w'∧FL W0 lo w' (.slice a' (n+1) c') (xs++[f]):=by
 have hown:=h.own
 obtain⟨ps,g1,g2,g3⟩:=id h
 refine h.more f u ⟨L,W0,hL,hu,g3.size,fun b h1 h2=>⟨g3.block b h2,fun e=>by have:=(hown b e).1;omega⟩⟩ ?_ hn hl
 obtain⟨a,c,e,_⟩:=At.form hu
 exact⟨a,_,c,e⟩
theorem FL.new {W0:World} {lo L n:Nat} {X:World} {v:Value} {xs:List Field} (h:FL W0 lo X v xs) (f:Field) (u:Value) (hu:gL L X u f) (hL:lo≤L) (hv:∀b,v.ownBlock=some b→b<L) (hn:xs.length=n) (hl:n≤100000) :
  ∃a' c' w',(Builtin.append_ #[52,52] 52 #[v,.slice (some ⟨X.heap.size,0,none⟩) 1 1]).run Tryz.prog (X.alloc (.cells #[u] 57))=.ok (.slice a' (n+1) c') w'∧FL W0 lo w' (.slice a' (n+1) c') (xs++[f]):=by
 refine h.more f u (KU.new (A:=aaI) hu hL fun b hb=>.inl (hv b hb)) ?_ hn hl
 obtain⟨a,c,e,_⟩:=At.form hu
 exact⟨a,_,c,e⟩
theorem Mk (r:pK):(cK r).length≤250:=by
 rcases vB r with h|h
 ·rw[h];exact eH _
 ·unfold dW jZ at h
  simp only[Bool.and_eq_true,decide_eq_true_eq] at h
  exact h.1.2.1
theorem Pv (r:pK) (k:Nat) (h:k<(cK r).length):((cK r)[k]).fields.length≤30:=by
 rcases vB r with h0|h0
 ·rw[h0] at h;exact absurd h (by simp)
 ·unfold dW jZ at h0
  simp only[Bool.and_eq_true,decide_eq_true_eq] at h0
  have hk:k<(cK r).zipIdx.length:=by rw[List.length_zipIdx];exact h
  have:=List.all_eq_true.1 h0.1.2.2 _ (List.getElem_mem hk)
  rw[List.getElem_zipIdx] at this
  unfold jY at this
  simp only[Bool.and_eq_true,decide_eq_true_eq] at this
  exact this.2.2.1
set_option maxRecDepth 100000 in
set_option maxHeartbeats 16000000 in
theorem Ml (cs:List UInt8) (v:Value) (w:World) {lo:Nat} (hv:iU lo w v cs) (hl:cs.length≤1048576) :
  Calls Tryz.prog 16 #[v] w fun e w'=>∃u,e=.returned (.agg #[u])∧aX w.heap.size w' u (Pt cs)∧Below w.heap.size w w':=by
 have HV:=hide hv
 obtain⟨va,vc,rfl,_⟩:=fO hv
 obtain⟨x1,hx1⟩:∃x,w.alloc (Obj.cells #[.slice none 0 0] 28)=x:=⟨_,rfl⟩
 have bN:x1.heap.size=w.heap.size+1:=by rw[←hx1];simp
 have bx1:Below w.heap.size w x1:=by rw[←hx1];exact aO _ _
 have HR1:Hid (aU x1 w.heap.size 28 #[.slice none 0 0]):=by rw[←hx1];exact aU.new _ _ _
 have HT1:=hide (fJ cs (.slice va cs.length vc) 0 12 x1 (At.kept bJ HV.out bx1) hl (by decide) (by decide))
 have HDR:=hide (zS cs (.slice va cs.length vc) 1 x1 (At.kept bJ HV.out bx1) hl (by decide))
 have HDE:=hide (fun W (h:Below w.heap.size w W)=>Dz cs (.slice va cs.length vc) W (At.kept bJ HV.out h) hl)
 have HTA:=hide (fun W (h:Below w.heap.size w W)=>fJ cs (.slice va cs.length vc) 6 8 W (At.kept bJ HV.out h) hl (by decide) (by decide))
 have aaJ:=hide (fun W (h:Below w.heap.size w W)=>fJ cs (.slice va cs.length vc) 7 8 W (At.kept bJ HV.out h) hl (by decide) (by decide))
 obtain⟨r9,SG⟩:∃r,Pt cs=r:=⟨_,rfl⟩
 have xZ:=hide SG
 rw[SG]
 unfold Pt at xZ
 have hH:=jK cs 0 12 (by decide)
 have hA:=jK cs 6 8 (by decide)
 have hB:=jK cs 7 8 (by decide)
 have hml:=Mk (jq cs 1)
 have aaK:=hide (fun k h=>Pv (jq cs 1) k h)
 obtain⟨hz0,hz1,hz2,hz3⟩:=J4 cs 1
 obtain⟨how,Al⟩:∃a,tk cs 0 12=a:=⟨_,rfl⟩
 obtain⟨A,XP⟩:∃a,tk cs 6 8=a:=⟨_,rfl⟩
 obtain⟨B,hBe⟩:∃a,tk cs 7 8=a:=⟨_,rfl⟩
 rw[Al] at HT1 xZ hH
 rw[XP] at HTA xZ hA
 rw[hBe] at aaJ xZ hB
 obtain⟨r,hr⟩:∃r,jq cs 1=r:=⟨_,rfl⟩
 rw[hr] at HDR xZ hml aaK hz0 hz1 hz2 hz3
 have DK:=hide (fun(W:World)=>wm r W (by omega) (by omega) (by omega) (by omega))
 obtain⟨m,hm⟩:∃m,cK r=m:=⟨_,rfl⟩
 rw[hm] at DK xZ hml aaK
 obtain⟨kind,control,tag,query,page,pointer⟩:=r
 have aaE:Hid (Calls Tryz.prog 20 #[.slice va cs.length vc,.int .i64 1] x1 fun e w'=>e=.returned (.tuple #[.agg #[.int .i64 kind,.string control,.string tag,.string query,.int .i64 page,.string pointer],.int .i64 6])∧Below x1.heap.size x1 w'):=HDR.out
 have afl:Hid (∀W,Calls Tryz.prog 7 #[.agg #[.int .i64 kind,.string control,.string tag,.string query,.int .i64 page,.string pointer]] W (pE W m)):=DK.out
 have afm:Hid (∀W,Below w.heap.size w W→Calls Tryz.prog 41 #[.slice va cs.length vc,.int .i64 6,.int .i64 8] W fun e w'=>e=.returned (.tuple #[.int .i64 (A:Int),.int .i64 7])∧w'=W):=HTA.out
 have afn:Hid (∀W,Below w.heap.size w W→Calls Tryz.prog 41 #[.slice va cs.length vc,.int .i64 7,.int .i64 8] W fun e w'=>e=.returned (.tuple #[.int .i64 (B:Int),.int .i64 8])∧w'=W):=aaJ.out
 have afo:Hid (Calls Tryz.prog 41 #[.slice va cs.length vc,.int .i64 0,.int .i64 12] x1 fun e w'=>e=.returned (.tuple #[.int .i64 (how:Int),.int .i64 1])∧w'=x1):=HT1.out
 have Ur:=hide hx1
 have HB1:=hide bx1
 have UA:=hide bN
 clear hv SG hr hm hx1 bx1 bN Al XP hBe HDR DK HTA aaJ HT1 hz0 hz1 hz2 hz3
 go_enter Tryz.func16,Tryz.ntmps16
 go_wp2_with fail
 rw[Ur.out]
 refine afo.out.mono ?_
 rintro e y ⟨rfl,hy⟩
 (try rw[hy])
 clear hy y
 go_wp2_with fail
 refine aaE.out.mono ?_
 rintro e W1 ⟨rfl,hb1⟩
 have HR2:=hide (HR1.out.below hb1)
 obtain⟨X2,hX2⟩:∃x,W1.alloc (Obj.cells #[.int .i64 kind,.string control,.string tag,.string query,.int .i64 page,.string pointer] 24)=x:=⟨_,rfl⟩
 have b2:Below W1.heap.size W1 X2:=by rw[←hX2];exact aO _ _
 have HB2:=hide (aj b2 (aj hb1 HB1.out))
 have HR3:=hide (HR2.out.below b2)
 have oq:Hid (aU X2 W1.heap.size 24 #[.int .i64 kind,.string control,.string tag,.string query,.int .i64 page,.string pointer]):=by rw[←hX2];exact aU.new _ _ _
 have HS2:Hid (x1.heap.size≤X2.heap.size):=Nat.le_trans hb1.size b2.size
 clear hb1 b2
 go_upto_region 3 with fail
 (try rw[hX2])
 clear hX2
 have c0:X2.cell? ⟨W1.heap.size,0,none⟩=some (.int .i64 kind):=oq.out.cell 0 (by simp)
 have c1:X2.cell? ⟨W1.heap.size,1,none⟩=some (.string control):=oq.out.cell 1 (by simp)
 have c2:X2.cell? ⟨W1.heap.size,2,none⟩=some (.string tag):=oq.out.cell 2 (by simp)
 have c3:X2.cell? ⟨W1.heap.size,3,none⟩=some (.string query):=oq.out.cell 3 (by simp)
 have c4:X2.cell? ⟨W1.heap.size,4,none⟩=some (.int .i64 page):=oq.out.cell 4 (by simp)
 have c5:X2.cell? ⟨W1.heap.size,5,none⟩=some (.string pointer):=oq.out.cell 5 (by simp)
 go_wp2_with fail
 refine(afl.out X2).mono ?_
 rintro e W3 ⟨u3,rfl,hu3,hb3⟩
 obtain⟨am,cm,rfl,_⟩:=hu3.form
 have HR4:=hide (HR3.out.below hb3)
 obtain⟨X4,Ja⟩:∃x,W3.alloc (Obj.cells #[.slice am m.length cm] 28)=x:=⟨_,rfl⟩
 have b4:Below W3.heap.size W3 X4:=by rw[←Ja];exact aO _ _
 have Mj:Hid (aU X4 W3.heap.size 28 #[.slice am m.length cm]):=by rw[←Ja];exact aU.new _ _ _
 have HU:=hide (At.kept bA hu3 b4)
 have o7:=hide (aj b4 (aj hb3 HB2.out))
 have Np:=hide (HR4.out.below b4)
 have h13:W3.heap.size<X4.heap.size:=Mj.out.lt
 have afp:Hid (X2.heap.size≤X4.heap.size):=Nat.le_trans hb3.size b4.size
 clear hu3 hb3 b4 c0 c1 c2 c3 c4 c5
 go_upto_region 4 with fail
 (try rw[Ja])
 clear Ja
 go_wp2_with fail
 refine(afm.out X4 o7.out).mono ?_
 rintro e y ⟨rfl,hy⟩
 (try rw[hy])
 clear hy y
 go_wp2_with fail
 refine(afn.out X4 o7.out).mono ?_
 rintro e y ⟨rfl,hy⟩
 (try rw[hy])
 clear hy y
 obtain⟨X5,UD⟩:∃x,X4.alloc (Obj.cells #[.string ⟨#[]⟩,.string ⟨#[81,66,80]⟩,.string ⟨#[48]⟩,.string ⟨#[53,49]⟩,.string ⟨#[50,46,53]⟩,.string ⟨#[55]⟩,.string ⟨#[48,48,55]⟩,.string ⟨#[120,127]⟩] 9)=x:=⟨_,rfl⟩
 have b5:Below X4.heap.size X4 X5:=by rw[←UD];exact aO _ _
 have s5:X5.heap.size=X4.heap.size+1:=by rw[←UD];simp
 have oX5:aU X5 X4.heap.size 9 #[.string ⟨#[]⟩,.string ⟨#[81,66,80]⟩,.string ⟨#[48]⟩,.string ⟨#[53,49]⟩,.string ⟨#[50,46,53]⟩,.string ⟨#[55]⟩,.string ⟨#[48,48,55]⟩,.string ⟨#[120,127]⟩]:=by rw[←UD];exact aU.new _ _ _
 obtain⟨tx,htx⟩:∃t,DJ.getD B ⟨#[]⟩=t:=⟨_,rfl⟩
 have HTB:Hid (X5.cell? ⟨X4.heap.size,B,none⟩=some (.string tx)):=by
  rw[←htx]
  have:B=0∨B=1∨B=2∨B=3∨B=4∨B=5∨B=6∨B=7:=by omega
  rcases this with rfl|rfl|rfl|rfl|rfl|rfl|rfl|rfl <;> exact oX5.cell _ (by simp)
 have htz:tx.size≤3:=by
  rw[←htx]
  have:B=0∨B=1∨B=2∨B=3∨B=4∨B=5∨B=6∨B=7:=by omega
  rcases this with rfl|rfl|rfl|rfl|rfl|rfl|rfl|rfl <;> decide
 have Yc:=hide s5
 have Rw:=hide htx
 have TL:=hide (Np.out.below b5)
 have Av:=hide (aj b5 o7.out)
 have HU5:=hide (At.kept bA HU.out b5)
 have HM5:=hide (Mj.out.below b5)
 have nC:Hid (X2.heap.size≤X5.heap.size):=Nat.le_trans afp.out b5.size
 have Ay:Hid (w.heap.size<X2.heap.size):=HR3.out.lt
 have afq:W3.heap.size<X5.heap.size:=by omega
 clear oX5 htx b5 h13 s5
 go_upto_region 7 with fail
 (try rw[UD])
 clear UD
 have m0:X5.cell? ⟨W3.heap.size,0,none⟩=some (.slice am m.length cm):=HM5.out.cell 0 (by simp)
 have r0:X5.cell? ⟨w.heap.size,0,none⟩=some (.slice none 0 0):=TL.out.cell 0 (by simp)
 have rf:X5.frozen? ⟨w.heap.size,0,none⟩=false:=TL.out.frozen 0
 have rl:w.heap.size<X5.heap.size:=TL.out.lt
 by_cases hin:(8≤how∧how<11)∧1<m.length
 ·have HX:Hid (rq A B (A % m.length) m m.length=r9):=by have:=xZ.out;rw[if_pos hin] at this;exact this
  have h8:(how:Int) ≥ 8:=by omega
  have h11:(how:Int)<11:=by omega
  have hm1:(m.length:Int) > 1:=by omega
  obtain⟨at_,hat⟩:∃a,A % m.length=a:=⟨_,rfl⟩
  have aaL:at_<m.length:=by rw[←hat];exact Nat.mod_lt _ (by omega)
  have ahq:(A:Int).tmod (m.length:Int)=(at_:Int):=by rw[Int.tmod_eq_emod_of_nonneg (by omega),←hat];omega
  rw[hat] at HX
  have ahr:¬(m.length:Int)=0:=by omega
  obtain⟨am',cm',eam,hel⟩:=At.form HU5.out
  injection eam with e1 _ e3
  subst e1 e3
  obtain⟨bm,om,rfl,hbl,EU,d0,dz,fv,d1,hf⟩:=hel at_ aaL
  obtain⟨fa,fc,rfl,_⟩:=At.form hf
  obtain⟨sg,hsg⟩:∃s,m[at_]=s:=⟨_,rfl⟩
  have hfl:sg.fields.length≤30:=by rw[←hsg];exact aaK.out at_ aaL
  rw[hsg] at d0 dz d1 hf
  have HMK:Hid (m.getD at_ lV=sg):=by rw[List.getD_eq_getElem?_getD,List.getElem?_eq_getElem aaL,hsg];trivial
  have HF:=hide hf
  have HD1:=hide d1
  have YS:=hide hel
  obtain⟨B3,hB3⟩:∃q,B % 3=q:=⟨_,rfl⟩
  obtain⟨A3,hA3⟩:∃q,A % 3=q:=⟨_,rfl⟩
  have mB3:(B:Int).tmod 3=(B3:Int):=by rw[Int.tmod_eq_emod_of_nonneg (by omega),←hB3];omega
  have mA3:(A:Int).tmod 3=(A3:Int):=by rw[Int.tmod_eq_emod_of_nonneg (by omega),←hA3];omega
  have lB3:B3<3:=by omega
  have lA3:A3<3:=by omega
  obtain⟨X6,Yd⟩:∃x,X5.alloc (Obj.cells #[] 57)=x:=⟨_,rfl⟩
  have afr:Hid (FL X5 X2.heap.size X6 (.slice (some ⟨X5.heap.size,0,none⟩) 0 0) []):=by rw[←Yd];exact FL.start _ _
  clear hin hat hsg hf d0 d1 hel hbl r0 rf rl
  go_wp2_with fail
  (try rw[Yd])
  clear Yd m0
  go_loopg [14,15] sg.fields.length (fun q s i wr=>∃(k:Nat) (a:Option Addr) (c:Nat),k≤sg.fields.length∧q=sg.fields.length - k∧s=.slice a k c∧i=.int .i64 (k:Int)∧FL X5 X2.heap.size wr (.slice a k c) (Aw A B at_ sg.fields k))
  case atStart=>exact⟨0,_,_,eH _,rfl,rfl,rfl,afr.out⟩
  case round =>
   obtain⟨k,a,c,hk,rfl,rfl,rfl,hFL⟩:=hrel
   obtain⟨Y,rfl⟩:∃x,x=wr:=⟨_,rfl⟩
   have Uh:=hide hFL
   have jo:Hid (Below X5.heap.size X5 Y):=by obtain⟨_,_,_,h⟩:=hFL;exact h
   have HOWN:=hide hFL.own
   clear hFL
   have m0:Y.cell? ⟨W3.heap.size,0,none⟩=some (.slice (some ⟨bm,om,none⟩) m.length cm):=(jo.out.cell (p:=⟨W3.heap.size,0,none⟩) afq).trans (HM5.out.cell 0 (by simp))
   have n0:Y.cell? ⟨bm,om+at_ * 2+1,none⟩=some (.slice fa sg.fields.length fc):=(jo.out.cell (p:=⟨bm,om+at_ * 2+1,none⟩) EU).trans HD1.out
   by_cases hlt:k<sg.fields.length
   ·have hki:(k:Int)<(sg.fields.length:Int):=by omega
    obtain⟨fa',fc',efa,adg⟩:=At.form HF.out
    injection efa with e1 _ e3
    subst e1 e3
    obtain⟨bf,of,rfl,afs,aft,ru,hru,hrr⟩:=adg k hlt
    obtain⟨fe,hfe⟩:∃f,sg.fields[k]=f:=⟨_,rfl⟩
    rw[hfe] at hrr
    obtain⟨ra,rc,rfl,_⟩:=At.form hrr
    have NS:=hide hrr
    have adh:X5.cell? ⟨bf,of+k,none⟩=some (.slice ra fe.length rc):=by simpa using hru
    have f0:Y.cell? ⟨bf,of+k,none⟩=some (.slice ra fe.length rc):=(jo.out.cell (p:=⟨bf,of+k,none⟩) aft).trans adh
    have hmk:sg.fields.getD k []=fe:=by rw[List.getD_eq_getElem?_getD,List.getElem?_eq_getElem hlt,hfe];rfl
    have HST:Hid (Aw A B at_ sg.fields (k+1)=Aw A B at_ sg.fields k++[fx A B sg.fields.length at_ k fe]):=by show Aw A B at_ sg.fields k++[_]=_;rw[hmk]
    obtain⟨X1,hX1⟩:∃x,Y.alloc (Obj.cells #[.slice ra fe.length rc] 57)=x:=⟨_,rfl⟩
    have Qc:Below Y.heap.size Y X1:=by rw[←hX1];exact aO _ _
    have Nr:aU X1 Y.heap.size 57 #[.slice ra fe.length rc]:=by rw[←hX1];exact aU.new _ _ _
    obtain⟨bn,hbn⟩:∃q,B % sg.fields.length=q:=⟨_,rfl⟩
    have ahs:(B:Int).tmod (sg.fields.length:Int)=(bn:Int):=by rw[Int.tmod_eq_emod_of_nonneg (by omega),←hbn];omega
    have aht:¬(sg.fields.length:Int)=0:=by omega
    have m1:X1.cell? ⟨W3.heap.size,0,none⟩=some (.slice (some ⟨bm,om,none⟩) m.length cm):=(Qc.cell (p:=⟨W3.heap.size,0,none⟩) (by show W3.heap.size<Y.heap.size;have:=jo.out.size;omega)).trans m0
    have n1:X1.cell? ⟨bm,om+at_ * 2+1,none⟩=some (.slice (some ⟨bf,of,none⟩) sg.fields.length fc):=(Qc.cell (p:=⟨bm,om+at_ * 2+1,none⟩) (by show bm<Y.heap.size;have:=jo.out.size;omega)).trans n0
    have p1:X1.cell? ⟨Y.heap.size,0,none⟩=some (.slice ra fe.length rc):=Nr.cell 0 (by simp)
    have adi:Hid (X1.heap.size=Y.heap.size+1):=hide (by rw[←hX1];simp)
    have Gb:=hide Qc
    have DL:=hide Nr
    clear adg hru adh hfe hrr hmk afs Qc Nr
    go_upto_region 14 with fail
    (try rw[hX1])
    clear hX1 m0 n0 f0
    by_cases c1:k=bn
    ·have HE:Hid (Aw A B at_ sg.fields (k+1)=Aw A B at_ sg.fields k++[ah tx]):=by rw[HST.out];unfold fx;rw[if_pos (by omega),Rw.out];trivial
     have PX:=hide (MX tx X1 (by omega))
     have t0:X1.cell? ⟨X4.heap.size,B,none⟩=some (.string tx):=(Gb.out.cell (p:=⟨X4.heap.size,B,none⟩) (by show X4.heap.size<Y.heap.size;have:=jo.out.size;have:=Yc.out;omega)).trans ((jo.out.cell (p:=⟨X4.heap.size,B,none⟩) (by show X4.heap.size<X5.heap.size;have:=Yc.out;omega)).trans HTB.out)
     subst c1
     have k1:((k:Int) == (k:Int))=true:=by simp
     go_wp2_with fail
     have sX1:=adi.out
     refine PX.out.mono ?_
     rintro e U ⟨u2,rfl,bs,hO,_,hbs,xg⟩
     have dP:=DL.out.below xg
     obtain⟨Mq,Mr,rfl,_⟩:=bS.form hO
     have hRU:gL X1.heap.size U (.slice Mq (ah tx).length Mr) (ah tx):=bS.pO oC hO hbs
     obtain⟨U2,Hl⟩:∃x,U.setCell ⟨Y.heap.size,0,none⟩ (.slice Mq (ah tx).length Mr)=x:=⟨_,rfl⟩
     have TM:gL X1.heap.size U2 (.slice Mq (ah tx).length Mr) (ah tx):=by
      rw[←Hl]
      exact At.same iQ hRU ⟨by rw[Deep.nblk_setCell];exact aS _,fun d h1 _=>Deep.blk_setCell_other _ ⟨Y.heap.size,0,none⟩ _ d (by dsimp only;omega)⟩
     have Ye:Below Y.heap.size Y U2:=by rw[←Hl];exact(aJ xg Gb.out).setCell (p:=⟨Y.heap.size,0,none⟩) (aS _) _
     have WV:aU U2 Y.heap.size 57 #[.slice Mq (ah tx).length Mr]:=by rw[←Hl];have:=dP.set 0 (.slice Mq (ah tx).length Mr);simpa using this
     obtain⟨a1,kc1,Z1,hr1,hF1⟩:=(Uh.out.below Ye).new (ah tx) (.slice Mq (ah tx).length Mr) TM (by have:=jo.out.size;have:=nC.out;omega) (fun b hb=>by have:=(HOWN.out b hb).2;omega) (sj A B at_ sg.fields k) (by omega)
     have Pw:=hide hF1
     have p0:U.cell? ⟨Y.heap.size,0,none⟩=some (.slice ra fe.length rc):=dP.cell 0 (by simp)
     have pf:U.frozen? ⟨Y.heap.size,0,none⟩=false:=dP.frozen 0
     have pl:Y.heap.size<U.heap.size:=dP.lt
     have p2:U2.cell? ⟨Y.heap.size,0,none⟩=some (.slice Mq (ah tx).length Mr):=WV.cell 0 (by simp)
     have HU2:=hide Hl
     clear hF1 hO hbs xg hRU TM Ye WV dP t0 m1 n1 p1 sX1
     go_upto_region 16 with fail
     (try rw[Hl])
     clear Hl p0 pf pl
     go_wp2_with (first|(at_builtin;refine bH rfl _ _ 52 rfl hr1 (by first|rfl|simp[Act.eval,Act.put]) (by first|rfl|simp[Act.eval,Act.put]) ?_))
     go_roundg (sg.fields.length - (k+1))
     case measure=>omega
     case rel=>exact⟨k+1,_,_,by omega,rfl,rfl,by go_num,by rw[HE.out];exact Pw.out⟩
    ·have k1:((k:Int) == (bn:Int))=false:=by simp;omega
     by_cases c2:at_=0
     ·have k2:((at_:Int) == 0)=true:=by simp;omega
      by_cases c3:k=6+B3
      ·have k3:((k:Int) == 6+(B3:Int))=true:=by simp;omega
       by_cases c4:k=6+A3
       ·have HE:Hid (Aw A B at_ sg.fields (k+1)=Aw A B at_ sg.fields k++[ah tx]):=by rw[HST.out];unfold fx;rw[if_pos (by omega),Rw.out];trivial
        have PX:=hide (MX tx X1 (by omega))
        have t0:X1.cell? ⟨X4.heap.size,B,none⟩=some (.string tx):=(Gb.out.cell (p:=⟨X4.heap.size,B,none⟩) (by show X4.heap.size<Y.heap.size;have:=jo.out.size;have:=Yc.out;omega)).trans ((jo.out.cell (p:=⟨X4.heap.size,B,none⟩) (by show X4.heap.size<X5.heap.size;have:=Yc.out;omega)).trans HTB.out)
        have k4:((k:Int) == 6+(A3:Int))=true:=by simp;omega
        clear c1 c2 c3 c4
        go_wp2_with fail
        have sX1:=adi.out
        refine PX.out.mono ?_
        rintro e U ⟨u2,rfl,bs,hO,_,hbs,xg⟩
        have dP:=DL.out.below xg
        obtain⟨Mq,Mr,rfl,_⟩:=bS.form hO
        have hRU:gL X1.heap.size U (.slice Mq (ah tx).length Mr) (ah tx):=bS.pO oC hO hbs
        obtain⟨U2,Hl⟩:∃x,U.setCell ⟨Y.heap.size,0,none⟩ (.slice Mq (ah tx).length Mr)=x:=⟨_,rfl⟩
        have TM:gL X1.heap.size U2 (.slice Mq (ah tx).length Mr) (ah tx):=by
         rw[←Hl]
         exact At.same iQ hRU ⟨by rw[Deep.nblk_setCell];exact aS _,fun d h1 _=>Deep.blk_setCell_other _ ⟨Y.heap.size,0,none⟩ _ d (by dsimp only;omega)⟩
        have Ye:Below Y.heap.size Y U2:=by rw[←Hl];exact(aJ xg Gb.out).setCell (p:=⟨Y.heap.size,0,none⟩) (aS _) _
        have WV:aU U2 Y.heap.size 57 #[.slice Mq (ah tx).length Mr]:=by rw[←Hl];have:=dP.set 0 (.slice Mq (ah tx).length Mr);simpa using this
        obtain⟨a1,kc1,Z1,hr1,hF1⟩:=(Uh.out.below Ye).new (ah tx) (.slice Mq (ah tx).length Mr) TM (by have:=jo.out.size;have:=nC.out;omega) (fun b hb=>by have:=(HOWN.out b hb).2;omega) (sj A B at_ sg.fields k) (by omega)
        have Pw:=hide hF1
        have p0:U.cell? ⟨Y.heap.size,0,none⟩=some (.slice ra fe.length rc):=dP.cell 0 (by simp)
        have pf:U.frozen? ⟨Y.heap.size,0,none⟩=false:=dP.frozen 0
        have pl:Y.heap.size<U.heap.size:=dP.lt
        have p2:U2.cell? ⟨Y.heap.size,0,none⟩=some (.slice Mq (ah tx).length Mr):=WV.cell 0 (by simp)
        have HU2:=hide Hl
        clear hF1 hO hbs xg hRU TM Ye WV dP t0 m1 n1 p1 sX1
        go_upto_region 16 with fail
        (try rw[Hl])
        clear Hl p0 pf pl
        go_wp2_with (first|(at_builtin;refine bH rfl _ _ 52 rfl hr1 (by first|rfl|simp[Act.eval,Act.put]) (by first|rfl|simp[Act.eval,Act.put]) ?_))
        go_roundg (sg.fields.length - (k+1))
        case measure=>omega
        case rel=>exact⟨k+1,_,_,by omega,rfl,rfl,by go_num,by rw[HE.out];exact Pw.out⟩
       ·have HE:Hid (Aw A B at_ sg.fields (k+1)=Aw A B at_ sg.fields k++[fe]):=by rw[HST.out];unfold fx;rw[if_neg (by omega)];trivial
        obtain⟨a1,kc1,Z1,hr1,hF1⟩:=(Uh.out.below Gb.out).old fe (.slice ra fe.length rc) NS.out (aS _) (sj A B at_ sg.fields k) (by omega)
        have Pw:=hide hF1
        clear hF1
        have k4:((k:Int) == 6+(A3:Int))=false:=by simp;omega
        clear c1 c2 c3 c4
        go_wp2_with (first|(at_builtin;refine bH rfl _ _ 52 rfl hr1 (by first|rfl|simp[Act.eval,Act.put]) (by first|rfl|simp[Act.eval,Act.put]) ?_))
        go_roundg (sg.fields.length - (k+1))
        case measure=>omega
        case rel=>exact⟨k+1,_,_,by omega,rfl,rfl,by go_num,by rw[HE.out];exact Pw.out⟩
      ·have HE:Hid (Aw A B at_ sg.fields (k+1)=Aw A B at_ sg.fields k++[fe]):=by rw[HST.out];unfold fx;rw[if_neg (by omega)];trivial
       obtain⟨a1,kc1,Z1,hr1,hF1⟩:=(Uh.out.below Gb.out).old fe (.slice ra fe.length rc) NS.out (aS _) (sj A B at_ sg.fields k) (by omega)
       have Pw:=hide hF1
       clear hF1
       have k3:((k:Int) == 6+(B3:Int))=false:=by simp;omega
       clear c1 c2 c3
       go_wp2_with (first|(at_builtin;refine bH rfl _ _ 52 rfl hr1 (by first|rfl|simp[Act.eval,Act.put]) (by first|rfl|simp[Act.eval,Act.put]) ?_))
       go_roundg (sg.fields.length - (k+1))
       case measure=>omega
       case rel=>exact⟨k+1,_,_,by omega,rfl,rfl,by go_num,by rw[HE.out];exact Pw.out⟩
     ·have HE:Hid (Aw A B at_ sg.fields (k+1)=Aw A B at_ sg.fields k++[fe]):=by rw[HST.out];unfold fx;rw[if_neg (by omega)];trivial
      obtain⟨a1,kc1,Z1,hr1,hF1⟩:=(Uh.out.below Gb.out).old fe (.slice ra fe.length rc) NS.out (aS _) (sj A B at_ sg.fields k) (by omega)
      have Pw:=hide hF1
      clear hF1
      have k2:((at_:Int) == 0)=false:=by simp;omega
      clear c1 c2
      go_wp2_with (first|(at_builtin;refine bH rfl _ _ 52 rfl hr1 (by first|rfl|simp[Act.eval,Act.put]) (by first|rfl|simp[Act.eval,Act.put]) ?_))
      go_roundg (sg.fields.length - (k+1))
      case measure=>omega
      case rel=>exact⟨k+1,_,_,by omega,rfl,rfl,by go_num,by rw[HE.out];exact Pw.out⟩
   ·have hki:¬(k:Int)<(sg.fields.length:Int):=by omega
    obtain rfl:k=sg.fields.length:=by omega
    have HFS:=hide (Uh.out.fields (lo:=X2.heap.size) nC.out (by rw[sj];omega))
    have zY:=hide (TL.out.below jo.out)
    have HMY:=hide (HM5.out.below jo.out)
    have nA:=hide (aj jo.out Av.out)
    obtain⟨V0,hV0⟩:∃x,Y.alloc (Obj.cells #[] 54)=x:=⟨_,rfl⟩
    have afu:Hid (SL Y X2.heap.size V0 (.slice (some ⟨Y.heap.size,0,none⟩) 0 0) []):=by rw[←hV0];exact SL.start _ _
    have afv:W3.heap.size<Y.heap.size:=by have:=jo.out.size;omega
    have afw:Hid (X2.heap.size≤Y.heap.size):=Nat.le_trans nC.out jo.out.size
    go_wp2_with fail
    (try rw[hV0])
    clear hV0 m0 n0
    go_loopg [17,18] m.length (fun q s i wr=>∃(k:Nat) (a:Option Addr) (c:Nat),k≤m.length∧q=m.length - k∧s=.slice a k c∧i=.int .i64 (k:Int)∧SL Y X2.heap.size wr (.slice a k c) (rq A B at_ m k))
    case atStart=>exact⟨0,_,_,eH _,rfl,rfl,rfl,afu.out⟩
    case round =>
     obtain⟨k,a9,c9,hk,rfl,rfl,rfl,hSL⟩:=hrel
     obtain⟨Z,rfl⟩:∃x,x=wr:=⟨_,rfl⟩
     have HSL:=hide hSL
     have sU:Hid (Below Y.heap.size Y Z):=by obtain⟨_,_,_,h⟩:=hSL;exact h
     clear hSL
     have m0:Z.cell? ⟨W3.heap.size,0,none⟩=some (.slice (some ⟨bm,om,none⟩) m.length cm):=(sU.out.cell (p:=⟨W3.heap.size,0,none⟩) afv).trans (HMY.out.cell 0 (by simp))
     by_cases hlt:k<m.length
     ·have hki:(k:Int)<(m.length:Int):=by omega
      obtain⟨bm',om',ebm,Ic,adj,d0,dz',fv',d1,hf'⟩:=YS.out k hlt
      injection ebm with ebm
      injection ebm with e1 e2
      subst e1 e2
      obtain⟨ga,gc,rfl,_⟩:=At.form hf'
      obtain⟨s2,hs2⟩:∃s,m[k]=s:=⟨_,rfl⟩
      rw[hs2] at d0 dz' d1 hf'
      have hmk:m.getD k lV=s2:=by rw[List.getD_eq_getElem?_getD,List.getElem?_eq_getElem hlt,hs2];rfl
      have HF2:=hide (At.kept aP hf' jo.out)
      have e0:Z.cell? ⟨bm,om+k * 2,none⟩=some (.string s2.name):=(sU.out.cell (p:=⟨bm,om+k * 2,none⟩) (by show bm<Y.heap.size;have:=jo.out.size;omega)).trans ((jo.out.cell (p:=⟨bm,om+k * 2,none⟩) adj).trans d0)
      have e1:Z.cell? ⟨bm,om+k * 2+1,none⟩=some (.slice ga s2.fields.length gc):=(sU.out.cell (p:=⟨bm,om+k * 2+1,none⟩) (by show bm<Y.heap.size;have:=jo.out.size;omega)).trans ((jo.out.cell (p:=⟨bm,om+k * 2+1,none⟩) adj).trans d1)
      have HST:Hid (rq A B at_ m (k+1)=rq A B at_ m k++[if k=at_ then ⟨s2.name,Aw A B at_ sg.fields sg.fields.length⟩ else s2]):=by show rq A B at_ m k++[_]=_;rw[hmk,HMK.out]
      obtain⟨X1,hX1⟩:∃x,Z.alloc (Obj.cells #[.string s2.name,.slice ga s2.fields.length gc] 54)=x:=⟨_,rfl⟩
      have Qc:Below Z.heap.size Z X1:=by rw[←hX1];exact aO _ _
      have Nr:aU X1 Z.heap.size 54 #[.string s2.name,.slice ga s2.fields.length gc]:=by rw[←hX1];exact aU.new _ _ _
      clear hs2 hmk hf' d0 d1 Ic
      by_cases Wu:k=at_
      ·subst Wu
       have HE:Hid (rq A B k m (k+1)=rq A B k m k++[⟨s2.name,Aw A B k sg.fields sg.fields.length⟩]):=by rw[HST.out,if_pos rfl];trivial
       obtain⟨U2,Hl⟩:∃x,(X1.setCell ⟨Z.heap.size,0,none⟩ (.string s2.name)).setCell ⟨Z.heap.size,1,none⟩ (.slice a sg.fields.length c)=x:=⟨_,rfl⟩
       have Ye:Below Z.heap.size Z U2:=by rw[←Hl];exact(Qc.setCell (p:=⟨Z.heap.size,0,none⟩) (aS _) _).setCell (p:=⟨Z.heap.size,1,none⟩) (aS _) _
       have WV:aU U2 Z.heap.size 54 #[.string s2.name,.slice a sg.fields.length c]:=by rw[←Hl];have:=(Nr.set 0 (.string s2.name)).set 1 (.slice a sg.fields.length c);simpa using this
       obtain⟨a1,kc1,Z1,hr1,hS1⟩:=(HSL.out.below Ye).old ⟨s2.name,Aw A B k sg.fields sg.fields.length⟩ (.slice a sg.fields.length c) dz' HFS.out (aS _) (GR A B k m k) (by omega)
       have zx:=hide hS1
       have p0:X1.cell? ⟨Z.heap.size,0,none⟩=some (.string s2.name):=Nr.cell 0 (by simp)
       have p1:X1.cell? ⟨Z.heap.size,1,none⟩=some (.slice ga s2.fields.length gc):=Nr.cell 1 (by simp)
       have pf0:X1.frozen? ⟨Z.heap.size,0,none⟩=false:=Nr.frozen 0
       have pf1:X1.frozen? ⟨Z.heap.size,1,none⟩=false:=Nr.frozen 1
       have pl:Z.heap.size<X1.heap.size:=Nr.lt
       have q0:U2.cell? ⟨Z.heap.size,0,none⟩=some (.string s2.name):=WV.cell 0 (by simp)
       have q1:U2.cell? ⟨Z.heap.size,1,none⟩=some (.slice a sg.fields.length c):=WV.cell 1 (by simp)
       clear hS1 Qc Nr Ye WV
       go_upto_region 22 with fail
       (try rw[hX1])
       clear hX1
       go_upto_region 24 with fail
       (try rw[Hl])
       clear Hl p0 p1 pf0 pf1 pl
       go_wp2_with (first|(at_builtin;refine bH rfl _ _ 26 rfl hr1 (by first|rfl|simp[Act.eval,Act.put]) (by first|rfl|simp[Act.eval,Act.put]) ?_))
       go_roundg (m.length - (k+1))
       case measure=>omega
       case rel=>exact⟨k+1,_,_,by omega,rfl,rfl,by go_num,by rw[HE.out];exact zx.out⟩
      ·have adf:¬(k:Int)=(at_:Int):=by omega
       have HE:Hid (rq A B at_ m (k+1)=rq A B at_ m k++[s2]):=by rw[HST.out,if_neg Wu];trivial
       obtain⟨a1,kc1,Z1,hr1,hS1⟩:=(HSL.out.below Qc).old s2 (.slice ga s2.fields.length gc) dz' HF2.out (aS _) (GR A B at_ m k) (by omega)
       have zx:=hide hS1
       have p0:X1.cell? ⟨Z.heap.size,0,none⟩=some (.string s2.name):=Nr.cell 0 (by simp)
       have p1:X1.cell? ⟨Z.heap.size,1,none⟩=some (.slice ga s2.fields.length gc):=Nr.cell 1 (by simp)
       clear hS1 Qc Nr
       go_upto_region 22 with fail
       (try rw[hX1])
       clear hX1
       go_wp2_with (first|(at_builtin;refine bH rfl _ _ 26 rfl hr1 (by first|rfl|simp[Act.eval,Act.put]) (by first|rfl|simp[Act.eval,Act.put]) ?_))
       go_roundg (m.length - (k+1))
       case measure=>omega
       case rel=>exact⟨k+1,_,_,by omega,rfl,rfl,by go_num,by rw[HE.out];exact zx.out⟩
     ·have hki:¬(k:Int)<(m.length:Int):=by omega
      obtain rfl:k=m.length:=by omega
      have hQ:=zY.out.below sU.out
      have r0:Z.cell? ⟨w.heap.size,0,none⟩=some (.slice none 0 0):=hQ.cell 0 (by simp)
      have rf:Z.frozen? ⟨w.heap.size,0,none⟩=false:=hQ.frozen 0
      have rl:w.heap.size<Z.heap.size:=hQ.lt
      have jG:Hid (∀x,aX w.heap.size (Z.setCell ⟨w.heap.size,0,none⟩ x) (.slice a9 m.length c9) r9∧Below w.heap.size w (Z.setCell ⟨w.heap.size,0,none⟩ x)):=fun x=>by
       refine⟨?_,(aj sU.out nA.out).setCell (p:=⟨w.heap.size,0,none⟩) (aS _) x⟩
       rw[←HX.out]
       exact pI (Nat.le_of_lt Ay.out) Ay.out (HSL.out.kg afw.out (by rw[GR];omega)) x
      clear hQ
      go_wp2_with fail
      exact bodyPost_ret (v:=.agg #[.slice a9 m.length c9]) (by simp[results,Tryz.results16,go_sem,r0,rl]) rfl ⟨_,rfl,(jG.out _).1,(jG.out _).2⟩
 ·by_cases h11:how=11
  ·have HX:Hid (wu cs=r9):=by have:=xZ.out;rw[if_neg (by omega),if_pos h11] at this;exact this
   subst h11
   have HD:=hide (HDE.out X5 Av.out)
   clear r0 rf rl hin
   go_wp2_with fail
   refine HD.out.mono ?_
   rintro e z ⟨u,rfl,hu,hbz⟩
   rw[HX.out] at hu
   obtain⟨ua,uc,rfl,_⟩:=hu.form
   have hQ:=TL.out.below hbz
   have r0:z.cell? ⟨w.heap.size,0,none⟩=some (.slice none 0 0):=hQ.cell 0 (by simp)
   have rf:z.frozen? ⟨w.heap.size,0,none⟩=false:=hQ.frozen 0
   have rl:w.heap.size<z.heap.size:=hQ.lt
   have HU2:=hide hu
   have sU:=hide (aj hbz Av.out)
   have adk:Hid (w.heap.size<X5.heap.size):=TL.out.lt
   clear hu hQ hbz m0
   go_wp2_with fail
   exact bodyPost_ret (v:=.agg #[.slice ua r9.length uc]) (by simp[results,Tryz.results16,go_sem,r0,rl]) rfl ⟨_,rfl,pI (L:=X5.heap.size) (Nat.le_of_lt adk.out) adk.out HU2.out _,sU.out.setCell (p:=⟨w.heap.size,0,none⟩) (aS _) _⟩
  ·have HX:Hid (m=r9):=by have:=xZ.out;rw[if_neg hin,if_neg h11] at this;exact this
   have ahu:¬(how:Int)=11:=by omega
   have jG:Hid (∀x,aX w.heap.size (X5.setCell ⟨w.heap.size,0,none⟩ x) (.slice am m.length cm) r9∧Below w.heap.size w (X5.setCell ⟨w.heap.size,0,none⟩ x)):=fun x=>by
    refine⟨?_,Av.out.setCell (p:=⟨w.heap.size,0,none⟩) (aS _) x⟩
    rw[←HX.out]
    exact pI (Nat.le_of_lt Ay.out) Ay.out HU5.out x
   by_cases h8:8≤how
   ·have h8i:(how:Int) ≥ 8:=by omega
    by_cases h12:how<11
    ·have aaF:(how:Int)<11:=by omega
     have hm1:¬(m.length:Int) > 1:=by omega
     clear hin
     go_wp2_with fail
     exact bodyPost_ret (v:=.agg #[.slice am m.length cm]) (by simp[results,Tryz.results16,go_sem,r0,rl]) rfl ⟨_,rfl,(jG.out _).1,(jG.out _).2⟩
    ·omega
   ·have h8i:¬(how:Int) ≥ 8:=by omega
    clear hin
    go_wp2_with fail
    exact bodyPost_ret (v:=.agg #[.slice am m.length cm]) (by simp[results,Tryz.results16,go_sem,r0,rl]) rfl ⟨_,rfl,(jG.out _).1,(jG.out _).2⟩
end Go.Proofs.YtfdihjnlgdiioaaGreatDoor.dB
