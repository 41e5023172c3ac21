import Derived.Test.YtfdihjnlgdiioaaGreatDoorG42
namespace Go.Proofs.YtfdihjnlgdiioaaGreatDoor.dB
open Go.ChangeShapes Go.WideShapes Go.ChangeAt Go.RowKit
set_option linter.unusedVariables false
set_option linter.unusedSimpArgs false
def SL (W0:World) (lo:Nat) (X:World) (v:Value) (xs:List Seg):Prop:=∃ps,FB QW 2 54 W0.heap.size X v ps∧AO lo X v ps xs∧Below W0.heap.size W0 X
theorem SL.start (W0:World) (lo:Nat):SL W0 lo (W0.alloc (.cells #[] 54)) (.slice (some ⟨W0.heap.size,0,none⟩) 0 0) [] :=
 ⟨[],FB.lit _ _ _ _,wI.nil _ _ _ _ _ _,aO _ _⟩
theorem SL.below {W0:World} {lo:Nat} {X X':World} {v:Value} {xs:List Seg} (h:SL W0 lo X v xs) (hb:Below X.heap.size X X'):SL W0 lo X' v xs:=by
 obtain⟨ps,h1,h2,h3⟩:=h
 exact⟨ps,h1.below hb,h2.below hb,aj hb h3⟩
theorem SL.cap {W0:World} {lo:Nat} {X:World} {v:Value} {xs:List Seg} (h:SL W0 lo X v xs):O5 v:=by
 obtain⟨ps,h1,h2,h3⟩:=h
 exact AZ h1
theorem SL.kg {W0:World} {lo:Nat} {X:World} {v:Value} {xs:List Seg} (h:SL W0 lo X v xs) (hl:lo≤W0.heap.size) (hz:xs.length≤9223372036854775807):aX lo X v xs:=by
 obtain⟨ps,h1,h2,h3⟩:=h
 exact Ve h1 h2 hl (by rw[h2.1];exact hz)
theorem SL.own {W0:World} {lo:Nat} {X:World} {v:Value} {xs:List Seg} (h:SL W0 lo X v xs):∀b,v.ownBlock=some b→W0.heap.size≤b∧b<X.heap.size:=by
 obtain⟨ps,h1,h2,h3⟩:=h
 exact fun b hb=>h1.own b (by rw[hb];simp)
theorem SL.more {W0:World} {lo n:Nat} {X:World} {v:Value} {xs:List Seg} (h:SL W0 lo X v xs) (s:Seg) (u:Value) (hs:s.name.size≤9223372036854775807) (hu:KU Vd lo X v u s) (h1:QV u) (hn:xs.length=n) (hl:n≤100000) :
  ∃a' c' w',(Builtin.append_ #[26,26] 26 #[v,.slice (some ⟨X.heap.size,0,none⟩) 1 1]).run Tryz.prog (X.alloc (.cells #[.string s.name,u] 54))=.ok (.slice a' (n+1) c') w'∧SL W0 lo w' (.slice a' (n+1) c') (xs++[s]):=by
 have hown:=h.own
 obtain⟨ps,g1,g2,g3⟩:=h
 obtain⟨a',c',w',hr,hF,hI,ho⟩:=QY g1 g2 s u hs hu h1 g3.size (by rw[g2.1];exact hn) hl
 exact⟨a',c',w',hr,_,hF,hI,g3.trans (ho.below g3.size fun d hd=>(hown d (by simpa using hd)).1)⟩
theorem SL.old {W0:World} {lo L n:Nat} {X:World} {v:Value} {xs:List Seg} (h:SL W0 lo X v xs) (s:Seg) (u:Value) (hs:s.name.size≤9223372036854775807) (hu:aG L W0 u s.fields) (hL:lo≤L) (hn:xs.length=n) (hl:n≤100000) :
  ∃a' c' w',(Builtin.append_ #[26,26] 26 #[v,.slice (some ⟨X.heap.size,0,none⟩) 1 1]).run Tryz.prog (X.alloc (.cells #[.string s.name,u] 54))=.ok (.slice a' (n+1) c') w'∧SL W0 lo w' (.slice a' (n+1) c') (xs++[s]):=by
 have hown:=h.own
 obtain⟨ps,g1,g2,g3⟩:=id h
 refine h.more s u hs ⟨L,W0,hL,hu,g3.size,fun b h1 h2=>⟨g3.block b h2,fun e=>by have:=(hown b e).1;omega⟩⟩ ?_ hn hl
 obtain⟨a,c,e,_⟩:=At.form hu
 exact⟨a,_,c,e⟩
theorem SL.new {W0:World} {lo L n:Nat} {X:World} {v:Value} {xs:List Seg} (h:SL W0 lo X v xs) (s:Seg) (u:Value) (hs:s.name.size≤9223372036854775807) (hu:aG L X u s.fields) (hL:lo≤L) (hv:∀b,v.ownBlock=some b→b<L) (hn:xs.length=n) (hl:n≤100000) :
  ∃a' c' w',(Builtin.append_ #[26,26] 26 #[v,.slice (some ⟨X.heap.size,0,none⟩) 1 1]).run Tryz.prog (X.alloc (.cells #[.string s.name,u] 54))=.ok (.slice a' (n+1) c') w'∧SL W0 lo w' (.slice a' (n+1) c') (xs++[s]):=by
 refine h.more s u hs (KU.new (A:=Vd) hu hL fun b hb=>.inl (hv b hb)) ?_ hn hl
 obtain⟨a,c,e,_⟩:=At.form hu
 exact⟨a,_,c,e⟩
theorem TJ (r:jM):(fE r).length≤250:=by
 rcases qd r with h|⟨h,_⟩
 ·rw[h];exact eH _
 ·unfold dW jZ at h
  simp only[Bool.and_eq_true,decide_eq_true_eq] at h
  exact h.1.2.1
theorem aaA (a k:Nat) (s:Seg) (h:k=a):Nl 12 a k s=[s]++[s]:=by unfold Nl;rw[if_pos ⟨h,rfl⟩,if_pos (.inr (by decide)),if_neg (by simp)];rfl
theorem aaB (a k:Nat) (s:Seg) (h:k=a):Nl 13 a k s=[]:=by unfold Nl;rw[if_neg (by simp),if_neg (by simp[h]),if_neg (by simp)];rfl
theorem aaC (a k:Nat) (s:Seg) (h:k=a):Nl 14 a k s=[s]++[qh]:=by unfold Nl;rw[if_neg (by simp),if_pos (.inr (by decide)),if_pos ⟨h,rfl⟩];rfl
theorem aaD (how a k:Nat) (s:Seg) (h:k≠a):Nl how a k s=[s]:=by unfold Nl;rw[if_neg (by simp[h]),if_pos (.inl h),if_neg (by simp[h])];rfl
set_option maxRecDepth 100000 in
set_option maxHeartbeats 16000000 in
theorem Mi (cs:List UInt8) (v:Value) (w:World) {lo:Nat} (hv:iU lo w v cs) (hl:cs.length≤1048576) :
  Calls Tryz.prog 18 #[v] w fun e w'=>∃u,e=.returned (.agg #[u])∧(aX w.heap.size w' u (Pq cs)∧O5 u)∧Below w.heap.size w w':=by
 have HV:=hide hv
 obtain⟨va,vc,rfl,_⟩:=fO hv
 obtain⟨x1,hx1⟩:∃x,w.alloc (Obj.cells #[.slice none 0 0] 28)=x:=⟨_,rfl⟩
 have bN:x1.heap.size=w.heap.size+1:=by rw[←hx1];simp
 have bx1:Below w.heap.size w x1:=by rw[←hx1];exact aO _ _
 have HR1:Hid (aU x1 w.heap.size 28 #[.slice none 0 0]):=by rw[←hx1];exact aU.new _ _ _
 have HT1:=hide (fJ cs (.slice va cs.length vc) 0 16 x1 (At.kept bJ HV.out bx1) hl (by decide) (by decide))
 have HDR:=hide (Aa cs (.slice va cs.length vc) 1 x1 (At.kept bJ HV.out bx1) hl (by decide))
 have HDE:=hide (fun W (h:Below w.heap.size w W)=>sI cs (.slice va cs.length vc) W (At.kept bJ HV.out h) hl)
 have Li:=hide (fun W (h:Below w.heap.size w W) (q n:Nat) (hq:q≤4194304) (hn:n≤1048576)=>fJ cs (.slice va cs.length vc) q n W (At.kept bJ HV.out h) hl hq hn)
 obtain⟨r9,SG⟩:∃r,Pq cs=r:=⟨_,rfl⟩
 have xZ:=hide SG
 rw[SG]
 unfold Pq at xZ
 have hA:=jK cs 0 16 (by decide)
 have hq:=jK cs (1+2) 6 (by decide)
 have hqe:rY cs 1=1+4+2 * tk cs (1+2) 6:=rfl
 have GA:rY cs 1≤100:=by omega
 have HRM:=hide (Mg (gF cs 1))
 have hml:=TJ (gF cs 1)
 obtain⟨hz0,hz1,hz2,hz3,MZ⟩:=J5 cs 1
 obtain⟨how,Al⟩:∃a,tk cs 0 16=a:=⟨_,rfl⟩
 obtain⟨q,hqq⟩:∃a,rY cs 1=a:=⟨_,rfl⟩
 have HTQ:=hide (fun n=>(rfl:tk cs q n=tk cs q n))
 obtain⟨AT,hAT⟩:∃a,tk cs q (fE (gF cs 1)).length=a:=⟨_,rfl⟩
 obtain⟨m,hm⟩:∃m,fE (gF cs 1)=m:=⟨_,rfl⟩
 rw[Al] at HT1 xZ hA
 rw[hqq] at HDR xZ GA
 rw[hAT,hm] at xZ
 rw[hm] at HRM hml hAT
 obtain⟨r,hr⟩:∃r,gF cs 1=r:=⟨_,rfl⟩
 rw[hr] at HDR hm hz0 hz1 hz2 hz3 MZ
 have DK:=hide (fun(a:Option Addr) (c lo:Nat) (W:World) (h:bq lo W (.slice a r.rows.length c) r.rows)=>uI r a c W (by omega) (by omega) (by omega) (by omega) h)
 rw[hm] at DK
 obtain⟨ack,control,code,tag,rows,pointer⟩:=r
 have aaE:Hid (Calls Tryz.prog 36 #[.slice va cs.length vc,.int .i64 1] x1 (L8 x1 ⟨ack,control,code,tag,rows,pointer⟩ q)):=HDR.out
 unfold gU at DK
 dsimp only at DK
 have Ur:=hide hx1
 have HB1:=hide bx1
 have UA:=hide bN
 have afk:=hide hAT
 have c01:((0+1:Nat):Int)=1:=rfl
 have c0:((0:Nat):Int)=0:=rfl
 rw[c0,c01] at HT1
 clear hv SG hr hm hx1 bx1 bN c01 c0 Al hqq hAT HDR hz0 hz1 hz2 hz3 MZ hq hqe HTQ
 go_enter Tryz.func18,Tryz.ntmps18
 go_wp2_with fail
 rw[Ur.out]
 refine HT1.out.mono ?_
 rintro e y ⟨rfl,hy⟩
 (try rw[hy])
 clear hy y
 go_wp2_with fail
 refine aaE.out.mono ?_
 rintro e W1 ⟨u,rfl,hs,hb1⟩
 obtain⟨au,cu,rfl,_⟩:=hs.form
 unfold gU
 dsimp only at hs ⊢
 obtain⟨nr,hnr⟩:∃q,rows.length=q:=⟨_,rfl⟩
 rw[hnr] at hs DK ⊢
 have HR2:=hide (HR1.out.below hb1)
 obtain⟨X2,hX2⟩:∃x,W1.alloc (Obj.cells #[.string ack,.string control,.int .i64 code,.string tag,.slice au nr cu,.string pointer] 38)=x:=⟨_,rfl⟩
 have b2:Below W1.heap.size W1 X2:=by rw[←hX2];exact aO _ _
 have HW2:=hide (DK.out au cu _ X2 (At.kept bE hs b2))
 have HB2:=hide (aj b2 (aj hb1 HB1.out))
 have HR3:=hide (HR2.out.below b2)
 have oq:Hid (aU X2 W1.heap.size 38 #[.string ack,.string control,.int .i64 code,.string tag,.slice au nr cu,.string pointer]):=by rw[←hX2];exact aU.new _ _ _
 have HS2:Hid (x1.heap.size≤X2.heap.size):=Nat.le_trans hb1.size b2.size
 clear hs hb1 b2 hnr
 go_upto_region 3 with fail
 (try rw[hX2])
 clear hX2
 have c0:X2.cell? ⟨W1.heap.size,0,none⟩=some (.string ack):=oq.out.cell 0 (by simp)
 have c1:X2.cell? ⟨W1.heap.size,1,none⟩=some (.string control):=oq.out.cell 1 (by simp)
 have c2:X2.cell? ⟨W1.heap.size,2,none⟩=some (.int .i64 code):=oq.out.cell 2 (by simp)
 have c3:X2.cell? ⟨W1.heap.size,3,none⟩=some (.string tag):=oq.out.cell 3 (by simp)
 have c4:X2.cell? ⟨W1.heap.size,4,none⟩=some (.slice au nr cu):=oq.out.cell 4 (by simp)
 have c5:X2.cell? ⟨W1.heap.size,5,none⟩=some (.string pointer):=oq.out.cell 5 (by simp)
 go_wp2_with fail
 refine HW2.out.mono ?_
 rintro e W3 ⟨u3,rfl,⟨hu3,hc3⟩,hb3⟩
 obtain⟨am,cm,rfl,_⟩:=hu3.form
 have HR4:=hide (HR3.out.below hb3)
 obtain⟨X4,Ja⟩:∃x,W3.alloc (Obj.cells #[.slice am m.length cm] 28)=x:=⟨_,rfl⟩
 have b4:Below W3.heap.size W3 X4:=by rw[←Ja];exact aO _ _
 have Mj:Hid (aU X4 W3.heap.size 28 #[.slice am m.length cm]):=by rw[←Ja];exact aU.new _ _ _
 have HU:=hide (At.kept bA hu3 b4)
 have HC:=hide hc3
 have o7:=hide (aj b4 (aj hb3 HB2.out))
 have Np:=hide (HR4.out.below b4)
 have h13:W3.heap.size<X4.heap.size:=Mj.out.lt
 have nC:Hid (x1.heap.size≤X4.heap.size∧X2.heap.size≤X4.heap.size):=⟨Nat.le_trans HS2.out (Nat.le_trans hb3.size b4.size),Nat.le_trans hb3.size b4.size⟩
 have HTA:=hide (Li.out X4 o7.out q m.length (by omega) (by omega))
 rw[afk.out] at HTA
 clear hu3 hc3 hb3 b4 c0 c1 c2 c3 c4 c5
 go_upto_region 4 with fail
 (try rw[Ja])
 clear Ja
 have m0:X4.cell? ⟨W3.heap.size,0,none⟩=some (.slice am m.length cm):=Mj.out.cell 0 (by simp)
 go_wp2_with fail
 refine HTA.out.mono ?_
 rintro e y ⟨rfl,hy⟩
 (try rw[hy])
 clear hy y
 by_cases h15:how=15
 ·have HX:Hid (wu cs=r9):=by have:=xZ.out;rw[if_pos h15] at this;exact this
  subst h15
  have HD:=hide (HDE.out X4 o7.out)
  go_wp2_with fail
  refine HD.out.mono ?_
  rintro e z ⟨u,rfl,⟨hu,hcu⟩,hbz⟩
  obtain⟨ua,uc,rfl,_⟩:=hu.form
  rw[HX.out] at hu ⊢
  have hQ:=Np.out.below hbz
  have r0:z.cell? ⟨w.heap.size,0,none⟩=some (.slice none 0 0):=hQ.cell 0 (by simp)
  have rf:z.frozen? ⟨w.heap.size,0,none⟩=false:=hQ.frozen 0
  have rl:w.heap.size<z.heap.size:=hQ.lt
  have HU2:=hide hu
  rw[HX.out] at hcu
  have HCU:=hide hcu
  have sU:=hide (aj hbz o7.out)
  have Ay:Hid (w.heap.size<X4.heap.size):=Np.out.lt
  clear hu hcu hQ hbz m0
  go_wp2_with fail
  exact bodyPost_ret (v:=.agg #[.slice ua r9.length uc]) (by simp[results,Tryz.results18,go_sem,r0,rl]) rfl ⟨_,rfl,⟨pI (L:=X4.heap.size) (Nat.le_of_lt Ay.out) Ay.out HU2.out _,HCU.out⟩,sU.out.setCell (p:=⟨w.heap.size,0,none⟩) (aS _) _⟩
 ·have aho:¬(how:Int)=15:=by omega
  have r0:X4.cell? ⟨w.heap.size,0,none⟩=some (.slice none 0 0):=Np.out.cell 0 (by simp)
  have rf:X4.frozen? ⟨w.heap.size,0,none⟩=false:=Np.out.frozen 0
  have rl:w.heap.size<X4.heap.size:=Np.out.lt
  have Ay:Hid (w.heap.size<X2.heap.size):=HR3.out.lt
  by_cases hno:how<12∨m.length=0
  ·have HX:Hid (m=r9):=by have:=xZ.out;rw[if_neg h15,if_pos hno] at this;exact this
   have jG:Hid (∀x,aX w.heap.size (X4.setCell ⟨w.heap.size,0,none⟩ x) (.slice am m.length cm) r9∧Below w.heap.size w (X4.setCell ⟨w.heap.size,0,none⟩ x)):=fun x=>by
    refine⟨?_,o7.out.setCell (p:=⟨w.heap.size,0,none⟩) (aS _) x⟩
    rw[←HX.out]
    exact pI (Nat.le_of_lt Ay.out) Ay.out HU.out x
   by_cases h12:how<12
   ·have aaF:(how:Int)<12:=by omega
    clear hno
    go_wp2_with fail
    exact bodyPost_ret (v:=.agg #[.slice am m.length cm]) (by simp[results,Tryz.results18,go_sem,r0,rl]) rfl ⟨_,rfl,⟨(jG.out _).1,HC.out⟩,(jG.out _).2⟩
   ·have aaF:¬(how:Int)<12:=by omega
    have hm0:(m.length:Int)=0:=by omega
    clear hno
    go_wp2_with fail
    exact bodyPost_ret (v:=.agg #[.slice am m.length cm]) (by simp[results,Tryz.results18,go_sem,r0,rl]) rfl ⟨_,rfl,⟨(jG.out _).1,HC.out⟩,(jG.out _).2⟩
  ·have HX:Hid (Fz how AT m m.length=r9):=by have:=xZ.out;rw[if_neg h15,if_neg hno] at this;exact this
   have aaF:¬(how:Int)<12:=by omega
   have hm0:¬(m.length:Int)=0:=by omega
   have Al:how=12∨how=13∨how=14:=by omega
   have aaG:((m.length:Int) == 0)=false:=by simpa using hm0
   have hcnd:¬((how:Int)<12∨((m.length:Int) == 0)=true):=by rw[aaG];simp;omega
   clear hno
   obtain⟨X5,UD⟩:∃x,X4.alloc (Obj.cells #[] 54)=x:=⟨_,rfl⟩
   have HSL:Hid (SL X4 X2.heap.size X5 (.slice (some ⟨X4.heap.size,0,none⟩) 0 0) []):=by rw[←UD];exact SL.start _ _
   go_wp2_with fail
   (try rw[UD])
   have HX5:=hide UD
   clear UD r0 rf rl m0
   go_loopg [10,11] m.length (fun q s i wr=>∃(k ne:Nat) (a:Option Addr) (c:Nat),k≤m.length∧q=m.length - k∧s=.slice a ne c∧i=.int .i64 (k:Int)∧(Fz how AT m k).length=ne∧SL X4 X2.heap.size wr (.slice a ne c) (Fz how AT m k))
   case atStart=>exact⟨0,0,_,_,eH _,rfl,rfl,rfl,rfl,HSL.out⟩
   case round =>
    obtain⟨k,ne,a,c,hk,rfl,rfl,rfl,hne,hSL⟩:=hrel
    obtain⟨Y,rfl⟩:∃x,x=wr:=⟨_,rfl⟩
    have WU:=hide hSL
    have jo:Hid (Below X4.heap.size X4 Y):=by obtain⟨_,_,_,h⟩:=hSL;exact h
    have K5:=hide hne
    have ahp:ne≤750:=by have:=Nn how AT m k;omega
    clear hSL hne
    have m0:Y.cell? ⟨W3.heap.size,0,none⟩=some (.slice am m.length cm):=(jo.out.cell (p:=⟨W3.heap.size,0,none⟩) h13).trans (Mj.out.cell 0 (by simp))
    by_cases hlt:k<m.length
    ·have hki:(k:Int)<(m.length:Int):=by omega
     obtain⟨am',cm',eam,hel⟩:=At.form HU.out
     injection eam with e1 _ e3
     subst e1 e3
     obtain⟨bm,om,rfl,hbl,EU,d0,dz,fv,d1,hf⟩:=hel k hlt
     obtain⟨fa,fc,rfl,_⟩:=At.form hf
     obtain⟨sg,hsg⟩:∃s,m[k]=s:=⟨_,rfl⟩
     rw[hsg] at d0 dz d1 hf
     have hmk:m.getD k lV=sg:=by rw[List.getD_eq_getElem?_getD,List.getElem?_eq_getElem hlt,hsg];rfl
     have HST:Hid (Fz how AT m (k+1)=Fz how AT m k++Nl how AT k sg):=by show Fz how AT m k++_=_;rw[hmk]
     have HF:=hide hf
     have HD0:=hide d0
     have HD1:=hide d1
     have e0:Y.cell? ⟨bm,om+k * 2,none⟩=some (.string sg.name):=(jo.out.cell (p:=⟨bm,om+k * 2,none⟩) EU).trans d0
     have e1:Y.cell? ⟨bm,om+k * 2+1,none⟩=some (.slice fa sg.fields.length fc):=(jo.out.cell (p:=⟨bm,om+k * 2+1,none⟩) EU).trans d1
     clear hel hsg hmk hf d0 d1 hbl
     obtain⟨a1,c1,Z1,hr1,hS1⟩:=WU.out.old sg (.slice fa sg.fields.length fc) dz HF.out (aS _) K5.out (by omega)
     have zx:=hide hS1
     clear hS1
     by_cases Wu:k=AT
     ·subst Wu
      rcases Al with rfl|rfl|rfl
      ·have HE:Hid (Fz 12 k m (k+1)=Fz 12 k m k++[sg]++[sg]):=by rw[HST.out,aaA _ _ _ rfl,List.append_assoc];trivial
       obtain⟨a2,c2,Z2,hr2,hS2⟩:=zx.out.old sg (.slice fa sg.fields.length fc) dz HF.out (aS _) (n:=ne+1) (by rw[List.length_append,K5.out];rfl) (by omega)
       have TK:Hid (Below X4.heap.size X4 Z1):=by obtain⟨_,_,_,h⟩:=zx.out;exact h
       have m1:Z1.cell? ⟨W3.heap.size,0,none⟩=some (.slice (some ⟨bm,om,none⟩) m.length cm):=(TK.out.cell (p:=⟨W3.heap.size,0,none⟩) h13).trans (Mj.out.cell 0 (by simp))
       have g0:Z1.cell? ⟨bm,om+k * 2,none⟩=some (.string sg.name):=(TK.out.cell (p:=⟨bm,om+k * 2,none⟩) EU).trans HD0.out
       have g1:Z1.cell? ⟨bm,om+k * 2+1,none⟩=some (.slice fa sg.fields.length fc):=(TK.out.cell (p:=⟨bm,om+k * 2+1,none⟩) EU).trans HD1.out
       have aaH:=hide hS2
       clear hS2
       go_wp2_with (first|(at_builtin;refine bH rfl _ _ 26 rfl hr1 (by first|rfl|simp[Act.eval,Act.put]) (by first|rfl|simp[Act.eval,Act.put]) ?_)|(at_builtin;refine bH rfl _ _ 26 rfl hr2 (by first|rfl|simp[Act.eval,Act.put]) (by first|rfl|simp[Act.eval,Act.put]) ?_))
       go_roundg (m.length - (k+1))
       case measure=>omega
       case rel=>exact⟨k+1,ne+1+1,_,_,by omega,rfl,rfl,by go_num,by rw[HE.out,List.length_append,List.length_append,K5.out];rfl,by rw[HE.out];exact aaH.out⟩
      ·have HE:Hid (Fz 13 k m (k+1)=Fz 13 k m k):=by rw[HST.out,aaB _ _ _ rfl,List.append_nil];trivial
       clear hr1 zx
       go_wp2_with fail
       go_roundg (m.length - (k+1))
       case measure=>omega
       case rel=>exact⟨k+1,ne,_,_,by omega,rfl,rfl,by go_num,by rw[HE.out,K5.out],by rw[HE.out];exact WU.out⟩
      ·have HE:Hid (Fz 14 k m (k+1)=Fz 14 k m k++[sg]++[qh]):=by rw[HST.out,aaC _ _ _ rfl,List.append_assoc];trivial
       obtain⟨V,hV⟩:∃x,Z1.alloc (Obj.cells #[.string ⟨#[114,111,119]⟩,.string ⟨#[109,111,114,101]⟩] 9)=x:=⟨_,rfl⟩
       have bV:Below Z1.heap.size Z1 V:=by rw[←hV];exact aO _ _
       have oV:aU V Z1.heap.size 9 #[.string ⟨#[114,111,119]⟩,.string ⟨#[109,111,114,101]⟩]:=by rw[←hV];exact aU.new _ _ _
       have sV:Z1.heap.size<V.heap.size:=oV.lt
       have hst:bq 0 V (.slice (some ⟨Z1.heap.size,0,none⟩) 2 2) [⟨#[114,111,119]⟩,⟨#[109,111,114,101]⟩]:=by
        refine⟨by decide,.inr ⟨Z1.heap.size,0,2,rfl,⟨eH _,oV.lt⟩,fun i hi=>?_⟩⟩
        have hi':i<2:=hi
        match i,hi' with
        | 0,_=>exact⟨by simpa using oV.cell 0 (by simp),(by decide:(⟨#[114,111,119]⟩:ByteArray).size≤9223372036854775807)⟩
        | 1,_=>exact⟨by simpa using oV.cell 1 (by simp),(by decide:(⟨#[109,111,114,101]⟩:ByteArray).size≤9223372036854775807)⟩
       have Ll:=hide (iO ⟨#[82,68,84]⟩ [⟨#[114,111,119]⟩,⟨#[109,111,114,101]⟩] _ V hst (by decide) (by decide))
       have HVS:=hide (zx.out.below bV)
       have HOW:=hide zx.out.own
       have TK:Hid (Below X4.heap.size X4 V):=by obtain⟨_,_,_,h⟩:=HVS.out;exact h
       have HV:=hide hV
       clear hst oV bV
       go_wp2_with (first|(at_builtin;refine bH rfl _ _ 26 rfl hr1 (by first|rfl|simp[Act.eval,Act.put]) (by first|rfl|simp[Act.eval,Act.put]) ?_))
       (try rw[HV.out])
       refine Ll.out.mono ?_
       rintro e U ⟨fu,rfl,hrb,xg⟩
       have hfu:=gY [⟨#[114,111,119]⟩,⟨#[109,111,114,101]⟩] hrb (by decide)
       have hvs:=HVS.out.below xg
       obtain⟨a2,c2,Z2,hr2,hS2⟩:=hvs.new qh fu (by decide) hfu (by have:=TK.out.size;have:=nC.out.2;omega) (fun b hb=>by have:=(HOW.out b hb).2;omega) (n:=ne+1) (by rw[List.length_append,K5.out];rfl) (by omega)
       obtain⟨fa2,fc2,rfl,_⟩:=At.form hfu
       have aaH:=hide hS2
       clear hS2 hrb hfu hvs xg hr1
       have ern:qh.name=⟨#[82,68,84]⟩:=rfl
       rw[ern] at hr2
       go_wp2_with (first|(at_builtin;refine bH rfl _ _ 26 rfl hr2 (by first|rfl|simp[Act.eval,Act.put]) (by first|rfl|simp[Act.eval,Act.put]) ?_))
       go_roundg (m.length - (k+1))
       case measure=>omega
       case rel=>exact⟨k+1,ne+1+1,_,_,by omega,rfl,rfl,by go_num,by rw[HE.out,List.length_append,List.length_append,K5.out];rfl,by rw[HE.out];exact aaH.out⟩
     ·have adf:¬(k:Int)=(AT:Int):=by omega
      have acA:((k:Int) == (AT:Int))=false:=by simpa using adf
      have HE:Hid (Fz how AT m (k+1)=Fz how AT m k++[sg]):=by rw[HST.out,aaD _ _ _ _ Wu];trivial
      clear Al
      go_wp2_with (first|(at_builtin;refine bH rfl _ _ 26 rfl hr1 (by first|rfl|simp[Act.eval,Act.put]) (by first|rfl|simp[Act.eval,Act.put]) ?_))
      go_roundg (m.length - (k+1))
      case measure=>omega
      case rel=>exact⟨k+1,ne+1,_,_,by omega,rfl,rfl,by go_num,by rw[HE.out,List.length_append,K5.out];rfl,by rw[HE.out];exact zx.out⟩
    ·have hki:¬(k:Int)<(m.length:Int):=by omega
     obtain rfl:k=m.length:=by omega
     have hQ:=Np.out.below jo.out
     have r0:Y.cell? ⟨w.heap.size,0,none⟩=some (.slice none 0 0):=hQ.cell 0 (by simp)
     have rf:Y.frozen? ⟨w.heap.size,0,none⟩=false:=hQ.frozen 0
     have rl:w.heap.size<Y.heap.size:=hQ.lt
     have jG:Hid (∀x,aX w.heap.size (Y.setCell ⟨w.heap.size,0,none⟩ x) (.slice a ne c) r9∧Below w.heap.size w (Y.setCell ⟨w.heap.size,0,none⟩ x)):=fun x=>by
      refine⟨?_,(aj jo.out o7.out).setCell (p:=⟨w.heap.size,0,none⟩) (aS _) x⟩
      rw[←HX.out]
      exact pI (Nat.le_of_lt Ay.out) Ay.out (WU.out.kg nC.out.2 (by rw[K5.out];omega)) x
     have Xl:=hide WU.out.cap
     clear hQ
     go_wp2_with fail
     exact bodyPost_ret (v:=.agg #[.slice a ne c]) (by simp[results,Tryz.results18,go_sem,r0,rl]) rfl ⟨_,rfl,⟨(jG.out _).1,Xl.out⟩,(jG.out _).2⟩
end Go.Proofs.YtfdihjnlgdiioaaGreatDoor.dB
