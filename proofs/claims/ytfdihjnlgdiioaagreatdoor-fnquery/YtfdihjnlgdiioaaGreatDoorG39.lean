import Derived.Test.YtfdihjnlgdiioaaGreatDoorG32
import Derived.Test.YtfdihjnlgdiioaaGreatDoorG38
namespace Go.Proofs.YtfdihjnlgdiioaaGreatDoor.dB
open Go.ChangeShapes Go.WideShapes Go.ChangeAt Go.RowKit
set_option linter.unusedVariables false
set_option linter.unusedSimpArgs false
theorem JO {α:Type} (f:α→Nat) (B:Nat):∀(xs:List α),(∀x∈xs,f x≤B)→sumOf f xs≤xs.length * B
 | [],_=>eH _
 | x :: xs,h=>by
  have h1:=h x (List.mem_cons_self ..)
  have h2:=JO f B xs fun y hy=>h y (List.mem_cons_of_mem _ hy)
  unfold sumOf at *
  rw[List.map_cons,List.sum_cons,List.length_cons,Nat.succ_mul]
  omega
theorem gG {α:Type} {f:α→Nat} {xs:List α} (n B:Nat) (hl:xs.length≤n) (h:∀x∈xs,f x≤B):aH f xs≤n * B+n:=by
 have h1:=JO f B xs h
 have h2:=Nat.mul_le_mul_right B hl
 unfold aH
 omega
theorem iK {α:Type} (f:α→Nat) (xs ys:List α):aH f (xs++ys)=aH f xs+aH f ys:=by
 unfold aH sumOf
 rw[List.length_append,List.map_append,List.sum_append]
 omega
theorem Dw {α:Type} {p:α→Bool} {xs:List α} {x:α} (h:x∈ay p xs):x∈xs:=List.mem_of_mem_take h
theorem vv {α:Type} (p:α→Bool) (xs:List α):(ay p xs).length≤xs.length:=by unfold ay;rw[List.length_take];omega
theorem Tj {r:lW} (hl:r.length≤3) (h:∀s∈r,s.size≤3):iw (gX r)≤12 :=
 gG 3 3 (Nat.le_trans (vv _ _) hl) fun x hx=>h x (Dw hx)
theorem Tk {f:Field} (hl:f.length≤2) (h:∀r∈f,r.length≤3∧∀s∈r,s.size≤3):aF (gQ f)≤26:=by
 refine gG 2 12 (Nat.le_trans (vv _ _) (by rw[List.length_map];exact hl)) fun x hx=>?_
 obtain⟨r,hr,rfl⟩:=List.mem_map.1 (Dw hx)
 exact Tj (h r hr).1 (h r hr).2
theorem Tm {fs:List Field} (hl:fs.length≤4) (h:∀f∈fs,f.length≤2∧∀r∈f,r.length≤3∧∀s∈r,s.size≤3):aH aF (trimF fs)≤108:=by
 refine gG 4 26 (Nat.le_trans (vv _ _) (by rw[List.length_map];exact hl)) fun x hx=>?_
 obtain⟨f,hf,rfl⟩:=List.mem_map.1 (Dw hx)
 exact Tk (h f hf).1 (h f hf).2
theorem Tn (cs:List UInt8) (p:Nat):(Cg cs p).length≤3∧∀s∈Cg cs p,s.size≤3:=by
 unfold Cg
 refine⟨?_,fun s hs=>?_⟩
 ·rw[List.length_map,List.length_range];exact su cs p 4 3 (by decide)
 ·obtain⟨x,_,rfl⟩:=List.mem_map.1 hs
  exact EO _ _
theorem Fq (cs:List UInt8) (p:Nat):∀n,∀r∈(iW cs p n).1,r.length≤3∧∀s∈r,s.size≤3
 | 0,r,hr=>by cases hr
 | n+1,r,hr=>by
  rcases List.mem_append.1 (show r∈(iW cs p n).1++[Cg cs (iW cs p n).2] from hr) with h|h
  ·exact Fq cs p n r h
  ·rw[List.mem_singleton.1 h];exact Tn _ _
theorem Ma (cs:List UInt8) (p:Nat):(jA cs p).1.length≤2∧∀r∈(jA cs p).1,r.length≤3∧∀s∈r,s.size≤3:=by
 unfold jA
 exact⟨by rw[rT];exact su cs p 3 2 (by decide),Fq _ _ _⟩
theorem Ab (cs:List UInt8) (p:Nat):∀n,∀f∈(dM cs p n).1,f.length≤2∧∀r∈f,r.length≤3∧∀s∈r,s.size≤3
 | 0,f,hf=>by cases hf
 | n+1,f,hf=>by
  rcases List.mem_append.1 (show f∈(dM cs p n).1++[(jA cs (dM cs p n).2).1] from hf) with h|h
  ·exact Ab cs p n f h
  ·rw[List.mem_singleton.1 h];exact Ma _ _
theorem Mc (k:Nat):(uW.getD k ⟨#[]⟩).size≤3:=by
 rw[List.getD_eq_getElem?_getD]
 by_cases h:k<uW.length
 ·rw[List.getElem?_eq_getElem h]
  exact(by decide:∀x∈uW,x.size≤3) _ (List.getElem_mem h)
 ·rw[List.getElem?_eq_none (by omega)];exact eH _
def yA (s:Seg):Prop:=s.name.size≤3∧s.fields.length≤4∧aH aF s.fields≤108
theorem Tp (cs:List UInt8) (i p:Nat):yA (uo cs i p).1:=by
 have hl:(dM cs (p+1+1) (tk cs (p+1) 5)).1.length≤4:=by rw[rU];exact su cs _ 5 4 (by decide)
 refine⟨?_,?_,Tm hl (Ab _ _ _)⟩
 ·show (if i=0 then (⟨#[77,83,72]⟩:ByteArray) else uW.getD (tk cs p 6) ⟨#[]⟩).size≤3
  split
  ·exact(by decide:(3:Nat)≤3)
  ·exact Mc _
 ·exact Nat.le_trans (vv _ _) (by rw[List.length_map];exact hl)
theorem Fu (cs:List UInt8) (p:Nat):∀n,∀s∈(jk cs p n).1,yA s
 | 0,s,hs=>by cases hs
 | n+1,s,hs=>by
  rcases List.mem_append.1 (show s∈(jk cs p n).1++[(uo cs n (jk cs p n).2).1] from hs) with h|h
  ·exact Fu cs p n s h
  ·rw[List.mem_singleton.1 h];exact Tp _ _ _
theorem Dx (L:Nat):l9 L 12 1 8≤8:=by unfold l9;split <;> omega
theorem zu (cs:List UInt8) (p:Nat):(nY cs p).1.length≤8:=by unfold nY;rw[rV];exact Dx _
theorem WH (cs:List UInt8) (p:Nat):(nY cs p).2≤p+496:=by
 have:=Cj cs p (l9 cs.length 12 1 8)
 have h:=Dx cs.length
 unfold nY
 omega
theorem Dy (cs:List UInt8) (p:Nat):∀s∈(nY cs p).1,yA s:=Fu cs p _
theorem yA.sz {s:Seg} (h:yA s):bB s≤111:=by obtain⟨h1,_,h3⟩:=h;unfold bB;omega
theorem Tq (cs:List UInt8) (p:Nat):aT (nY cs p).1≤896:=gG 8 111 (zu cs p) fun s hs=>(Dy cs p s hs).sz
theorem WI:aF Ei≤4:=by decide
theorem vw {f:Field} (B:Nat) (h:aF f≤B):aH aF [f]≤B+1:=by
 have:=gG (f:=aF) (xs:=[f]) 1 B (aS _) (fun x hx=>by rw[List.mem_singleton.1 hx];exact h)
 omega
theorem GJ {r:lW} (B:Nat) (h:iw r≤B):aF [r]≤B+1:=by
 have:=gG (f:=iw) (xs:=[r]) 1 B (aS _) (fun x hx=>by rw[List.mem_singleton.1 hx];exact h)
 unfold aF
 omega
theorem Tt (A X:Nat) (s:Seg) (h:yA s) (hX:X≤1):bB (lK A X s)≤400:=by
 have h0:=h.sz
 obtain⟨h1,h2,h3⟩:=h
 unfold lK
 split
 ·show (3:Nat)+aH aF s.fields≤_;omega
 split
 ·show (3:Nat)+aH aF s.fields≤_;omega
 split
 ·show s.name.size+aH aF (s.fields++[_])≤_
  rw[iK]
  have:=vw (f:=([]:Field)) 0 (by decide)
  omega
 split
 ·show s.name.size+aH aF (s.fields++[_])≤_
  rw[iK]
  have:=vw (f:=[[⟨#[118]⟩,⟨#[]⟩]]) 10 (by decide)
  omega
 split
 ·show s.name.size+aH aF (s.fields++[_])≤_
  rw[iK]
  have:=vw (f:=[[⟨#[118]⟩++⟨#[UInt8.ofNat (31+96 * X)]⟩]]) 10 (GJ 9 (by
   refine Nat.le_trans (gG 1 2 (aS _) fun x hx=>?_) (by decide)
   rw[List.mem_singleton.1 hx]
   show ByteArray.size _≤_
   rw[ByteArray.size_append]
   exact aS _))
  omega
 split
 ·show s.name.size+aH aF (s.fields++_)≤_
  rw[iK]
  have:=gG (f:=aF) (xs:=List.replicate (30+X - s.fields.length) Ei) 31 4 (by rw[List.length_replicate];omega) (fun x hx=>by rw[List.eq_of_mem_replicate hx];exact WI)
  omega
 split
 ·show s.name.size+aH aF (s.fields++[_])≤_
  rw[iK]
  have:=vw (f:=List.replicate (30+X) [⟨#[114]⟩]) 93 (gG 31 2 (by rw[List.length_replicate];omega) (fun x hx=>by rw[List.eq_of_mem_replicate hx];decide))
  omega
 split
 ·show s.name.size+aH aF (s.fields++[_])≤_
  rw[iK]
  have:=vw (f:=[List.replicate (20+X) ⟨#[99]⟩]) 50 (GJ 49 (Nat.le_trans (gG 21 1 (by rw[List.length_replicate];omega) (fun x hx=>by rw[List.eq_of_mem_replicate hx];exact aS _)) (by decide)))
  omega
 split
 ·show (1:Nat)+aH aF s.fields≤_;omega
 omega
theorem Fv (A AT X:Nat) (m:List Seg) (hX:X≤1) (h:∀s∈m,yA s):∀n,n≤m.length→∀s∈kC A AT X m n,bB s≤400
 | 0,_,s,hs=>by cases hs
 | n+1,hn,s,hs=>by
  have hm:yA (m.getD n ⟨⟨#[]⟩,[]⟩):=by
   rw[List.getD_eq_getElem?_getD,List.getElem?_eq_getElem (by omega)]
   exact h _ (List.getElem_mem _)
  rcases List.mem_append.1 (show s∈kC A AT X m n++[_] from hs) with h'|h'
  ·exact Fv A AT X m hX h n (by omega) s h'
  ·rw[List.mem_singleton.1 h']
   split
   ·exact Tt A X _ hm hX
   ·exact Nat.le_trans hm.sz (by decide)
theorem pI {L lo b o:Nat} {w:World} {v:Value} {xs:List Seg} (hl:lo≤L) (hb:b<L) (h:aX L w v xs) (x:Value):aX lo (w.setCell ⟨b,o,none⟩ x) v xs :=
 At.mono qy (At.same bA h ⟨by rw[Deep.nblk_setCell];exact aS _,fun d h1 _=>Deep.blk_setCell_other _ ⟨b,o,none⟩ _ d (by dsimp only;omega)⟩) hl
theorem Tv (cs:List UInt8) (p:Nat) (m:List Seg) (hl:m.length≤8) (h:∀s∈m,yA s):aT (Db cs p m)≤100000:=by
 have hX:tk cs (p+1+1) 2≤1:=su cs _ 2 1 (by decide)
 have hs:=Fv (tk cs p 12) (tk cs (p+1) m.length) (tk cs (p+1+1) 2) m hX h m.length (aS _)
 have h1:=gG (f:=bB) 8 400 (by rw[rX];exact hl) hs
 unfold Db
 split
 ·exact eH _
 split
 ·have hz:=nH ⟨#[118]⟩ (39986+tk cs (p+1+1) 2+1) (39986+tk cs (p+1+1) 2)
  have ae4:(⟨#[118]⟩:ByteArray).size=1:=rfl
  have hx2:(oP ⟨#[118]⟩ (39986+tk cs (p+1+1) 2+1) (39986+tk cs (p+1+1) 2)).size≤39990:=by omega
  have h3:=vw (f:=[[oP ⟨#[118]⟩ (39986+tk cs (p+1+1) 2+1) (39986+tk cs (p+1+1) 2)]]) 39993 (GJ 39991 (by
   refine Nat.le_trans (gG 1 39990 (aS _) fun x hx=>?_) (by decide)
   rw[List.mem_singleton.1 hx];exact hx2) |> fun h=>Nat.le_trans h (by decide))
  refine Nat.le_trans (gG (f:=bB) 2 39997 (aS _) fun s hs=>?_) (by decide)
  simp only[List.mem_cons,List.not_mem_nil,or_false] at hs
  rcases hs with rfl|rfl
  ·exact(by decide:(3:Nat)≤39997)
  ·show (3:Nat)+aH aF [_]≤_
   omega
 split
 ·show aH bB (_++_)≤_
  rw[iK]
  have h2:=gG (f:=bB) (xs:=List.replicate (250+tk cs (p+1+1) 2 - m.length) ⟨⟨#[90,90,90]⟩,[]⟩) 251 3 (by rw[List.length_replicate];omega) (fun s hs=>by rw[List.eq_of_mem_replicate hs];exact(by decide:(3:Nat)≤3))
  omega
 ·show aH bB _≤_
  omega
def wu (cs:List UInt8):List Seg:=if 6≤tk cs 0 9 then Db cs (nY cs 1).2 (nY cs 1).1 else (nY cs 1).1
theorem JQ (cs:List UInt8):aT (wu cs)≤100000:=by
 unfold wu
 split
 ·exact Tv cs _ _ (zu cs 1) (Dy cs 1)
 ·exact Nat.le_trans (Tq cs 1) (by decide)
set_option maxRecDepth 100000 in
set_option maxHeartbeats 4000000 in
theorem sI (cs:List UInt8) (v:Value) (w:World) {lo:Nat} (hv:iU lo w v cs) (hl:cs.length≤1048576) :
  Calls Tryz.prog 43 #[v] w fun e w'=>∃u,e=.returned (.agg #[u])∧(aX w.heap.size w' u (wu cs)∧O5 u)∧Below w.heap.size w w':=by
 have HV:=hide hv
 obtain⟨va,vc,rfl,_⟩:=fO hv
 obtain⟨x1,hx1⟩:∃x,w.alloc (Obj.cells #[.slice none 0 0] 28)=x:=⟨_,rfl⟩
 have bN:x1.heap.size=w.heap.size+1:=by rw[←hx1];simp
 have bx1:Below w.heap.size w x1:=by rw[←hx1];exact aO _ _
 have HR1:Hid (aU x1 w.heap.size 28 #[.slice none 0 0]):=by rw[←hx1];exact aU.new _ _ _
 have HT1:=hide (fJ cs (.slice va cs.length vc) 0 9 x1 (At.kept bJ HV.out bx1) hl (by decide) (by decide))
 have HDM:=hide (Jl cs (.slice va cs.length vc) 1 x1 (At.kept bJ HV.out bx1) hl (by decide))
 obtain⟨r,hr⟩:∃r,wu cs=r:=⟨_,rfl⟩
 have HR:=hide hr
 rw[hr]
 unfold wu at HR
 have hA:=jK cs 0 9 (by decide)
 obtain⟨A,XP⟩:∃A,tk cs 0 9=A:=⟨_,rfl⟩
 rw[XP] at HT1 HR hA
 have hq:=WH cs 1
 have hml:=zu cs 1
 have XV:=hide (Dy cs 1)
 obtain⟨q,hqe⟩:∃q,(nY cs 1).2=q:=⟨_,rfl⟩
 obtain⟨m,hme⟩:∃m,(nY cs 1).1=m:=⟨_,rfl⟩
 rw[hqe] at HDM HR hq
 rw[hme] at HDM HR hml XV
 have Ur:=hide hx1
 have HB1:=hide bx1
 have UA:=hide bN
 have c1:((1:Nat):Int)=1:=rfl
 have c01:((0+1:Nat):Int)=1:=rfl
 have c0:((0:Nat):Int)=0:=rfl
 rw[c1] at HDM
 rw[c0,c01] at HT1
 clear hv hr XP hqe hme hx1 bx1 bN c1 c01 c0
 go_enter Tryz.func43,Tryz.ntmps43
 go_wp2_with fail
 rw[Ur.out]
 refine HT1.out.mono ?_
 rintro e y ⟨rfl,hy⟩
 (try rw[hy])
 clear hy y
 go_wp2_with fail
 refine HDM.out.mono ?_
 rintro e y ⟨am,cm,ps,rfl,hrow,hps,hby⟩
 obtain⟨x2,hx2⟩:∃x,y.alloc (Obj.cells #[.slice am m.length cm] 28)=x:=⟨_,rfl⟩
 have Lj:Below y.heap.size y x2:=by rw[←hx2];exact aO _ _
 have D7:Hid (aU x2 y.heap.size 28 #[.slice am m.length cm]):=by rw[←hx2];exact aU.new _ _ _
 have Wm:=hide ((HR1.out.below hby).below Lj)
 have m0:x2.cell? ⟨y.heap.size,0,none⟩=some (.slice am m.length cm):=D7.out.cell 0 (by simp)
 have r0:x2.cell? ⟨w.heap.size,0,none⟩=some (.slice none 0 0):=Wm.out.cell 0 (by simp)
 have rf:x2.frozen? ⟨w.heap.size,0,none⟩=false:=Wm.out.frozen 0
 have rl:w.heap.size<x2.heap.size:=Wm.out.lt
 have hrow2:=hrow.below Lj
 have HB2:=hide (aj (aj Lj hby) HB1.out)
 have hsx:=UA.out
 have RV:=hide (Nat.le_trans hby.size Lj.size)
 have LB:=hide hx2
 have hpl:ps.length=m.length:=by rw[←hps,List.length_map]
 have HRW:=hide hrow2
 have AJ:=hide hps
 have ahl:=hide hpl
 clear hrow hps hby hx2 Lj hrow2
 by_cases h6:(A:Int) ≥ 6
 ·have HX:Hid (Db cs q m=r):=by have:=HR.out;rw[if_pos (by omega)] at this;exact this
  have HSP:=hide (LY cs (.slice va cs.length vc) q ps am cm x2 (bb:=x1.heap.size) (bd:=fun b=>b<x1.heap.size) (At.kept bJ HV.out HB2.out) hl (by omega) (by rw[hpl];exact HRW.out) (by omega) (fun e he=>by
   have:=XV.out e.1 (by rw[←AJ.out];exact List.mem_map_of_mem he)
   exact⟨by have:=this.2.1;omega,this.1⟩) (L:=x1.heap.size) (by have:=HB2.out.size;have:=Wm.out.lt;have:=RV.out;omega) (fun b hb=>hb))
  rw[hpl,AJ.out] at HSP
  clear r0 rf rl hpl
  go_wp2_with fail
  rw[LB.out]
  go_wp2_with fail
  refine HSP.out.mono ?_
  rintro e z ⟨u,rfl,⟨hu,hcu⟩,hbz⟩
  have HCU:=hide hcu
  clear hcu
  have hQ:=Wm.out.below hbz
  have r0:z.cell? ⟨w.heap.size,0,none⟩=some (.slice none 0 0):=hQ.cell 0 (by simp)
  have rf:z.frozen? ⟨w.heap.size,0,none⟩=false:=hQ.frozen 0
  have rl:w.heap.size<z.heap.size:=hQ.lt
  rw[HX.out] at hu
  obtain⟨ua,uc,rfl,_⟩:=hu.form
  have HU:=hide hu
  have sU:=hide (aj hbz HB2.out)
  have ahm:=hide hbz
  have hxz:x2.heap.size≤z.heap.size:=hbz.size
  clear hu hQ hbz
  go_wp2_with fail
  exact bodyPost_ret (v:=.agg #[.slice ua r.length uc]) (by simp[results,Tryz.results43,go_sem,r0,rl]) rfl ⟨_,rfl,⟨pI (L:=x1.heap.size) (by omega) (by omega) HU.out _,HCU.out⟩,sU.out.setCell (p:=⟨w.heap.size,0,none⟩) (aS _) _⟩
 ·have HX:Hid (m=r):=by have:=HR.out;rw[if_neg (by omega)] at this;exact this
  have jG:Hid (∀x,aX w.heap.size (x2.setCell ⟨w.heap.size,0,none⟩ x) (.slice am m.length cm) r∧Below w.heap.size w (x2.setCell ⟨w.heap.size,0,none⟩ x)):=fun x=>by
   refine⟨?_,HB2.out.setCell (p:=⟨w.heap.size,0,none⟩) (aS _) x⟩
   rw[←HX.out]
   have:=(HRW.out.set (b:=w.heap.size) (o:=0) (by show _<_;omega) x).SE (L:=w.heap.size) (by omega) (by omega) (fun b hb=>by show _<_;omega)
   rw[AJ.out] at this
   exact this
  have HCM:Hid (O5 (.slice am m.length cm)):=AZ HRW.out.row
  rw[←LB.out] at r0 rf rl m0 jG
  clear HX
  go_wp2_with fail
  exact bodyPost_ret (v:=.agg #[.slice am m.length cm]) (by simp[results,Tryz.results43,go_sem,r0,rl]) rfl ⟨_,rfl,⟨(jG.out _).1,HCM.out⟩,(jG.out _).2⟩
theorem Dz (cs:List UInt8) (v:Value) (w:World) {lo:Nat} (hv:iU lo w v cs) (hl:cs.length≤1048576) :
  Calls Tryz.prog 43 #[v] w fun e w'=>∃u,e=.returned (.agg #[u])∧aX w.heap.size w' u (wu cs)∧Below w.heap.size w w' :=
 (sI cs v w hv hl).mono fun _ _ ⟨u,e,⟨h,_⟩,hb⟩=>⟨u,e,h,hb⟩
theorem WJ {c:UInt8}:decide (c.toNat=13)=(c == 13):=by
 by_cases h:c=13
 ·subst h;rfl
 ·have h1:c.toNat≠13:=fun e=>h (UInt8.toNat_inj.1 e)
  rw[decide_eq_false h1];symm;rw[beq_eq_false_iff_ne];exact h
theorem zw (p:UInt8→Bool) (c:UInt8):∀(l cur:List UInt8),(bU c cur l).all (fun q=>q.all p)=(cur.all p && l.all (fun x=>x == c || p x))
 | [],cur=>by simp[bU]
 | x :: l,cur=>by
  unfold bU
  by_cases hx:x=c
  ·rw[if_pos hx,List.all_cons,zw p c l []]
   simp[hx]
  ·rw[if_neg hx,zw p c l (cur++[x])]
   have:(x == c)=false:=by rw[beq_eq_false_iff_ne];exact hx
   simp[this,Bool.and_assoc]
theorem yB (s:ByteArray):(bI 13 s.data.toList).all (fun q=>q.all bZ)=lY s:=by
 unfold bI lY
 rw[zw]
 simp only[List.all_nil,Bool.true_and]
 congr 1
 funext x
 unfold Qm
 rw[WJ]
theorem Md (p:List UInt8):dI (txt p)=p.all bZ:=by unfold dI;rw[eU]
def jX (s:ByteArray):Nat:=if s.size=0∨40000<s.size then 1 else if lY s=false then 2 else if eB s=true then 0 else 3
theorem uJ {a:Int} {b:Nat} (h:a=(b:Int)):Ending.returned (.int .i64 a)=.returned (.int .i64 (b:Int)):=by rw[h]
set_option maxRecDepth 100000 in
set_option maxHeartbeats 4000000 in
theorem yC (s:ByteArray) (w:World) (hs:s.size≤1048576) (hm:Mx w) :
  Calls Tryz.prog 28 #[.string s] w fun e w'=>e=.returned (.int .i64 (jX s:Int))∧Below w.heap.size w w':=by
 have HB0:Hid (Below w.heap.size w w):=Below.refl _ _
 have HM:=hide hm
 by_cases h0:s.size=0
 ·have h0':s.toList=[]:=by rw[ByteArray.toList_eq];exact List.length_eq_zero_iff.1 (by simpa using h0)
  have h0e:s.toList.isEmpty=true:=by rw[h0'];rfl
  have HX:Hid ((1:Int)=(jX s:Int)):=by unfold jX;rw[if_pos (Or.inl h0)];exact rfl
  clear h0
  go_enter Tryz.func28,Tryz.ntmps28
  go_wp2_with fail
  go_ret
  exact⟨uJ HX.out,HB0.out⟩
 have h0':¬s.toList=[]:=fun h=>h0 (by rw[ByteArray.toList_eq] at h;have:=congrArg List.length h;simpa using this)
 have h0e:s.toList.isEmpty=false:=by rw[List.isEmpty_eq_false_iff];exact h0'
 by_cases h4:(40000:Int)<(s.size:Int)
 ·have HX:Hid ((1:Int)=(jX s:Int)):=by unfold jX;rw[if_pos (Or.inr (by omega))];exact rfl
  clear h0
  go_enter Tryz.func28,Tryz.ntmps28
  go_wp2_with fail
  go_ret
  exact⟨uJ HX.out,HB0.out⟩
 have HC0:Hid (jX s=if lY s=false then 2 else if eB s=true then 0 else 3):=by
  have:jX s=if lY s=false then 2 else if eB s=true then 0 else 3:=by unfold jX;rw[if_neg (by omega)]
  exact this
 have HBP:=hide (yB s)
 have hpos:=jC 13 s.data.toList
 have hlen:(bI 13 s.data.toList).length≤40001:=by have:=lX 13 s.data.toList;simp at this;omega
 have nC:Hid (∀p∈bI 13 s.data.toList,p.length≤40000):=fun p hp=>by have:=jQ 13 s.data.toList p hp;simp at this;omega
 obtain⟨ps,hps⟩:∃ps,bI 13 s.data.toList=ps:=⟨_,rfl⟩
 have AJ:=hide hps
 rw[hps] at hpos hlen nC HBP
 clear hps h0
 have h40:s.size≤40000:=by omega
 go_enter Tryz.func28,Tryz.ntmps28
 go_wp2_with fail
 refine(lG s 13 _ hs hm).mono ?_
 rintro e Wb ⟨u,rfl,hu,hb1⟩
 rw[AJ.out] at hu
 obtain⟨g,cap,rfl,hg,hgl,hcap,hcm,hcell⟩:=lu hu hpos
 have HC:=hide hcell
 have HB1:=hide hb1
 clear hu hcell hb1 hm
 go_wp2_with fail
 go_loopg [15] ps.length (fun n i wr=>∃k:Nat,k≤ps.length∧n=ps.length - k∧i=.int .i64 k∧(ps.take k).all (fun q=>q.all bZ)=true∧wr=Wb)
 case atStart=>exact⟨0,eH _,by simp,rfl,rfl,rfl⟩
 case round =>
  obtain⟨k,hk,rfl,rfl,hall,hwr⟩:=hrel
  subst hwr
  have HA:=hide hall
  clear hall
  by_cases hlt:k<ps.length
  ·have hki:(k:Int)<(ps.length:Int):=by omega
   have hpc:=(HC.out k hlt).1
   have hpz:(txt ps[k]).size≤9223372036854775807:=by rw[dn];have:=nC.out _ (List.getElem_mem hlt);omega
   have HPT:=hide (Md ps[k])
   go_wp2_with fail
   refine(ni (txt ps[k]) _ hpz).mono ?_
   rintro e w' ⟨rfl,rfl⟩
   rw[HPT.out]
   cases hp:ps[k].all bZ
   ·have HF:=hide (iy (p:=fun q:List UInt8=>q.all bZ) hlt hp)
    have HX:Hid ((2:Int)=(jX s:Int)):=by rw[HC0.out,if_pos (by rw[←HBP.out];exact HF.out)];exact rfl
    clear hp
    go_wp2_with fail
    go_ret
    exact⟨uJ HX.out,HB1.out⟩
   ·have HF:=hide (jD (p:=fun q:List UInt8=>q.all bZ) hlt HA.out hp)
    clear hp
    go_wp2_with fail
    go_roundg (ps.length - (k+1))
    case measure=>omega
    case rel=>exact⟨k+1,by omega,rfl,by go_num,HF.out,rfl⟩
  ·have HBT:Hid (lY s=true):=by rw[←HBP.out];exact jE (by omega) HA.out
   have hki:¬(k:Int)<(ps.length:Int):=by omega
   go_wp2_with fail
   refine(En s _ h40).mono ?_
   rintro e w' ⟨rfl,hb2⟩
   have HB2:=hide (aj hb2 HB1.out)
   clear hb2
   cases hh:eB s
   ·have HX:Hid ((3:Int)=(jX s:Int)):=by rw[HC0.out,if_neg (by rw[HBT.out];simp),if_neg (by rw[hh];simp)];exact rfl
    clear hh
    go_wp2_with fail
    go_ret
    exact⟨uJ HX.out,HB2.out⟩
   ·have HX:Hid ((0:Int)=(jX s:Int)):=by rw[HC0.out,if_neg (by rw[HBT.out];simp),if_pos hh];exact rfl
    clear hh
    go_wp2_with fail
    go_ret
    exact⟨uJ HX.out,HB2.out⟩
end Go.Proofs.YtfdihjnlgdiioaaGreatDoor.dB
