import Derived.Test.YtfdihjnlgdiioaaGreatDoorG12
import Derived.Test.YtfdihjnlgdiioaaGreatDoorG15
namespace Go.Proofs.YtfdihjnlgdiioaaGreatDoor.dB
open Go.ChangeShapes Go.WideShapes Go.ChangeAt Go.RowKit
set_option linter.unusedVariables false
set_option linter.unusedSimpArgs false
def Rm (r:pK):Array Value:=#[.int .i64 r.kind,.string r.control,.string r.tag,.string r.query,.int .i64 r.page,.string r.pointer]
def Rn (a:Nat):ByteArray:=⟨#[67]⟩++bR a
def Ro (how a:Nat) (tag query:ByteArray) (r:pK):pK:=if 10≤how∧how<16 then ⟨2,Rn a,tag,query,0,bR a⟩ else r
def Rp (how a:Nat) (tag:ByteArray) (r:pK):pK:=if 16≤how∧how<20 then ⟨3,Rn a,tag,⟨#[]⟩,0,⟨#[]⟩⟩ else r
def lg (b:UInt8) (n:Nat):ByteArray:=oP ⟨#[b]⟩ (n+1) n
def Rq (how a:Nat) (r:pK):pK:=if how=20 then { r with control:=lg 99 (20+a % 2) } else r
def Rs (how a:Nat) (r:pK):pK:=if how=21 then { r with tag:=lg 116 (16+a % 2) } else r
def Rt (how a:Nat) (r:pK):pK:=if how=22 then { r with query:=lg 113 (200+a % 2),page:=((50+a / 2 % 2:Nat):Int) } else r
def Ru (how a:Nat) (r:pK):pK:=if how=23 then { r with kind:=((a % 5:Nat):Int) } else r
def abz (how a:Nat) (tag query:ByteArray):pK:=Ru how a (Rt how a (Rs how a (Rq how a (Rp how a tag (Ro how a tag query ⟨1,Rn a,tag,query,((a % 7+1:Nat):Int),⟨#[]⟩⟩)))))
def jq (cs:List UInt8) (p:Nat):pK:=abz (tk cs p 24) (tk cs (p+1) 50) (vQ cs (p+2)) (sw cs (p+3))
def Rv:Array Value:=#[.int .i64 0,.string ⟨#[]⟩,.string ⟨#[]⟩,.string ⟨#[]⟩,.int .i64 0,.string ⟨#[]⟩]
structure RQ (w:World) (R:Nat) (r:pK) (X:World):Prop where
 res:aU X w.heap.size 24 Rv
 box:aU X R 24 (Rm r)
 zR:Below w.heap.size w X
 lt:w.heap.size<R
theorem RQ.below {w X Y:World} {R:Nat} {r:pK} (h:RQ w R r X) (hb:Below X.heap.size X Y):RQ w R r Y:=⟨h.res.below hb,h.box.below hb,aj hb h.zR,h.lt⟩
theorem RQ.set {w X:World} {R:Nat} {r:pK} (h:RQ w R r X) (i:Nat) (v:Value) (r':pK) (e:(Rm r).setIfInBounds i v=Rm r'):RQ w R r' (X.setCell ⟨R,i,none⟩ v) :=
 ⟨h.res.other (by have:=h.lt;simp;omega) v,by rw[←e];exact h.box.set i v,h.zR.setCell (p:=⟨R,i,none⟩) (Nat.le_of_lt h.lt) v,h.lt⟩
theorem RQ.fill {w X:World} {R:Nat} {r:pK} (h:RQ w R r X) (x0 x1 x2 x3 x4 x5:Value) (r':pK) (e:#[x0,x1,x2,x3,x4,x5]=Rm r') :
  RQ w R r' ((((((X.setCell ⟨R,0,none⟩ x0).setCell ⟨R,1,none⟩ x1).setCell ⟨R,2,none⟩ x2).setCell ⟨R,3,none⟩ x3).setCell ⟨R,4,none⟩ x4).setCell ⟨R,5,none⟩ x5):=by
 have hn:w.heap.size≠R:=by have:=h.lt;omega
 refine⟨(((((h.res.other hn x0).other hn x1).other hn x2).other hn x3).other hn x4).other hn x5,?_,(((((h.zR.setCell (p:=⟨R,0,none⟩) (Nat.le_of_lt h.lt) _).setCell (p:=⟨R,1,none⟩) (Nat.le_of_lt h.lt) _).setCell (p:=⟨R,2,none⟩) (Nat.le_of_lt h.lt) _).setCell (p:=⟨R,3,none⟩) (Nat.le_of_lt h.lt) _).setCell (p:=⟨R,4,none⟩) (Nat.le_of_lt h.lt) _).setCell (p:=⟨R,5,none⟩) (Nat.le_of_lt h.lt) _,h.lt⟩
 have:=(((((h.box.set 0 x0).set 1 x1).set 2 x2).set 3 x3).set 4 x4).set 5 x5
 rw[←e]
 simpa [Rm] using this
theorem RQ.cells {w X:World} {R:Nat} {r:pK} (h:RQ w R r X):(X.cell? ⟨R,0,none⟩=some (.int .i64 r.kind)∧X.cell? ⟨R,1,none⟩=some (.string r.control)∧X.cell? ⟨R,2,none⟩=some (.string r.tag)∧X.cell? ⟨R,3,none⟩=some (.string r.query)∧X.cell? ⟨R,4,none⟩=some (.int .i64 r.page)∧X.cell? ⟨R,5,none⟩=some (.string r.pointer)) ∧
  (X.frozen? ⟨R,0,none⟩=false∧X.frozen? ⟨R,1,none⟩=false∧X.frozen? ⟨R,2,none⟩=false∧X.frozen? ⟨R,3,none⟩=false∧X.frozen? ⟨R,4,none⟩=false∧X.frozen? ⟨R,5,none⟩=false)∧R<X.heap.size :=
 ⟨⟨h.box.cell 0 (by simp[Rm]),h.box.cell 1 (by simp[Rm]),h.box.cell 2 (by simp[Rm]),h.box.cell 3 (by simp[Rm]),h.box.cell 4 (by simp[Rm]),h.box.cell 5 (by simp[Rm])⟩,⟨h.box.frozen 0,h.box.frozen 1,h.box.frozen 2,h.box.frozen 3,h.box.frozen 4,h.box.frozen 5⟩,h.box.lt⟩
theorem RQ.ko {w X:World} {R:Nat} {r:pK} (h:RQ w R r X):(X.cell? ⟨w.heap.size,0,none⟩=some (.int .i64 0)∧X.cell? ⟨w.heap.size,1,none⟩=some (.string ⟨#[]⟩)∧X.cell? ⟨w.heap.size,2,none⟩=some (.string ⟨#[]⟩)∧X.cell? ⟨w.heap.size,3,none⟩=some (.string ⟨#[]⟩)∧X.cell? ⟨w.heap.size,4,none⟩=some (.int .i64 0)∧X.cell? ⟨w.heap.size,5,none⟩=some (.string ⟨#[]⟩)) ∧
  (X.frozen? ⟨w.heap.size,0,none⟩=false∧X.frozen? ⟨w.heap.size,1,none⟩=false∧X.frozen? ⟨w.heap.size,2,none⟩=false∧X.frozen? ⟨w.heap.size,3,none⟩=false∧X.frozen? ⟨w.heap.size,4,none⟩=false∧X.frozen? ⟨w.heap.size,5,none⟩=false)∧w.heap.size<X.heap.size :=
 ⟨⟨h.res.cell 0 (by simp[Rv]),h.res.cell 1 (by simp[Rv]),h.res.cell 2 (by simp[Rv]),h.res.cell 3 (by simp[Rv]),h.res.cell 4 (by simp[Rv]),h.res.cell 5 (by simp[Rv])⟩,⟨h.res.frozen 0,h.res.frozen 1,h.res.frozen 2,h.res.frozen 3,h.res.frozen 4,h.res.frozen 5⟩,h.res.lt⟩
theorem jv {w Z:World} (h:Below w.heap.size w Z) (x0 x1 x2 x3 x4 x5:Value):Below w.heap.size w ((((((Z.setCell ⟨w.heap.size,0,none⟩ x0).setCell ⟨w.heap.size,1,none⟩ x1).setCell ⟨w.heap.size,2,none⟩ x2).setCell ⟨w.heap.size,3,none⟩ x3).setCell ⟨w.heap.size,4,none⟩ x4).setCell ⟨w.heap.size,5,none⟩ x5) :=
 (((((h.setCell (p:=⟨w.heap.size,0,none⟩) (aS _) _).setCell (p:=⟨w.heap.size,1,none⟩) (aS _) _).setCell (p:=⟨w.heap.size,2,none⟩) (aS _) _).setCell (p:=⟨w.heap.size,3,none⟩) (aS _) _).setCell (p:=⟨w.heap.size,4,none⟩) (aS _) _).setCell (p:=⟨w.heap.size,5,none⟩) (aS _) _
set_option maxRecDepth 100000 in
set_option maxHeartbeats 8000000 in
theorem zS (cs:List UInt8) (v:Value) (p:Nat) (w:World) {lo:Nat} (hv:iU lo w v cs) (hl:cs.length≤1048576) (hp:p≤3000000) :
  Calls Tryz.prog 20 #[v,.int .i64 (p:Int)] w fun e w'=>e=.returned (.tuple #[bY (jq cs p),.int .i64 ((p+5:Nat):Int)])∧Below w.heap.size w w':=by
 obtain⟨X0,hX0⟩:∃x,w.alloc (.cells Rv 24)=x:=⟨_,rfl⟩
 have b0:Below w.heap.size w X0:=by rw[←hX0];exact aO _ _
 have Ak:Hid (aU X0 w.heap.size 24 Rv):=by rw[←hX0];exact aU.new _ _ _
 have e2:p+1+1=p+2:=by omega
 have HT1:=hide (fJ cs v p 24 X0 (At.kept bJ hv b0) hl (by omega) (by decide))
 have HT2:=hide (fJ cs v (p+1) 50 X0 (At.kept bJ hv b0) hl (by omega) (by decide))
 have Un:=hide (zN cs v (p+2) X0 (At.kept bJ hv b0) hl (by omega))
 have Rw:=hide (fun W (hb:Below X0.heap.size X0 W)=>zO cs v (p+3) W (At.kept bJ hv (aj hb b0)) hl (by omega))
 have Al:=jK cs p 24 (by decide)
 have ha:=jK cs (p+1) 50 (by decide)
 have HB0:=hide b0
 obtain⟨aa,cap,rfl,_⟩:=fO hv
 obtain⟨rr,hrr⟩:∃r,jq cs p=r:=⟨_,rfl⟩
 rw[hrr]
 unfold jq at hrr
 have hq:=BS cs (p+3)
 have htg:=xM cs (p+2)
 obtain⟨how,hhw⟩:∃a,tk cs p 24=a:=⟨_,rfl⟩
 obtain⟨a,hae⟩:∃a,tk cs (p+1) 50=a:=⟨_,rfl⟩
 obtain⟨tag,Rx⟩:∃a,vQ cs (p+2)=a:=⟨_,rfl⟩
 obtain⟨query,hqe⟩:∃a,sw cs (p+3)=a:=⟨_,rfl⟩
 rw[hhw] at HT1 Al hrr
 rw[hae] at HT2 ha hrr
 rw[Rx] at Un hrr htg
 rw[hqe] at Rw hrr hq
 rw[e2] at HT2
 have e5:p+3+2=p+5:=by omega
 rw[e5] at Rw
 obtain⟨p1,hp1⟩:∃q,p+1=q:=⟨_,rfl⟩
 obtain⟨p2,hp2⟩:∃q,p+2=q:=⟨_,rfl⟩
 obtain⟨p3,hp3⟩:∃q,p+3=q:=⟨_,rfl⟩
 obtain⟨p5,Xw⟩:∃q,p+5=q:=⟨_,rfl⟩
 have e3:p+2+1=p+3:=by omega
 rw[e3] at Un
 rw[hp1] at HT1 HT2
 rw[hp2] at HT2 Un
 rw[hp3] at Un Rw
 rw[Xw] at Rw ⊢
 have HRR:=hide hrr
 have K4:=hide (fun W=>nG a W (by omega))
 have hds:=ji a (by omega)
 obtain⟨dt,hdt⟩:∃t,bR a=t:=⟨_,rfl⟩
 rw[hdt] at K4 hds
 have Ul:=hide hdt
 have HX0:Hid (w.alloc (.cells #[.int .i64 0,.string ⟨#[]⟩,.string ⟨#[]⟩,.string ⟨#[]⟩,.int .i64 0,.string ⟨#[]⟩] 24)=X0):=hX0
 obtain⟨a7,ha7⟩:∃q,a % 7=q:=⟨_,rfl⟩
 obtain⟨a2,ha2⟩:∃q,a % 2=q:=⟨_,rfl⟩
 obtain⟨a5,ha5⟩:∃q,a % 5=q:=⟨_,rfl⟩
 obtain⟨h2,YZ⟩:∃q,a / 2=q:=⟨_,rfl⟩
 obtain⟨h22,K7⟩:∃q,h2 % 2=q:=⟨_,rfl⟩
 have m7:(a:Int).tmod 7=(a7:Int):=by rw[Int.tmod_eq_emod_of_nonneg (by omega),←ha7];omega
 have m2:(a:Int).tmod 2=(a2:Int):=by rw[Int.tmod_eq_emod_of_nonneg (by omega),←ha2];omega
 have m5:(a:Int).tmod 5=(a5:Int):=by rw[Int.tmod_eq_emod_of_nonneg (by omega),←ha5];omega
 have d2:(a:Int).tdiv 2=(h2:Int):=by rw[Int.tdiv_eq_ediv_of_nonneg (by omega),←YZ];omega
 have m22:(h2:Int).tmod 2=(h22:Int):=by rw[Int.tmod_eq_emod_of_nonneg (by omega),←K7];omega
 have b7:a7<7:=by omega
 have b2:a2<2:=by omega
 have b5:a5<5:=by omega
 have b22:h22<2:=by omega
 have bh2:h2<25:=by omega
 have HL1:=hide (fun W=>oQ ⟨#[99]⟩ (by decide) (by decide) (20+a2) (by omega) W)
 have HL2:=hide (fun W=>oQ ⟨#[116]⟩ (by decide) (by decide) (16+a2) (by omega) W)
 have PX:=hide (fun W=>oQ ⟨#[113]⟩ (by decide) (by decide) (200+a2) (by omega) W)
 have hc1:(⟨#[67]⟩:ByteArray).size=1:=rfl
 obtain⟨ctl,yZ⟩:∃c,(⟨#[67]⟩:ByteArray)++dt=c:=⟨_,rfl⟩
 have Y0:=hide yZ
 have Xx:Hid (rr=Ru how a (Rt how a (Rs how a (Rq how a (Rp how a tag (Ro how a tag query ⟨1,ctl,tag,query,((a7+1:Nat):Int),⟨#[]⟩⟩)))))):=by
  rw[←HRR.out,←Y0.out,←Ul.out,←ha7];exact rfl
 have HA:Hid (a % 2=a2∧a % 5=a5∧a / 2 % 2=h22):=⟨ha2,ha5,by rw[YZ];exact K7⟩
 clear hv hhw hae Rx hqe hrr hdt b0 hX0 e2 e3 e5 hp1 hp2 hp3 Xw ha7 ha2 ha5 YZ K7
 go_enter Tryz.func20,Tryz.ntmps20
 go_wp2_with fail
 rw[HX0.out]
 refine HT1.out.mono ?_
 rintro e w2 ⟨rfl,hw2⟩
 rw[hw2]
 clear hw2 w2
 go_wp2_with fail
 refine HT2.out.mono ?_
 rintro e w2 ⟨rfl,hw2⟩
 rw[hw2]
 clear hw2 w2
 go_wp2_with fail
 refine Un.out.mono ?_
 rintro e W1 ⟨rfl,hb1⟩
 have HB1:=hide hb1
 clear hb1
 go_wp2_with fail
 refine(Rw.out W1 HB1.out).mono ?_
 rintro e W2 ⟨rfl,hb2⟩
 have HB2:=hide (aj hb2 HB1.out)
 clear hb2
 go_wp2_with fail
 refine(K4.out W2).mono ?_
 rintro e W3 ⟨rfl,hb3⟩
 have HB3:=hide (aj hb3 HB2.out)
 clear hb3
 go_upto_region 7 with fail
 obtain⟨X4,Ja⟩:∃x,W3.alloc (Obj.cells #[.int .i64 1,.string ctl,.string tag,.string query,.int .i64 ((a7:Int)+1),.string ⟨#[]⟩] 24)=x:=⟨_,rfl⟩
 rw[Ja]
 have Kj:Hid (RQ w W3.heap.size ⟨1,ctl,tag,query,(a7:Int)+1,⟨#[]⟩⟩ X4):=by
  rw[←Ja]
  exact⟨(Ak.out.below HB3.out).alloc _,aU.new _ _ _,(aj HB3.out HB0.out).alloc (aj HB3.out HB0.out).size _,Nat.lt_of_lt_of_le Ak.out.lt HB3.out.size⟩
 obtain⟨R,hR⟩:∃R,W3.heap.size=R:=⟨_,rfl⟩
 rw[hR] at Kj ⊢
 have e7:((a7+1:Nat):Int)=(a7:Int)+1:=by omega
 rw[e7] at Xx
 clear Ja hR e7
 by_cases hA:how<10
 ·have g10:¬(10:Int)≤(how:Int):=by omega
  have g16:¬(16:Int)≤(how:Int):=by omega
  have Ow:((how:Int) == 20)=false:=by simp;omega
  have Ox:((how:Int) == 21)=false:=by simp;omega
  have q22:((how:Int) == 22)=false:=by simp;omega
  have Oy:((how:Int) == 23)=false:=by simp;omega
  have HR':Hid (rr=⟨1,ctl,tag,query,(a7:Int)+1,⟨#[]⟩⟩):=by
   rw[Xx.out]
   unfold Ru Rt Rs Rq Rp Ro
   rw[if_neg (show ¬(how=23) by omega),if_neg (show ¬(how=22) by omega),if_neg (show ¬(how=21) by omega),if_neg (show ¬(how=20) by omega),if_neg (show ¬(16≤how∧how<20) by omega),if_neg (show ¬(10≤how∧how<16) by omega)];exact rfl
  have HZ:Hid (RQ w R ⟨1,ctl,tag,query,(a7:Int)+1,⟨#[]⟩⟩ X4):=Kj.out
  clear hA
  go_upto_region 20 with fail
  obtain⟨⟨c0,c1,c2,c3,c4,c5⟩,_,cl⟩:=HZ.out.cells
  obtain⟨⟨z0,z1,z2,z3,z4,z5⟩,⟨f0,f1,f2,f3,f4,f5⟩,zl⟩:=HZ.out.ko
  dsimp only at c0 c1 c2 c3 c4 c5
  go_wp2_with fail
  exact bodyPost_ret (v:=.tuple #[bY ⟨1,ctl,tag,query,(a7:Int)+1,⟨#[]⟩⟩,.int .i64 (p5:Int)]) (by simp[results,Tryz.results20,go_sem,bY,z0,z1,z2,z3,z4,z5,zl]) rfl ⟨by rw[HR'.out],jv HZ.out.zR _ _ _ _ _ _⟩
 have g10:(10:Int)≤(how:Int):=by omega
 by_cases hB:how<16
 ·have l16:(how:Int)<16:=by omega
  have g16:¬(16:Int)≤(how:Int):=by omega
  have Ow:((how:Int) == 20)=false:=by simp;omega
  have Ox:((how:Int) == 21)=false:=by simp;omega
  have q22:((how:Int) == 22)=false:=by simp;omega
  have Oy:((how:Int) == 23)=false:=by simp;omega
  have HR':Hid (rr=⟨2,ctl,tag,query,0,dt⟩):=by
   rw[Xx.out]
   unfold Ru Rt Rs Rq Rp Ro
   rw[if_neg (show ¬(how=23) by omega),if_neg (show ¬(how=22) by omega),if_neg (show ¬(how=21) by omega),if_neg (show ¬(how=20) by omega),if_neg (show ¬(16≤how∧how<20) by omega),if_pos (show 10≤how∧how<16 by omega)];unfold Rn;rw[Ul.out,Y0.out];exact rfl
  clear hA hB
  go_wp2_with fail
  refine(K4.out X4).mono ?_
  rintro e W5 ⟨rfl,hb5⟩
  have HQ5:=hide (Kj.out.below hb5)
  clear hb5
  go_wp2_with fail
  refine(K4.out W5).mono ?_
  rintro e W6 ⟨rfl,hb6⟩
  have HQ6:=hide (HQ5.out.below hb6)
  clear hb6
  obtain⟨⟨c0,c1,c2,c3,c4,c5⟩,⟨f0,f1,f2,f3,f4,f5⟩,cl⟩:=HQ6.out.cells
  dsimp only at c0 c1 c2 c3 c4 c5
  have HZ:=HQ6.out.fill (.int .i64 2) (.string ctl) (.string tag) (.string query) (.int .i64 0) (.string dt) ⟨2,ctl,tag,query,0,dt⟩ rfl
  go_upto_region 20 with fail
  clear c0 c1 c2 c3 c4 c5 f0 f1 f2 f3 f4 f5 cl
  revert HZ
  generalize (((((W6.setCell ⟨R,0,none⟩ (.int .i64 2)).setCell ⟨R,1,none⟩ (.string ctl)).setCell ⟨R,2,none⟩ (.string tag)).setCell ⟨R,3,none⟩ (.string query)).setCell ⟨R,4,none⟩ (.int .i64 0)).setCell ⟨R,5,none⟩ (.string dt)=Z
  intro hZ
  have HZ:=hide hZ
  clear hZ
  obtain⟨⟨c0,c1,c2,c3,c4,c5⟩,_,cl⟩:=HZ.out.cells
  obtain⟨⟨z0,z1,z2,z3,z4,z5⟩,⟨f0,f1,f2,f3,f4,f5⟩,zl⟩:=HZ.out.ko
  dsimp only at c0 c1 c2 c3 c4 c5
  go_wp2_with fail
  exact bodyPost_ret (v:=.tuple #[bY ⟨2,ctl,tag,query,0,dt⟩,.int .i64 (p5:Int)]) (by simp[results,Tryz.results20,go_sem,bY,z0,z1,z2,z3,z4,z5,zl]) rfl ⟨by rw[HR'.out],jv HZ.out.zR _ _ _ _ _ _⟩
 have l16:¬(how:Int)<16:=by omega
 have g16:(16:Int)≤(how:Int):=by omega
 by_cases hC:how<20
 ·have l20:(how:Int)<20:=by omega
  have Ow:((how:Int) == 20)=false:=by simp;omega
  have Ox:((how:Int) == 21)=false:=by simp;omega
  have q22:((how:Int) == 22)=false:=by simp;omega
  have Oy:((how:Int) == 23)=false:=by simp;omega
  have HR':Hid (rr=⟨3,ctl,tag,⟨#[]⟩,0,⟨#[]⟩⟩):=by
   rw[Xx.out]
   unfold Ru Rt Rs Rq Rp Ro
   rw[if_neg (show ¬(how=23) by omega),if_neg (show ¬(how=22) by omega),if_neg (show ¬(how=21) by omega),if_neg (show ¬(how=20) by omega),if_pos (show 16≤how∧how<20 by omega)];unfold Rn;rw[Ul.out,Y0.out];exact rfl
  clear hA hB hC
  go_wp2_with fail
  refine(K4.out X4).mono ?_
  rintro e W6 ⟨rfl,hb5⟩
  have HQ6:=hide (Kj.out.below hb5)
  clear hb5
  obtain⟨⟨c0,c1,c2,c3,c4,c5⟩,⟨f0,f1,f2,f3,f4,f5⟩,cl⟩:=HQ6.out.cells
  dsimp only at c0 c1 c2 c3 c4 c5
  have HZ:=HQ6.out.fill (.int .i64 3) (.string ctl) (.string tag) (.string ⟨#[]⟩) (.int .i64 0) (.string ⟨#[]⟩) ⟨3,ctl,tag,⟨#[]⟩,0,⟨#[]⟩⟩ rfl
  go_upto_region 20 with fail
  clear c0 c1 c2 c3 c4 c5 f0 f1 f2 f3 f4 f5 cl
  revert HZ
  generalize (((((W6.setCell ⟨R,0,none⟩ (.int .i64 3)).setCell ⟨R,1,none⟩ (.string ctl)).setCell ⟨R,2,none⟩ (.string tag)).setCell ⟨R,3,none⟩ (.string ⟨#[]⟩)).setCell ⟨R,4,none⟩ (.int .i64 0)).setCell ⟨R,5,none⟩ (.string ⟨#[]⟩)=Z
  intro hZ
  have HZ:=hide hZ
  clear hZ
  obtain⟨⟨c0,c1,c2,c3,c4,c5⟩,_,cl⟩:=HZ.out.cells
  obtain⟨⟨z0,z1,z2,z3,z4,z5⟩,⟨f0,f1,f2,f3,f4,f5⟩,zl⟩:=HZ.out.ko
  dsimp only at c0 c1 c2 c3 c4 c5
  go_wp2_with fail
  exact bodyPost_ret (v:=.tuple #[bY ⟨3,ctl,tag,⟨#[]⟩,0,⟨#[]⟩⟩,.int .i64 (p5:Int)]) (by simp[results,Tryz.results20,go_sem,bY,z0,z1,z2,z3,z4,z5,zl]) rfl ⟨by rw[HR'.out],jv HZ.out.zR _ _ _ _ _ _⟩
 have l20:¬(how:Int)<20:=by omega
 by_cases h20:how=20
 ·have eb:((20:Int)+(a2:Int))=((20+a2:Nat):Int):=by omega
  have Ow:((how:Int) == 20)=true:=by simp;omega
  have Ox:((how:Int) == 21)=false:=by simp;omega
  have q22:((how:Int) == 22)=false:=by simp;omega
  have Oy:((how:Int) == 23)=false:=by simp;omega
  have HR':Hid (rr=⟨1,lg 99 (20+a2),tag,query,(a7:Int)+1,⟨#[]⟩⟩):=by
   rw[Xx.out]
   unfold Ru Rt Rs Rq Rp Ro
   rw[if_neg (show ¬(how=23) by omega),if_neg (show ¬(how=22) by omega),if_neg (show ¬(how=21) by omega),if_pos (show how=20 by omega),if_neg (show ¬(16≤how∧how<20) by omega),if_neg (show ¬(10≤how∧how<16) by omega)];rw[HA.out.1];try exact rfl
  obtain⟨ls,hls⟩:∃s,lg 99 (20+a2)=s:=⟨_,rfl⟩
  have Uo:Hid (∀W,Calls Tryz.prog 52 #[.int .i64 ((20+a2:Nat):Int),.string ⟨#[99]⟩] W fun e w'=>e=.returned (.string ls)∧w'=W):=fun W=>by rw[←hls];exact HL1.out W
  rw[hls] at HR'
  obtain⟨nl,hnl⟩:∃n,20+a2=n:=⟨_,rfl⟩
  rw[hnl] at Uo eb
  obtain⟨⟨c0,c1,c2,c3,c4,c5⟩,⟨f0,f1,f2,f3,f4,f5⟩,cl⟩:=Kj.out.cells
  dsimp only at c0 c1 c2 c3 c4 c5
  have HZ:=Kj.out.set 1 (.string ls) ⟨1,ls,tag,query,(a7:Int)+1,⟨#[]⟩⟩ rfl
  clear hA hB hC h20 hls hnl
  go_wp2_with fail
  (try rw[eb])
  refine(Uo.out X4).mono ?_
  rintro e W5 ⟨rfl,NT⟩
  rw[NT]
  clear NT W5
  go_upto_region 20 with fail
  clear c0 c1 c2 c3 c4 c5 f0 f1 f2 f3 f4 f5 cl
  revert HZ
  generalize X4.setCell ⟨R,1,none⟩ (.string ls)=Z
  intro hZ
  have HZ:=hide hZ
  clear hZ
  obtain⟨⟨c0,c1,c2,c3,c4,c5⟩,_,cl⟩:=HZ.out.cells
  obtain⟨⟨z0,z1,z2,z3,z4,z5⟩,⟨f0,f1,f2,f3,f4,f5⟩,zl⟩:=HZ.out.ko
  dsimp only at c0 c1 c2 c3 c4 c5
  go_wp2_with fail
  exact bodyPost_ret (v:=.tuple #[bY ⟨1,ls,tag,query,(a7:Int)+1,⟨#[]⟩⟩,.int .i64 (p5:Int)]) (by simp[results,Tryz.results20,go_sem,bY,z0,z1,z2,z3,z4,z5,zl]) rfl ⟨by rw[HR'.out],jv HZ.out.zR _ _ _ _ _ _⟩
 by_cases h21:how=21
 ·have eb:((16:Int)+(a2:Int))=((16+a2:Nat):Int):=by omega
  have Ow:((how:Int) == 20)=false:=by simp;omega
  have Ox:((how:Int) == 21)=true:=by simp;omega
  have q22:((how:Int) == 22)=false:=by simp;omega
  have Oy:((how:Int) == 23)=false:=by simp;omega
  have HR':Hid (rr=⟨1,ctl,lg 116 (16+a2),query,(a7:Int)+1,⟨#[]⟩⟩):=by
   rw[Xx.out]
   unfold Ru Rt Rs Rq Rp Ro
   rw[if_neg (show ¬(how=23) by omega),if_neg (show ¬(how=22) by omega),if_pos (show how=21 by omega),if_neg (show ¬(how=20) by omega),if_neg (show ¬(16≤how∧how<20) by omega),if_neg (show ¬(10≤how∧how<16) by omega)];rw[HA.out.1];try exact rfl
  obtain⟨ls,hls⟩:∃s,lg 116 (16+a2)=s:=⟨_,rfl⟩
  have Uo:Hid (∀W,Calls Tryz.prog 52 #[.int .i64 ((16+a2:Nat):Int),.string ⟨#[116]⟩] W fun e w'=>e=.returned (.string ls)∧w'=W):=fun W=>by rw[←hls];exact HL2.out W
  rw[hls] at HR'
  obtain⟨nl,hnl⟩:∃n,16+a2=n:=⟨_,rfl⟩
  rw[hnl] at Uo eb
  obtain⟨⟨c0,c1,c2,c3,c4,c5⟩,⟨f0,f1,f2,f3,f4,f5⟩,cl⟩:=Kj.out.cells
  dsimp only at c0 c1 c2 c3 c4 c5
  have HZ:=Kj.out.set 2 (.string ls) ⟨1,ctl,ls,query,(a7:Int)+1,⟨#[]⟩⟩ rfl
  clear hA hB hC h21 hls hnl
  go_wp2_with fail
  (try rw[eb])
  refine(Uo.out X4).mono ?_
  rintro e W5 ⟨rfl,NT⟩
  rw[NT]
  clear NT W5
  go_upto_region 20 with fail
  clear c0 c1 c2 c3 c4 c5 f0 f1 f2 f3 f4 f5 cl
  revert HZ
  generalize X4.setCell ⟨R,2,none⟩ (.string ls)=Z
  intro hZ
  have HZ:=hide hZ
  clear hZ
  obtain⟨⟨c0,c1,c2,c3,c4,c5⟩,_,cl⟩:=HZ.out.cells
  obtain⟨⟨z0,z1,z2,z3,z4,z5⟩,⟨f0,f1,f2,f3,f4,f5⟩,zl⟩:=HZ.out.ko
  dsimp only at c0 c1 c2 c3 c4 c5
  go_wp2_with fail
  exact bodyPost_ret (v:=.tuple #[bY ⟨1,ctl,ls,query,(a7:Int)+1,⟨#[]⟩⟩,.int .i64 (p5:Int)]) (by simp[results,Tryz.results20,go_sem,bY,z0,z1,z2,z3,z4,z5,zl]) rfl ⟨by rw[HR'.out],jv HZ.out.zR _ _ _ _ _ _⟩
 by_cases Ry:how=22
 ·have eb:((200:Int)+(a2:Int))=((200+a2:Nat):Int):=by omega
  have Ow:((how:Int) == 20)=false:=by simp;omega
  have Ox:((how:Int) == 21)=false:=by simp;omega
  have q22:((how:Int) == 22)=true:=by simp;omega
  have Oy:((how:Int) == 23)=false:=by simp;omega
  obtain⟨ls,hls⟩:∃s,lg 113 (200+a2)=s:=⟨_,rfl⟩
  have e50:((50+h22:Nat):Int)=(50:Int)+(h22:Int):=by omega
  have HR':Hid (rr=⟨1,ctl,tag,ls,(50:Int)+(h22:Int),⟨#[]⟩⟩):=by
   rw[Xx.out]
   unfold Ru Rt Rs Rq Rp Ro
   rw[if_neg (show ¬(how=23) by omega),if_pos (show how=22 by omega),if_neg (show ¬(how=21) by omega),if_neg (show ¬(how=20) by omega),if_neg (show ¬(16≤how∧how<20) by omega),if_neg (show ¬(10≤how∧how<16) by omega)];rw[HA.out.1,HA.out.2.2,hls,e50];try exact rfl
  have Uo:Hid (∀W,Calls Tryz.prog 52 #[.int .i64 ((200+a2:Nat):Int),.string ⟨#[113]⟩] W fun e w'=>e=.returned (.string ls)∧w'=W):=fun W=>by rw[←hls];exact PX.out W
  obtain⟨nl,hnl⟩:∃n,200+a2=n:=⟨_,rfl⟩
  rw[hnl] at Uo eb
  obtain⟨⟨c0,c1,c2,c3,c4,c5⟩,⟨f0,f1,f2,f3,f4,f5⟩,cl⟩:=Kj.out.cells
  dsimp only at c0 c1 c2 c3 c4 c5
  have HZ:=(Kj.out.set 3 (.string ls) (⟨1,ctl,tag,ls,(a7:Int)+1,⟨#[]⟩⟩:pK) rfl).set 4 (.int .i64 ((50:Int)+(h22:Int))) ⟨1,ctl,tag,ls,(50:Int)+(h22:Int),⟨#[]⟩⟩ rfl
  clear hA hB hC Ry hls hnl e50 h20 h21
  go_wp2_with fail
  (try rw[eb])
  refine(Uo.out X4).mono ?_
  rintro e W5 ⟨rfl,NT⟩
  rw[NT]
  clear NT W5
  go_upto_region 20 with fail
  clear c0 c1 c2 c3 c4 c5 f0 f1 f2 f3 f4 f5 cl
  revert HZ
  generalize (X4.setCell ⟨R,3,none⟩ (.string ls)).setCell ⟨R,4,none⟩ (.int .i64 ((50:Int)+(h22:Int)))=Z
  intro hZ
  have HZ:=hide hZ
  clear hZ
  obtain⟨⟨c0,c1,c2,c3,c4,c5⟩,_,cl⟩:=HZ.out.cells
  obtain⟨⟨z0,z1,z2,z3,z4,z5⟩,⟨f0,f1,f2,f3,f4,f5⟩,zl⟩:=HZ.out.ko
  dsimp only at c0 c1 c2 c3 c4 c5
  go_wp2_with fail
  exact bodyPost_ret (v:=.tuple #[bY ⟨1,ctl,tag,ls,(50:Int)+(h22:Int),⟨#[]⟩⟩,.int .i64 (p5:Int)]) (by simp[results,Tryz.results20,go_sem,bY,z0,z1,z2,z3,z4,z5,zl]) rfl ⟨by rw[HR'.out],jv HZ.out.zR _ _ _ _ _ _⟩
 ·have h23:how=23:=by omega
  have Ow:((how:Int) == 20)=false:=by simp;omega
  have Ox:((how:Int) == 21)=false:=by simp;omega
  have q22:((how:Int) == 22)=false:=by simp;omega
  have Oy:((how:Int) == 23)=true:=by simp;omega
  have HR':Hid (rr=⟨(a5:Int),ctl,tag,query,(a7:Int)+1,⟨#[]⟩⟩):=by
   rw[Xx.out]
   unfold Ru Rt Rs Rq Rp Ro
   rw[if_pos (show how=23 by omega),if_neg (show ¬(how=22) by omega),if_neg (show ¬(how=21) by omega),if_neg (show ¬(how=20) by omega),if_neg (show ¬(16≤how∧how<20) by omega),if_neg (show ¬(10≤how∧how<16) by omega)];rw[HA.out.2.1];try exact rfl
  obtain⟨⟨c0,c1,c2,c3,c4,c5⟩,⟨f0,f1,f2,f3,f4,f5⟩,cl⟩:=Kj.out.cells
  dsimp only at c0 c1 c2 c3 c4 c5
  have HZ:=Kj.out.set 0 (.int .i64 (a5:Int)) ⟨(a5:Int),ctl,tag,query,(a7:Int)+1,⟨#[]⟩⟩ rfl
  clear hA hB hC Ry h20 h21 h23
  go_upto_region 20 with fail
  clear c0 c1 c2 c3 c4 c5 f0 f1 f2 f3 f4 f5 cl
  revert HZ
  generalize X4.setCell ⟨R,0,none⟩ (.int .i64 (a5:Int))=Z
  intro hZ
  have HZ:=hide hZ
  clear hZ
  obtain⟨⟨c0,c1,c2,c3,c4,c5⟩,_,cl⟩:=HZ.out.cells
  obtain⟨⟨z0,z1,z2,z3,z4,z5⟩,⟨f0,f1,f2,f3,f4,f5⟩,zl⟩:=HZ.out.ko
  dsimp only at c0 c1 c2 c3 c4 c5
  go_wp2_with fail
  exact bodyPost_ret (v:=.tuple #[bY ⟨(a5:Int),ctl,tag,query,(a7:Int)+1,⟨#[]⟩⟩,.int .i64 (p5:Int)]) (by simp[results,Tryz.results20,go_sem,bY,z0,z1,z2,z3,z4,z5,zl]) rfl ⟨by rw[HR'.out],jv HZ.out.zR _ _ _ _ _ _⟩
end Go.Proofs.YtfdihjnlgdiioaaGreatDoor.dB
