import Derived.Test.YtfdihjnlgdiioaaGreatDoorG34
import Derived.Deep.LoopGhost
import Derived.Deep.DeepCutAuto
namespace Go.Proofs.YtfdihjnlgdiioaaGreatDoor.dB
open Go.ChangeShapes Go.WideShapes Go.ChangeAt Go.RowKit
set_option linter.unusedVariables false
set_option linter.unusedSimpArgs false
theorem RP.lit {w X:World} {R:Nat} {r:jM} {v:Value} (h:RP w R r v X) (s:ByteArray) :
  RP w R { r with rows:=[s] } (.slice (some ⟨X.heap.size,0,none⟩) 1 1) ((X.setCell ⟨R,4,none⟩ (.slice (some ⟨X.heap.size,0,none⟩) 1 1)).alloc (.cells #[.string s] 9)):=by
 have hRX:R<X.heap.size:=h.box.lt
 have e:(X.setCell ⟨R,4,none⟩ (.slice (some ⟨X.heap.size,0,none⟩) 1 1)).heap.size=X.heap.size:=Deep.nblk_setCell _ _ _
 have hF:FB sP 1 9 (R+1) ((X.setCell ⟨R,4,none⟩ (.slice (some ⟨X.heap.size,0,none⟩) 1 1)).alloc (.cells #[.string s] 9)) (.slice (some ⟨(X.setCell ⟨R,4,none⟩ (.slice (some ⟨X.heap.size,0,none⟩) 1 1)).heap.size,0,none⟩) 1 1) [s] :=
  World.ownsRow_lit (base:=R+1) (e:=9) (size:=1) _ #[.string s] 1 (by omega) (by unfold maxLen;omega) rfl
 rw[e] at hF
 have hb:=h.zR.setCell (p:=⟨R,4,none⟩) (Nat.le_of_lt h.lt) (.slice (some ⟨X.heap.size,0,none⟩) 1 1)
 refine⟨(h.res.other (by have:=h.lt;simp;omega) _).alloc _,?_,hF,hb.alloc hb.size _,h.lt⟩
 have:=(h.box.set 4 (.slice (some ⟨X.heap.size,0,none⟩) 1 1)).alloc (.cells #[.string s] 9)
 simpa [DY] using this
theorem Pg {lo:Nat} {w:World} {a:Option Addr} {c:Nat} {xs:List ByteArray} (h:bq lo w (.slice a xs.length c) xs) (k:Nat) (hk:k≤xs.length):bq lo w (.slice a k c) (xs.take k):=by
 obtain⟨h0,h⟩:=h
 have hl:(xs.take k).length=k:=by rw[List.length_take];omega
 refine⟨by omega,?_⟩
 rcases h with⟨a',cap,e,rfl⟩|⟨b,off,cap,e,hb,h⟩
 ·refine .inl ⟨a,c,?_,by simp⟩
  have:k=0:=by simpa using hk
  rw[this]
 ·injection e with e1 e2 e3
  refine .inr ⟨b,off,c,by rw[hl,e1],hb,fun i hi=>?_⟩
  have hi':i<xs.length:=by omega
  have:=h i hi'
  rw[List.getElem_take]
  exact this
theorem JI (lo:Nat) (w:World):bq lo w (.slice none 0 0) []:=⟨by simp,.inl ⟨none,0,rfl,rfl⟩⟩
def L8 (w:World) (r:jM) (q:Nat) (e:Ending) (w':World):Prop:=∃u,e=.returned (.tuple #[gU r u,.int .i64 (q:Int)])∧bq w.heap.size w' u r.rows∧Below w.heap.size w w'
set_option maxRecDepth 100000 in
set_option maxHeartbeats 16000000 in
theorem Aa (cs:List UInt8) (v:Value) (p:Nat) (w:World) {lo:Nat} (hv:iU lo w v cs) (hl:cs.length≤1048576) (hp:p≤3000000) :
  Calls Tryz.prog 36 #[v,.int .i64 (p:Int)] w (L8 w (gF cs p) (rY cs p)):=by
 obtain⟨X0,hX0⟩:∃x,w.alloc (.cells Hg 38)=x:=⟨_,rfl⟩
 have b0:Below w.heap.size w X0:=by rw[←hX0];exact aO _ _
 have Ak:Hid (aU X0 w.heap.size 38 Hg):=by rw[←hX0];exact aU.new _ _ _
 have e2:p+1+1=p+2:=by omega
 have e3:p+2+1=p+3:=by omega
 have e4:p+3+1=p+4:=by omega
 have HT1:=hide (fJ cs v p 24 X0 (At.kept bJ hv b0) hl (by omega) (by decide))
 have HT2:=hide (fJ cs v (p+1) 50 X0 (At.kept bJ hv b0) hl (by omega) (by decide))
 have HT3:=hide (fJ cs v (p+2) 6 X0 (At.kept bJ hv b0) hl (by omega) (by decide))
 have Un:=hide (zN cs v (p+3) X0 (At.kept bJ hv b0) hl (by omega))
 have Al:=jK cs p 24 (by decide)
 have ha:=jK cs (p+1) 50 (by decide)
 have hn6:=jK cs (p+2) 6 (by decide)
 have Rw:=hide (fun k (hk:k≤10) W (hb:Below w.heap.size w W)=>zO cs v (p+4+2 * k) W (At.kept bJ hv hb) hl (by omega))
 have HB0:=hide b0
 obtain⟨aa,cap,rfl,_⟩:=fO hv
 have htg:=xM cs (p+3)
 obtain⟨rr,hrr⟩:∃r,gF cs p=r:=⟨_,rfl⟩
 obtain⟨qn,XH⟩:∃r,rY cs p=r:=⟨_,rfl⟩
 rw[hrr,XH]
 unfold gF at hrr
 unfold rY at XH
 have HRS:=hide (fun k=>JH cs (p+4) k)
 have XL:=hide (fun k=>Pf cs (p+4) k)
 have qc:=hide (fun k=>Dm cs (p+4) k)
 obtain⟨how,hhw⟩:∃a,tk cs p 24=a:=⟨_,rfl⟩
 obtain⟨a,hae⟩:∃a,tk cs (p+1) 50=a:=⟨_,rfl⟩
 obtain⟨n,hne⟩:∃a,tk cs (p+2) 6=a:=⟨_,rfl⟩
 obtain⟨tag,Rx⟩:∃a,vQ cs (p+3)=a:=⟨_,rfl⟩
 obtain⟨rows,hrows⟩:∃f:Nat→List ByteArray,∀k,qp cs (p+4) k=f k:=⟨_,fun _=>rfl⟩
 obtain⟨txs,O6⟩:∃f:Nat→ByteArray,∀k,sw cs (p+4+2 * k)=f k:=⟨fun k=>sw cs (p+4+2 * k),fun _=>rfl⟩
 obtain⟨qf,hqf⟩:∃f:Nat→Nat,∀k,p+4+2 * k=f k:=⟨fun k=>p+4+2 * k,fun _=>rfl⟩
 rw[hhw] at HT1 Al hrr
 rw[hae] at HT2 ha hrr
 rw[hne] at HT3 hn6 hrr XH
 rw[Rx] at Un hrr htg
 rw[hrows] at hrr
 simp only[hrows,O6] at HRS XL qc
 have hq2:∀k,qf k+2=qf (k+1):=fun k=>by rw[←hqf,←hqf];omega
 have ae7:Hid (∀k,k≤10→∀W,Below w.heap.size w W→Calls Tryz.prog 51 #[.slice aa cs.length cap,.int .i64 ((qf k:Nat):Int)] W fun e w'=>e=.returned (.tuple #[.string (txs k),.int .i64 ((qf (k+1):Nat):Int)])∧Below W.heap.size W w'):=fun k hk W hb=>by
  have:=Rw.out k hk W hb
  rw[O6,hqf,hq2] at this
  exact this
 have HQF:Hid (qf n=qn):=by rw[←hqf];exact XH
 have GA:∀k,k≤10→qf k≤4000000:=fun k hk=>by rw[←hqf];omega
 have hq0:p+4=qf 0:=by rw[←hqf]
 rw[e2] at HT2
 rw[e3] at HT3
 rw[e4,hq0] at Un
 obtain⟨p1,hp1⟩:∃q,p+1=q:=⟨_,rfl⟩
 obtain⟨p2,hp2⟩:∃q,p+2=q:=⟨_,rfl⟩
 obtain⟨p3,hp3⟩:∃q,p+3=q:=⟨_,rfl⟩
 rw[hp1] at HT1 HT2
 rw[hp2] at HT2 HT3
 rw[hp3] at HT3 Un
 have HRR:=hide hrr
 have Rl:Hid (rows 0=[]):=by rw[←hrows];exact rfl
 have HQB:=hide GA
 obtain⟨a8,ha8⟩:∃q,a % 8=q:=⟨_,rfl⟩
 obtain⟨a3,Xn⟩:∃q,a % 3=q:=⟨_,rfl⟩
 obtain⟨a2,ha2⟩:∃q,a % 2=q:=⟨_,rfl⟩
 obtain⟨h2,YZ⟩:∃q,a / 2=q:=⟨_,rfl⟩
 obtain⟨h22,K7⟩:∃q,h2 % 2=q:=⟨_,rfl⟩
 have m8:(a:Int).tmod 8=(a8:Int):=by rw[Int.tmod_eq_emod_of_nonneg (by omega),←ha8];omega
 have m3:(a:Int).tmod 3=(a3:Int):=by rw[Int.tmod_eq_emod_of_nonneg (by omega),←Xn];omega
 have m2:(a:Int).tmod 2=(a2:Int):=by rw[Int.tmod_eq_emod_of_nonneg (by omega),←ha2];omega
 have d2:(a:Int).tdiv 2=(h2:Int):=by rw[Int.tdiv_eq_ediv_of_nonneg (by omega),←YZ];omega
 have m22:(h2:Int).tmod 2=(h22:Int):=by rw[Int.tmod_eq_emod_of_nonneg (by omega),←K7];omega
 have b8:a8<8:=by omega
 have b3:a3<3:=by omega
 have b2:a2<2:=by omega
 have bh2:h2<25:=by omega
 have b22:h22<2:=by omega
 have acK:=hide (fun W=>nG a8 W (by omega))
 have K4:=hide (fun W=>nG a W (by omega))
 have ae8:=ji a8 (by omega)
 have hds:=ji a (by omega)
 obtain⟨dt8,aam⟩:∃t,bR a8=t:=⟨_,rfl⟩
 obtain⟨dt,hdt⟩:∃t,bR a=t:=⟨_,rfl⟩
 rw[aam] at acK ae8
 rw[hdt] at K4 hds
 obtain⟨ctl,yZ⟩:∃c,(⟨#[85,48,45]⟩:ByteArray)++dt8=c:=⟨_,rfl⟩
 obtain⟨pp,hpp⟩:∃c,(⟨#[112]⟩:ByteArray)++dt=c:=⟨_,rfl⟩
 obtain⟨ptr,GD⟩:∃c,(if a3=0 then pp else ⟨#[]⟩)=c:=⟨_,rfl⟩
 have hc3:(⟨#[85,48,45]⟩:ByteArray).size=3:=rfl
 have hc1:(⟨#[112]⟩:ByteArray).size=1:=rfl
 have HU:Hid (XT a=ctl):=by unfold XT;rw[ha8,aam];exact yZ
 have HP0:Hid (XU a tag (rows n)=⟨⟨#[65,65]⟩,ctl,0,tag,rows n,ptr⟩):=by unfold XU;rw[HU.out,Xn,hdt,hpp,GD];exact rfl
 have acL:=hide GD
 have HA:Hid (a % 2=a2∧a / 2 % 2=h22):=⟨ha2,by rw[YZ];exact K7⟩
 have HX0:Hid (w.alloc (.cells #[.string ⟨#[]⟩,.string ⟨#[]⟩,.int .i64 0,.string ⟨#[]⟩,.slice none 0 0,.string ⟨#[]⟩] 38)=X0):=hX0
 clear hv hhw hae hne Rx hrows O6 hqf hrr XH hdt aam b0 hX0 e2 e3 e4 hp1 hp2 hp3 ha8 Xn ha2 YZ K7 Rw hq2 hq0 GA GD
 go_enter Tryz.func36,Tryz.ntmps36
 go_wp2_with fail
 rw[HX0.out]
 refine HT1.out.mono ?_
 rintro e w2 ⟨rfl,hw2⟩
 rw[hw2]
 clear hw2 w2
 go_wp2_with fail
 refine HT2.out.mono ?_
 rintro e w2 ⟨rfl,hw2⟩
 rw[hw2]
 clear hw2 w2
 go_wp2_with fail
 refine HT3.out.mono ?_
 rintro e w2 ⟨rfl,hw2⟩
 rw[hw2]
 clear hw2 w2
 go_wp2_with fail
 refine Un.out.mono ?_
 rintro e W1 ⟨rfl,hb1⟩
 have HB1:=hide hb1
 clear hb1
 go_wp2_with fail
 refine(acK.out W1).mono ?_
 rintro e W3 ⟨rfl,hb3⟩
 have HB3:=hide (aj hb3 HB1.out)
 clear hb3
 go_wp2_with fail
 obtain⟨X4,Ja⟩:∃x,W3.alloc (Obj.cells #[.string ⟨#[65,65]⟩,.string ctl,.int .i64 0,.string tag,.slice none 0 0,.string ⟨#[]⟩] 38)=x:=⟨_,rfl⟩
 rw[Ja]
 have yw:Hid (RP w W3.heap.size ⟨⟨#[65,65]⟩,ctl,0,tag,[],⟨#[]⟩⟩ (.slice none 0 0) X4):=by
  rw[←Ja]
  exact⟨(Ak.out.below HB3.out).alloc _,aU.new _ _ _,FB.nil _ _ _ _ _,(aj HB3.out HB0.out).alloc (aj HB3.out HB0.out).size _,Nat.lt_of_lt_of_le Ak.out.lt HB3.out.size⟩
 obtain⟨R,hR⟩:∃R,W3.heap.size=R:=⟨_,rfl⟩
 rw[hR] at yw ⊢
 clear Ja hR
 go_loopg [10,12] n (fun z qv i wr=>∃(k:Nat) (av:Option Addr) (cv:Nat),k≤n∧z=n - k∧qv=.int .i64 ((qf k:Nat):Int)∧i=.int .i64 (k:Int)∧RP w R ⟨⟨#[65,65]⟩,ctl,0,tag,rows k,⟨#[]⟩⟩ (.slice av k cv) wr)
 case atStart=>exact⟨0,none,0,eH _,rfl,rfl,rfl,by rw[Rl.out];exact yw.out⟩
 case round =>
  clear yw
  obtain⟨k,av,cv,hk,rfl,rfl,rfl,Sd⟩:=hrel
  have yw:=hide Sd
  clear Sd
  obtain⟨Y,rfl⟩:∃x,x=wr:=⟨_,rfl⟩
  by_cases hlt:k<n
  ·have hki:(k:Int)<(n:Int):=by omega
   have hqk:=HQB.out k (by omega)
   have HCT:=hide (ae7.out k (by omega) Y yw.out.zR)
   obtain⟨qk,acM⟩:∃q,qf k=q:=⟨_,rfl⟩
   obtain⟨tx,htx⟩:∃q,txs k=q:=⟨_,rfl⟩
   rw[acM] at HCT hqk ⊢
   rw[htx] at HCT
   have Q6:Hid (rows (k+1)=rows k++[tx]):=by rw[HRS.out k,htx];trivial
   clear acM htx
   go_wp2_with fail
   refine HCT.out.mono ?_
   rintro e Y5 ⟨rfl,hb5⟩
   have acN:=hide (yw.out.below hb5)
   clear hb5
   obtain⟨a',c',w',hr,JJ,g4,g5,g6,_⟩:=acN.out.more tx (qc.out k) (by omega)
   have HF:Hid (RP w R ⟨⟨#[65,65]⟩,ctl,0,tag,rows (k+1),⟨#[]⟩⟩ (.slice a' (k+1) c') (w'.setCell ⟨R,4,none⟩ (.slice a' (k+1) c'))):=by rw[Q6.out];exact JJ
   obtain⟨⟨_,_,_,_,c4,_⟩,_,cl⟩:=acN.out.cells
   obtain⟨qk1,aan⟩:∃q,qf (k+1)=q:=⟨_,rfl⟩
   have HQK:=hide aan
   rw[aan]
   clear JJ aan
   go_wp2_with (first|(at_builtin;refine bH rfl _ _ 36 rfl hr (by first|rfl|simp[Act.eval,Act.put]) (by first|rfl|simp[Act.eval,Act.put]) ?_))
   go_roundg (n - (k+1))
   case measure=>omega
   case rel=>exact⟨k+1,a',c',by omega,rfl,by rw[HQK.out],by go_num,HF.out⟩
  ·obtain rfl:k=n:=by omega
   have hki:¬(k:Int)<(k:Int):=by omega
   rw[HQF.out]
   have GH:=hide (qc.out k)
   have S9:=hide (XL.out k)
   obtain⟨rs,hrs⟩:∃r,rows k=r:=⟨_,rfl⟩
   rw[hrs] at yw GH S9 HP0 HRR
   clear HRS XL qc Rl hrs
   go_upto_if 66 with fail
   go_cut [5] (fun v5 wx=>v5=.int .i64 0∧RP w R ⟨⟨#[65,65]⟩,ctl,0,tag,rs,ptr⟩ (.slice av k cv) wx)
   case first =>
    by_cases h3:a3=0
    ·have h3b:((a3:Int) == 0)=true:=by simp;omega
     have VN:Hid (ptr=pp):=by rw[←acL.out,if_pos h3];trivial
     clear h3
     go_wp2_with fail
     refine(K4.out Y).mono ?_
     rintro e Y6 ⟨rfl,hb6⟩
     have acO:=hide (yw.out.below hb6)
     clear hb6
     obtain⟨⟨_,_,_,_,_,c5⟩,⟨_,_,_,_,_,f5⟩,cl⟩:=acO.out.cells
     dsimp only at c5
     have HF:Hid (RP w R ⟨⟨#[65,65]⟩,ctl,0,tag,rs,ptr⟩ (.slice av k cv) (Y6.setCell ⟨R,5,none⟩ (.string pp))):=by rw[VN.out];exact acO.out.set 5 (.string pp) _ rfl rfl
     go_wp2_with fail
     go_meet
     case rel=>exact⟨rfl,HF.out⟩
    ·have h3b:((a3:Int) == 0)=false:=by simp;omega
     have VN:Hid (ptr=⟨#[]⟩):=by rw[←acL.out,if_neg h3];trivial
     clear h3
     go_wp2_with fail
     go_meet
     case rel=>exact⟨rfl,by rw[VN.out];exact yw.out⟩
   case rest =>
    clear yw
    obtain⟨Y2,rfl⟩:∃x,x=wc:=⟨_,rfl⟩
    obtain⟨rfl,Sd⟩:=hcut
    have yw:=hide Sd
    clear Sd
    by_cases hA:how<16
    ·have g16:¬(16:Int)≤(how:Int):=by omega
     have q19:((how:Int) == 19)=false:=by simp;omega
     have Ow:((how:Int) == 20)=false:=by simp;omega
     have Ox:((how:Int) == 21)=false:=by simp;omega
     have q22:((how:Int) == 22)=false:=by simp;omega
     have Oy:((how:Int) == 23)=false:=by simp;omega
     have HR':Hid (rr=⟨⟨#[65,65]⟩,ctl,0,tag,rs,ptr⟩):=by
      rw[←HRR.out]
      unfold yu
      rw[if_pos (show how<16 by omega)];exact HP0.out
     have HZ:=hide (yw.out.rt (by rw[GH.out];omega) (fun s hs=>Nat.le_trans (S9.out s hs) (by decide)))
     clear hA
     go_upto_region 33 with fail
     obtain⟨⟨c0,c1,c2,c3,c4,c5⟩,cl⟩:=HZ.out.cells
     obtain⟨⟨z0,z1,z2,z3,z4,z5⟩,⟨f0,f1,f2,f3,f4,f5⟩,zl⟩:=HZ.out.ko
     dsimp only at c0 c1 c2 c3 c4 c5
     go_wp2_with fail
     exact bodyPost_ret (v:=.tuple #[gU ⟨⟨#[65,65]⟩,ctl,0,tag,rs,ptr⟩ (.slice av k cv),.int .i64 (qn:Int)]) (by simp[results,Tryz.results36,go_sem,gU,z0,z1,z2,z3,z4,z5,zl]) rfl ⟨(.slice av k cv),by rw[HR'.out],by rw[HR'.out];exact(HZ.out.done _ _ _ _ _ _).1,(HZ.out.done _ _ _ _ _ _).2⟩
    have g16:(16:Int)≤(how:Int):=by omega
    by_cases hB:how<19
    ·have l19:(how:Int)<19:=by omega
     have q19:((how:Int) == 19)=false:=by simp;omega
     have Ow:((how:Int) == 20)=false:=by simp;omega
     have Ox:((how:Int) == 21)=false:=by simp;omega
     have q22:((how:Int) == 22)=false:=by simp;omega
     have Oy:((how:Int) == 23)=false:=by simp;omega
     have acP:((200+a:Nat):Int)=(200:Int)+(a:Int):=by omega
     have HR':Hid (rr=⟨⟨#[65,69]⟩,ctl,(200:Int)+(a:Int),tag,[],⟨#[]⟩⟩):=by
      rw[←HRR.out]
      unfold yu
      rw[if_neg (show ¬(how<16) by omega),if_pos (show how<19 by omega)];rw[HU.out,acP];exact rfl
     clear hA hB acP
     obtain⟨⟨c0,c1,c2,c3,c4,c5⟩,⟨f0,f1,f2,f3,f4,f5⟩,cl⟩:=yw.out.cells
     dsimp only at c0 c1 c2 c3 c4 c5
     have HZ:=yw.out.fill (.string ⟨#[65,69]⟩) (.string ctl) (.int .i64 ((200:Int)+(a:Int))) (.string tag) (.slice none 0 0) (.string ⟨#[]⟩) (⟨⟨#[65,69]⟩,ctl,(200:Int)+(a:Int),tag,[],⟨#[]⟩⟩:jM) (.slice none 0 0) rfl (JI _ _)
     go_upto_region 33 with fail
     clear c0 c1 c2 c3 c4 c5 f0 f1 f2 f3 f4 f5 cl
     revert HZ
     generalize (((((Y2.setCell ⟨R,0,none⟩ (.string ⟨#[65,69]⟩)).setCell ⟨R,1,none⟩ (.string ctl)).setCell ⟨R,2,none⟩ (.int .i64 ((200:Int)+(a:Int)))).setCell ⟨R,3,none⟩ (.string tag)).setCell ⟨R,4,none⟩ (.slice none 0 0)).setCell ⟨R,5,none⟩ (.string ⟨#[]⟩)=Z
     intro hZ
     have HZ:=hide hZ
     clear hZ
     obtain⟨⟨c0,c1,c2,c3,c4,c5⟩,cl⟩:=HZ.out.cells
     obtain⟨⟨z0,z1,z2,z3,z4,z5⟩,⟨f0,f1,f2,f3,f4,f5⟩,zl⟩:=HZ.out.ko
     dsimp only at c0 c1 c2 c3 c4 c5
     go_wp2_with fail
     exact bodyPost_ret (v:=.tuple #[gU ⟨⟨#[65,69]⟩,ctl,(200:Int)+(a:Int),tag,[],⟨#[]⟩⟩ (.slice none 0 0),.int .i64 (qn:Int)]) (by simp[results,Tryz.results36,go_sem,gU,z0,z1,z2,z3,z4,z5,zl]) rfl ⟨(.slice none 0 0),by rw[HR'.out],by rw[HR'.out];exact(HZ.out.done _ _ _ _ _ _).1,(HZ.out.done _ _ _ _ _ _).2⟩
    have l19:¬(how:Int)<19:=by omega
    by_cases h19:how=19
    ·have acQ:((1+998 * a2:Nat):Int)=(1:Int)+998 * (a2:Int):=by omega
     have q19:((how:Int) == 19)=true:=by simp;omega
     have Ow:((how:Int) == 20)=false:=by simp;omega
     have Ox:((how:Int) == 21)=false:=by simp;omega
     have q22:((how:Int) == 22)=false:=by simp;omega
     have Oy:((how:Int) == 23)=false:=by simp;omega
     have HR':Hid (rr=⟨⟨#[65,82]⟩,⟨#[]⟩,(1:Int)+998 * (a2:Int),⟨#[]⟩,[],⟨#[]⟩⟩):=by
      rw[←HRR.out]
      unfold yu
      rw[if_neg (show ¬(how<16) by omega),if_neg (show ¬(how<19) by omega),if_pos (show how=19 by omega)];rw[HA.out.1,acQ];exact rfl
     clear hA hB h19 acQ
     obtain⟨⟨c0,c1,c2,c3,c4,c5⟩,⟨f0,f1,f2,f3,f4,f5⟩,cl⟩:=yw.out.cells
     dsimp only at c0 c1 c2 c3 c4 c5
     have HZ:=yw.out.fill (.string ⟨#[65,82]⟩) (.string ⟨#[]⟩) (.int .i64 ((1:Int)+998 * (a2:Int))) (.string ⟨#[]⟩) (.slice none 0 0) (.string ⟨#[]⟩) (⟨⟨#[65,82]⟩,⟨#[]⟩,(1:Int)+998 * (a2:Int),⟨#[]⟩,[],⟨#[]⟩⟩:jM) (.slice none 0 0) rfl (JI _ _)
     go_upto_region 33 with fail
     clear c0 c1 c2 c3 c4 c5 f0 f1 f2 f3 f4 f5 cl
     revert HZ
     generalize (((((Y2.setCell ⟨R,0,none⟩ (.string ⟨#[65,82]⟩)).setCell ⟨R,1,none⟩ (.string ⟨#[]⟩)).setCell ⟨R,2,none⟩ (.int .i64 ((1:Int)+998 * (a2:Int)))).setCell ⟨R,3,none⟩ (.string ⟨#[]⟩)).setCell ⟨R,4,none⟩ (.slice none 0 0)).setCell ⟨R,5,none⟩ (.string ⟨#[]⟩)=Z
     intro hZ
     have HZ:=hide hZ
     clear hZ
     obtain⟨⟨c0,c1,c2,c3,c4,c5⟩,cl⟩:=HZ.out.cells
     obtain⟨⟨z0,z1,z2,z3,z4,z5⟩,⟨f0,f1,f2,f3,f4,f5⟩,zl⟩:=HZ.out.ko
     dsimp only at c0 c1 c2 c3 c4 c5
     go_wp2_with fail
     exact bodyPost_ret (v:=.tuple #[gU ⟨⟨#[65,82]⟩,⟨#[]⟩,(1:Int)+998 * (a2:Int),⟨#[]⟩,[],⟨#[]⟩⟩ (.slice none 0 0),.int .i64 (qn:Int)]) (by simp[results,Tryz.results36,go_sem,gU,z0,z1,z2,z3,z4,z5,zl]) rfl ⟨(.slice none 0 0),by rw[HR'.out],by rw[HR'.out];exact(HZ.out.done _ _ _ _ _ _).1,(HZ.out.done _ _ _ _ _ _).2⟩
    by_cases h20:how=20
    ·have e0:(0:Int)≤(a2:Int):=by omega
     have q19:((how:Int) == 19)=false:=by simp;omega
     have Ow:((how:Int) == 20)=true:=by simp;omega
     have Ox:((how:Int) == 21)=false:=by simp;omega
     have q22:((how:Int) == 22)=false:=by simp;omega
     have Oy:((how:Int) == 23)=false:=by simp;omega
     have HR':Hid (rr=⟨⟨#[65,88]⟩,ctl,(a2:Int),tag,rs,ptr⟩):=by
      rw[←HRR.out]
      unfold yu
      rw[if_neg (show ¬(how<16) by omega),if_neg (show ¬(how<19) by omega),if_neg (show ¬(how=19) by omega),if_pos (show how=20 by omega)];rw[HP0.out,HA.out.1];exact rfl
     obtain⟨⟨c0,c1,c2,c3,c4,c5⟩,⟨f0,f1,f2,f3,f4,f5⟩,cl⟩:=yw.out.cells
     dsimp only at c0 c1 c2 c3 c4 c5
     have hz1:=yw.out.set 2 (.int .i64 (a2:Int)) (⟨⟨#[65,65]⟩,ctl,(a2:Int),tag,rs,ptr⟩:jM) rfl rfl
     have hz2:=hz1.set 0 (.string ⟨#[65,88]⟩) (⟨⟨#[65,88]⟩,ctl,(a2:Int),tag,rs,ptr⟩:jM) rfl rfl
     have HZ:=hz2.rt (by rw[GH.out];omega) (fun s hs=>Nat.le_trans (S9.out s hs) (by decide))
     clear hA hB h19 h20 hz1 hz2
     go_upto_region 33 with fail
     clear c0 c1 c2 c3 c4 c5 f0 f1 f2 f3 f4 f5 cl
     revert HZ
     generalize (Y2.setCell ⟨R,2,none⟩ (.int .i64 (a2:Int))).setCell ⟨R,0,none⟩ (.string ⟨#[65,88]⟩)=Z
     intro hZ
     have HZ:=hide hZ
     clear hZ
     obtain⟨⟨c0,c1,c2,c3,c4,c5⟩,cl⟩:=HZ.out.cells
     obtain⟨⟨z0,z1,z2,z3,z4,z5⟩,⟨f0,f1,f2,f3,f4,f5⟩,zl⟩:=HZ.out.ko
     dsimp only at c0 c1 c2 c3 c4 c5
     go_wp2_with fail
     exact bodyPost_ret (v:=.tuple #[gU ⟨⟨#[65,88]⟩,ctl,(a2:Int),tag,rs,ptr⟩ (.slice av k cv),.int .i64 (qn:Int)]) (by simp[results,Tryz.results36,go_sem,gU,z0,z1,z2,z3,z4,z5,zl]) rfl ⟨(.slice av k cv),by rw[HR'.out],by rw[HR'.out];exact(HZ.out.done _ _ _ _ _ _).1,(HZ.out.done _ _ _ _ _ _).2⟩
    by_cases h21:how=21
    ·have acR:((999+a2:Nat):Int)=(999:Int)+(a2:Int):=by omega
     obtain⟨nh,hnh⟩:∃q,k * h22=q:=⟨_,rfl⟩
     have ae9:nh≤k:=by rw[←hnh];exact Nat.le_trans (Nat.mul_le_mul_left k (by omega:h22≤1)) (by omega)
     have ahe:(k:Int) * (h22:Int)=(nh:Int):=by rw[←hnh];exact(Int.natCast_mul k h22).symm
     have hcap:k≤cv:=by
      obtain⟨a',c',e',hle,_⟩:=yw.out.row.form
      rw[show (⟨⟨#[65,65]⟩,ctl,0,tag,rs,ptr⟩:jM).rows.length=k from GH.out] at e' hle
      injection e' with _ _ e3
      omega
     have ahf:cv≤9223372036854775807:=by
      obtain⟨a',c',e',_,hle⟩:=yw.out.row.form
      injection e' with _ _ e3
      omega
     have hnc:(nh:Int)≤(cv:Int):=by omega
     have hn0:(0:Int)≤(nh:Int):=by omega
     have q19:((how:Int) == 19)=false:=by simp;omega
     have Ow:((how:Int) == 20)=false:=by simp;omega
     have Ox:((how:Int) == 21)=true:=by simp;omega
     have q22:((how:Int) == 22)=false:=by simp;omega
     have Oy:((how:Int) == 23)=false:=by simp;omega
     have HR':Hid (rr=⟨⟨#[65,69]⟩,⟨#[]⟩,(999:Int)+(a2:Int),⟨#[]⟩,rs.take nh,⟨#[]⟩⟩):=by
      rw[←HRR.out]
      unfold yu
      rw[if_neg (show ¬(how<16) by omega),if_neg (show ¬(how<19) by omega),if_neg (show ¬(how=19) by omega),if_neg (show ¬(how=20) by omega),if_pos (show how=21 by omega)];rw[HA.out.1,HA.out.2,hnh,acR];exact rfl
     have Ph:Hid (bq (R+1) Y2 (.slice av nh cv) (rs.take nh)):=Pg (by rw[GH.out];exact(yw.out.rt (by rw[GH.out];omega) (fun s hs=>Nat.le_trans (S9.out s hs) (by decide))).strs) nh (by rw[GH.out];exact ae9)
     clear hA hB h19 h20 h21 acR hnh
     obtain⟨⟨c0,c1,c2,c3,c4,c5⟩,⟨f0,f1,f2,f3,f4,f5⟩,cl⟩:=yw.out.cells
     dsimp only at c0 c1 c2 c3 c4 c5
     have HZ:=yw.out.fill (.string ⟨#[65,69]⟩) (.string ⟨#[]⟩) (.int .i64 ((999:Int)+(a2:Int))) (.string ⟨#[]⟩) (.slice av nh cv) (.string ⟨#[]⟩) (⟨⟨#[65,69]⟩,⟨#[]⟩,(999:Int)+(a2:Int),⟨#[]⟩,rs.take nh,⟨#[]⟩⟩:jM) (.slice av nh cv) rfl Ph.out
     go_upto_region 33 with fail
     clear c0 c1 c2 c3 c4 c5 f0 f1 f2 f3 f4 f5 cl
     revert HZ
     generalize (((((Y2.setCell ⟨R,0,none⟩ (.string ⟨#[65,69]⟩)).setCell ⟨R,1,none⟩ (.string ⟨#[]⟩)).setCell ⟨R,2,none⟩ (.int .i64 ((999:Int)+(a2:Int)))).setCell ⟨R,3,none⟩ (.string ⟨#[]⟩)).setCell ⟨R,4,none⟩ (.slice av nh cv)).setCell ⟨R,5,none⟩ (.string ⟨#[]⟩)=Z
     intro hZ
     have HZ:=hide hZ
     clear hZ
     obtain⟨⟨c0,c1,c2,c3,c4,c5⟩,cl⟩:=HZ.out.cells
     obtain⟨⟨z0,z1,z2,z3,z4,z5⟩,⟨f0,f1,f2,f3,f4,f5⟩,zl⟩:=HZ.out.ko
     dsimp only at c0 c1 c2 c3 c4 c5
     go_wp2_with fail
     exact bodyPost_ret (v:=.tuple #[gU ⟨⟨#[65,69]⟩,⟨#[]⟩,(999:Int)+(a2:Int),⟨#[]⟩,rs.take nh,⟨#[]⟩⟩ (.slice av nh cv),.int .i64 (qn:Int)]) (by simp[results,Tryz.results36,go_sem,gU,z0,z1,z2,z3,z4,z5,zl]) rfl ⟨(.slice av nh cv),by rw[HR'.out],by rw[HR'.out];exact(HZ.out.done _ _ _ _ _ _).1,(HZ.out.done _ _ _ _ _ _).2⟩
    by_cases Ry:how=22
    ·obtain⟨T,hT⟩:∃q,200+a2=q:=⟨_,rfl⟩
     have eT:(200:Int)+(a2:Int)=(T:Int):=by omega
     have hTb:200≤T∧T≤201:=by omega
     have q19:((how:Int) == 19)=false:=by simp;omega
     have Ow:((how:Int) == 20)=false:=by simp;omega
     have Ox:((how:Int) == 21)=false:=by simp;omega
     have q22:((how:Int) == 22)=true:=by simp;omega
     have Oy:((how:Int) == 23)=false:=by simp;omega
     have HR':Hid (rr=⟨⟨#[65,65]⟩,ctl,0,tag,rs++List.replicate (T - k) ⟨#[114]⟩,ptr⟩):=by
      rw[←HRR.out]
      unfold yu
      rw[if_neg (show ¬(how<16) by omega),if_neg (show ¬(how<19) by omega),if_neg (show ¬(how=19) by omega),if_neg (show ¬(how=20) by omega),if_neg (show ¬(how=21) by omega),if_pos (show how=22 by omega)];rw[HP0.out,HA.out.1,hT];exact rfl
     obtain⟨nf,hnf⟩:∃f:Nat→Nat,∀j,k+j=f j:=⟨fun j=>k+j,fun _=>rfl⟩
     have PW:=hide hnf
     have afa:Hid (nf 0=k):=(hnf 0).symm
     obtain⟨⟨_,_,_,_,c4,_⟩,_,cl⟩:=yw.out.cells
     (try dsimp only at c4)
     clear hA hB h19 h20 h21 Ry hT hnf
     go_wp2_with fail
     clear c4 cl
     go_loopg [112] (T - k) (fun z _ wr=>∃(j:Nat) (av:Option Addr) (cv:Nat),j≤T - k∧z=T - k - j∧RP w R ⟨⟨#[65,65]⟩,ctl,0,tag,rs++List.replicate j ⟨#[114]⟩,ptr⟩ (.slice av (nf j) cv) wr)
     case atStart=>exact⟨0,av,cv,eH _,rfl,by rw[afa.out];simpa using yw.out⟩
     case round =>
      clear yw
      obtain⟨j,Wz,Qb,hj,rfl,JK⟩:=hrel
      obtain⟨Y3,rfl⟩:∃x,x=wr:=⟨_,rfl⟩
      have WA:=PW.out j
      have acS:=PW.out (j+1)
      obtain⟨nj,acT⟩:∃q,nf j=q:=⟨_,rfl⟩
      rw[acT] at WA JK
      have aao:=hide JK
      clear JK acT
      obtain⟨⟨_,_,_,_,c4,_⟩,_,cl⟩:=aao.out.cells
      (try dsimp only at c4)
      by_cases hjt:j<T - k
      ·have YO:(nj:Int)<(T:Int):=by omega
       obtain⟨a',c',w',hr,JJ,g4,g5,g6,_⟩:=aao.out.more ⟨#[114]⟩ (n:=nj) (by show (rs++List.replicate j ⟨#[114]⟩:List ByteArray).length=nj;rw[List.length_append,List.length_replicate,GH.out];exact WA) (by omega)
       have HF:Hid (RP w R ⟨⟨#[65,65]⟩,ctl,0,tag,rs++List.replicate (j+1) ⟨#[114]⟩,ptr⟩ (.slice a' (nf (j+1)) c') (w'.setCell ⟨R,4,none⟩ (.slice a' (nj+1) c'))):=by
        rw[←acS,show k+(j+1)=nj+1 by omega,List.replicate_succ',←List.append_assoc]
        exact JJ
       clear JJ WA acS
       go_wp2_with (first|(at_builtin;refine bH rfl _ _ 36 rfl hr (by first|rfl|simp[Act.eval,Act.put]) (by first|rfl|simp[Act.eval,Act.put]) ?_))
       go_roundg (T - k - (j+1))
       case measure=>omega
       case rel=>exact⟨j+1,a',c',by omega,rfl,HF.out⟩
      ·obtain rfl:j=T - k:=by omega
       have YO:¬(nj:Int)<(T:Int):=by omega
       have HZ:=hide (aao.out.rt (by show (rs++List.replicate (T - k) ⟨#[114]⟩:List ByteArray).length≤_;rw[List.length_append,List.length_replicate,GH.out];omega) (fun s hs=>(List.mem_append.1 hs).elim (fun h=>Nat.le_trans (S9.out s h) (by decide)) (fun h=>by rw[List.eq_of_mem_replicate h];decide)))
       go_upto_region 33 with fail
       clear c4 cl
       obtain⟨⟨c0,c1,c2,c3,c4,c5⟩,cl⟩:=HZ.out.cells
       obtain⟨⟨z0,z1,z2,z3,z4,z5⟩,⟨f0,f1,f2,f3,f4,f5⟩,zl⟩:=HZ.out.ko
       dsimp only at c0 c1 c2 c3 c4 c5
       go_wp2_with fail
       exact bodyPost_ret (v:=.tuple #[gU ⟨⟨#[65,65]⟩,ctl,0,tag,rs++List.replicate (T - k) ⟨#[114]⟩,ptr⟩ (.slice Wz nj Qb),.int .i64 (qn:Int)]) (by simp[results,Tryz.results36,go_sem,gU,z0,z1,z2,z3,z4,z5,zl]) rfl ⟨(.slice Wz nj Qb),by rw[HR'.out],by rw[HR'.out];exact(HZ.out.done _ _ _ _ _ _).1,(HZ.out.done _ _ _ _ _ _).2⟩
    ·have h23:how=23:=by omega
     obtain⟨T,hT⟩:∃q,200+a2=q:=⟨_,rfl⟩
     have eT:(200:Int)+(a2:Int)=(T:Int):=by omega
     have hTb:200≤T∧T≤201:=by omega
     obtain⟨M,hM⟩:∃q,70 * h22=q:=⟨_,rfl⟩
     have eM:(70:Int) * (h22:Int)=(M:Int):=by omega
     have hMb:M≤70:=by omega
     obtain⟨ls,hls⟩:∃s,lg 124 T=s:=⟨_,rfl⟩
     obtain⟨l2,hl2⟩:∃s,lg 124 200=s:=⟨_,rfl⟩
     have HLS:Hid (ls.size≤1000∧l2.size≤1000):=by
      have e1:(⟨#[124]⟩:ByteArray).size=1:=rfl
      have h1:=nH ⟨#[124]⟩ (T+1) T
      have h2:=nH ⟨#[124]⟩ (200+1) 200
      refine⟨?_,?_⟩
      ·rw[←hls];unfold lg;omega
      ·rw[←hl2];unfold lg;omega
     have Uo:Hid (∀W,Calls Tryz.prog 52 #[.int .i64 (T:Int),.string ⟨#[124]⟩] W fun e w'=>e=.returned (.string ls)∧w'=W):=fun W=>by rw[←hls];exact oQ ⟨#[124]⟩ (by decide) (by decide) T (by omega) W
     have HLD:Hid (∀W,Calls Tryz.prog 52 #[.int .i64 200,.string ⟨#[124]⟩] W fun e w'=>e=.returned (.string l2)∧w'=W):=fun W=>by rw[←hl2];exact oQ ⟨#[124]⟩ (by decide) (by decide) 200 (by omega) W
     have q19:((how:Int) == 19)=false:=by simp;omega
     have Ow:((how:Int) == 20)=false:=by simp;omega
     have Ox:((how:Int) == 21)=false:=by simp;omega
     have q22:((how:Int) == 22)=false:=by simp;omega
     have Oy:((how:Int) == 23)=true:=by simp;omega
     have HR':Hid (rr=⟨⟨#[65,65]⟩,ctl,0,tag,ls :: List.replicate M l2,ptr⟩):=by
      rw[←HRR.out]
      unfold yu
      rw[if_neg (show ¬(how<16) by omega),if_neg (show ¬(how<19) by omega),if_neg (show ¬(how=19) by omega),if_neg (show ¬(how=20) by omega),if_neg (show ¬(how=21) by omega),if_neg (show ¬(how=22) by omega)];rw[HP0.out,HA.out.1,HA.out.2,hT,hM,hls,hl2];exact rfl
     obtain⟨⟨c0,c1,c2,c3,c4,c5⟩,⟨f0,f1,f2,f3,f4,f5⟩,cl⟩:=yw.out.cells
     dsimp only at c0 c1 c2 c3 c4 c5
     have hlit:=yw.out.lit ls
     clear hA hB h19 h20 h21 Ry h23 hT hM hls hl2
     go_wp2_with fail
     (try rw[eT])
     refine(Uo.out Y2).mono ?_
     rintro e W5 ⟨rfl,NT⟩
     rw[NT]
     clear NT W5
     go_wp2_with fail
     clear c0 c1 c2 c3 c4 c5 f0 f1 f2 f3 f4 f5 cl
     revert hlit
     generalize ((Y2.setCell ⟨R,4,none⟩ (.slice (some ⟨Y2.heap.size,0,none⟩) 1 1)).alloc (.cells #[.string ls] 9))=Z0
     intro hlit
     have aap:=hide hlit
     clear hlit
     obtain⟨ny,hny⟩:∃q,Y2.heap.size=q:=⟨_,rfl⟩
     rw[hny] at aap ⊢
     clear hny
     go_loopg [15] M (fun z i wr=>∃(j:Nat) (av:Option Addr) (cv:Nat),j≤M∧z=M - j∧i=.int .i64 (j:Int)∧RP w R ⟨⟨#[65,65]⟩,ctl,0,tag,ls :: List.replicate j l2,ptr⟩ (.slice av (j+1) cv) wr)
     case atStart=>exact⟨0,_,_,eH _,rfl,rfl,aap.out⟩
     case round =>
      clear aap yw
      obtain⟨j,Wz,Qb,hj,rfl,rfl,JK⟩:=hrel
      obtain⟨Y3,rfl⟩:∃x,x=wr:=⟨_,rfl⟩
      by_cases hjt:j<M
      ·have hji:(j:Int)<(M:Int):=by omega
       obtain⟨D,hD⟩:∃D,Y3.drew=D:=⟨_,rfl⟩
       have hbD:Below Y3.heap.size Y3 D:=by rw[←hD];exact(Below.refl _ _).drew
       have Ta:=JK.below hbD
       obtain⟨nj,WA⟩:∃q,j+1=q:=⟨_,rfl⟩
       rw[WA] at Ta
       obtain⟨a',c',w',hr,JJ,g4,g5,g6,_⟩:=Ta.more l2 (n:=nj) (by show (ls :: List.replicate j l2).length=nj;rw[List.length_cons,List.length_replicate];exact WA) (by omega)
       have HF:Hid (RP w R ⟨⟨#[65,65]⟩,ctl,0,tag,ls :: List.replicate (j+1) l2,ptr⟩ (.slice a' (j+1+1) c') (w'.setCell ⟨R,4,none⟩ (.slice a' (nj+1) c'))):=by
        rw[List.replicate_succ',←List.cons_append,WA]
        exact JJ
       have hSd:(fun U:World=>U.cell? ⟨R,4,none⟩=some (.slice Wz nj Qb)) D:=Ta.box.cell 4 (by simp[DY])
       have SI:(fun U:World=>U.cell? ⟨R,4,none⟩=some (.slice Wz nj Qb)) (D.alloc (.cells #[.string l2] 9)):=(Ta.box.alloc _).cell 4 (by simp[DY])
       have SK:(fun U:World=>U.cell? ⟨R,4,none⟩=some (.slice Wz nj Qb)) w':=g4
       have HNJ:=hide WA
       clear JJ Ta hbD JK WA
       go_upto_region 32 with fail
       refine iF (fun U:World=>U.cell? ⟨R,4,none⟩=some (.slice Wz nj Qb)) 5 (by kernel_rfl) ?_
       rw[hD]
       clear hD
       refine aR (i:=0) (some 140) (v:=?agi) rfl rfl (by kernel_rfl) (by kernel_rfl) (by kernel_rfl) (by kernel_rfl) (fun _ _ _ h=>h) hSd (Or.inl ⟨by rfl,?aaq⟩) ?acU
       case aaq=>(intro w hSw;(try dsimp only at hSw);go_simp;try with_reducible rfl)
       try simp only[Act.put,List.setIfInBounds_toArray,List.set_cons_zero,List.set_cons_succ]
       refine aR (i:=1) (some 141) (v:=?agj) rfl rfl (by kernel_rfl) (by kernel_rfl) (by kernel_rfl) (by kernel_rfl) (fun _ _ _ h=>h) hSd (Or.inl ⟨by rfl,?aar⟩) ?acV
       case aar=>(intro w hSw;(try dsimp only at hSw);go_simp;try with_reducible rfl)
       try simp only[Act.put,List.setIfInBounds_toArray,List.set_cons_zero,List.set_cons_succ]
       refine aQ (j:=2) (by kernel_rfl) rfl (fun K hK=>?_)
       go_simp
       refine(HLD.out D).mono ?_
       rintro e Z ⟨rfl,hZ⟩
       dsimp only
       rw[hZ]
       clear hZ Z
       refine hK.out _ _ (fun _=>hSd) ?_
       clear hK K
       try simp only[Act.put,List.setIfInBounds_toArray,List.set_cons_zero,List.set_cons_succ]
       refine aQ (j:=3) (by kernel_rfl) rfl (fun K hK=>?_)
       go_simp
       refine hK.out _ _ (fun _=>SI) ?_
       clear hK K
       try simp only[Act.put,List.setIfInBounds_toArray,List.set_cons_zero,List.set_cons_succ]
       refine aQ (j:=4) (by kernel_rfl) rfl (fun K hK=>?_)
       refine oL rfl _ _ 36 rfl hr (by first|rfl|simp[Act.eval,Act.put]) (by first|rfl|simp[Act.eval,Act.put]) ?_
       show K (Act.put _ (some 144) _) _
       refine hK.out _ _ (fun _=>SK) ?_
       clear hK K
       try simp only[Act.put,List.setIfInBounds_toArray,List.set_cons_zero,List.set_cons_succ]
       refine aQ (j:=5) (by kernel_rfl) rfl (fun K hK=>?_)
       go_simp
       refine hK.out _ _ (fun h=>absurd h (by decide)) ?_
       clear hK K
       refine aQ (j:=6) (by kernel_rfl) rfl (fun K hK=>?_)
       go_simp
       refine hK.out _ _ (fun h=>absurd h (by decide)) ?_
       clear hK K
       refine kV (by kernel_rfl) ?_ _
       clear hSd SI SK g4 g5 g6 hr
       go_wp2_with fail
       go_roundg (M - (j+1))
       case measure=>omega
       case rel=>exact⟨j+1,a',c',by omega,rfl,by go_num,HF.out⟩
      ·obtain rfl:j=M:=by omega
       have hji:¬(j:Int)<(j:Int):=by omega
       have HZ:=hide (JK.rt (by show (ls :: List.replicate j l2).length≤_;rw[List.length_cons,List.length_replicate];omega) (fun s hs=>(List.mem_cons.1 hs).elim (fun h=>by rw[h];have:=HLS.out.1;omega) (fun h=>by rw[List.eq_of_mem_replicate h];have:=HLS.out.2;omega)))
       clear JK
       go_upto_region 33 with fail
       obtain⟨⟨c0,c1,c2,c3,c4,c5⟩,cl⟩:=HZ.out.cells
       obtain⟨⟨z0,z1,z2,z3,z4,z5⟩,⟨f0,f1,f2,f3,f4,f5⟩,zl⟩:=HZ.out.ko
       dsimp only at c0 c1 c2 c3 c4 c5
       go_wp2_with fail
       exact bodyPost_ret (v:=.tuple #[gU ⟨⟨#[65,65]⟩,ctl,0,tag,ls :: List.replicate j l2,ptr⟩ (.slice Wz (j+1) Qb),.int .i64 (qn:Int)]) (by simp[results,Tryz.results36,go_sem,gU,z0,z1,z2,z3,z4,z5,zl]) rfl ⟨(.slice Wz (j+1) Qb),by rw[HR'.out],by rw[HR'.out];exact(HZ.out.done _ _ _ _ _ _).1,(HZ.out.done _ _ _ _ _ _).2⟩
end Go.Proofs.YtfdihjnlgdiioaaGreatDoor.dB
