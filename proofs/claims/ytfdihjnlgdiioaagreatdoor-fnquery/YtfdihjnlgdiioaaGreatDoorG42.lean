import Derived.Test.YtfdihjnlgdiioaaGreatDoorG35
import Derived.Test.YtfdihjnlgdiioaaGreatDoorG39
import Derived.Test.YtfdihjnlgdiioaaGreatDoorG41
namespace Go.Proofs.YtfdihjnlgdiioaaGreatDoor.dB
open Go.ChangeShapes Go.WideShapes Go.ChangeAt Go.RowKit
set_option linter.unusedVariables false
set_option linter.unusedSimpArgs false
set_option maxRecDepth 100000 in
set_option maxHeartbeats 4000000 in
theorem GN (cs:List UInt8) (v:Value) (w:World) {lo:Nat} (hv:iU lo w v cs) (hl:cs.length≤1048576) :
  Calls Tryz.prog 4 #[v] w fun e w'=>e=.returned (bY (jq cs 0))∧Below w.heap.size w w':=by
 obtain⟨X0,hX0⟩:∃x,w.alloc (.cells Rv 24)=x:=⟨_,rfl⟩
 have b0:Below w.heap.size w X0:=by rw[←hX0];exact aO _ _
 have Ak:Hid (aU X0 w.heap.size 24 Rv):=by rw[←hX0];exact aU.new _ _ _
 have HD:=hide (zS cs v 0 X0 (At.kept bJ hv b0) hl (by omega))
 have HB0:=hide b0
 obtain⟨aa,cap,rfl,_⟩:=fO hv
 have HX0:Hid (w.alloc (.cells #[.int .i64 0,.string ⟨#[]⟩,.string ⟨#[]⟩,.string ⟨#[]⟩,.int .i64 0,.string ⟨#[]⟩] 24)=X0):=hX0
 obtain⟨r,hr⟩:∃r,jq cs 0=r:=⟨_,rfl⟩
 rw[hr] at HD ⊢
 obtain⟨kind,control,tag,query,page,pointer⟩:=r
 have HD':Hid (Calls Tryz.prog 20 #[.slice aa cs.length cap,.int .i64 0] X0 fun e w'=>e=.returned (.tuple #[.agg #[.int .i64 kind,.string control,.string tag,.string query,.int .i64 page,.string pointer],.int .i64 5])∧Below X0.heap.size X0 w'):=HD.out
 clear hv hr b0 hX0 HD
 go_enter Tryz.func4,Tryz.ntmps4
 go_wp2_with fail
 rw[HX0.out]
 refine HD'.out.mono ?_
 rintro e W1 ⟨rfl,hb1⟩
 have HB1:=hide hb1
 have HR1:=hide (Ak.out.below hb1)
 clear hb1
 obtain⟨X2,hX2⟩:∃x,W1.alloc (Obj.cells #[.int .i64 kind,.string control,.string tag,.string query,.int .i64 page,.string pointer] 24)=x:=⟨_,rfl⟩
 have HZ:Hid (RQ w W1.heap.size ⟨kind,control,tag,query,page,pointer⟩ X2):=by
  rw[←hX2]
  exact⟨HR1.out.alloc _,aU.new _ _ _,(aj HB1.out HB0.out).alloc (aj HB1.out HB0.out).size _,HR1.out.lt⟩
 go_upto_region 2 with fail
 (try rw[hX2])
 obtain⟨R,hR⟩:∃R,W1.heap.size=R:=⟨_,rfl⟩
 rw[hR] at HZ ⊢
 clear hX2 hR
 obtain⟨⟨c0,c1,c2,c3,c4,c5⟩,_,cl⟩:=HZ.out.cells
 obtain⟨⟨z0,z1,z2,z3,z4,z5⟩,⟨f0,f1,f2,f3,f4,f5⟩,zl⟩:=HZ.out.ko
 dsimp only at c0 c1 c2 c3 c4 c5
 go_wp2_with fail
 exact bodyPost_ret (v:=bY ⟨kind,control,tag,query,page,pointer⟩) (by simp[results,Tryz.results4,go_sem,bY,z0,z1,z2,z3,z4,z5,zl]) rfl ⟨rfl,jv HZ.out.zR _ _ _ _ _ _⟩
set_option maxRecDepth 100000 in
set_option maxHeartbeats 4000000 in
theorem GQ (cs:List UInt8) (v:Value) (w:World) {lo:Nat} (hv:iU lo w v cs) (hl:cs.length≤1048576) :
  Calls Tryz.prog 11 #[v] w fun e w'=>∃u,e=.returned (gU (gF cs 0) u)∧bq w.heap.size w' u (gF cs 0).rows∧Below w.heap.size w w':=by
 obtain⟨X0,hX0⟩:∃x,w.alloc (.cells Hg 38)=x:=⟨_,rfl⟩
 have b0:Below w.heap.size w X0:=by rw[←hX0];exact aO _ _
 have Ak:Hid (aU X0 w.heap.size 38 Hg):=by rw[←hX0];exact aU.new _ _ _
 have HD:=hide (Aa cs v 0 X0 (At.kept bJ hv b0) hl (by omega))
 have HB0:=hide b0
 obtain⟨aa,cap,rfl,_⟩:=fO hv
 have HX0:Hid (w.alloc (.cells #[.string ⟨#[]⟩,.string ⟨#[]⟩,.int .i64 0,.string ⟨#[]⟩,.slice none 0 0,.string ⟨#[]⟩] 38)=X0):=hX0
 obtain⟨r,hr⟩:∃r,gF cs 0=r:=⟨_,rfl⟩
 obtain⟨q,hq⟩:∃r,rY cs 0=r:=⟨_,rfl⟩
 rw[hr] at HD ⊢
 rw[hq] at HD
 obtain⟨ack,control,code,tag,rows,pointer⟩:=r
 have HD':Hid (Calls Tryz.prog 36 #[.slice aa cs.length cap,.int .i64 0] X0 (L8 X0 ⟨ack,control,code,tag,rows,pointer⟩ q)):=HD.out
 clear hv hr hq b0 hX0 HD
 go_enter Tryz.func11,Tryz.ntmps11
 go_wp2_with fail
 rw[HX0.out]
 refine HD'.out.mono ?_
 rintro e W1 ⟨u,rfl,hs,hb1⟩
 obtain⟨au,cu,rfl,_⟩:=hs.form
 obtain⟨nr,hnr⟩:∃q,rows.length=q:=⟨_,rfl⟩
 have hs':bq X0.heap.size W1 (.slice au nr cu) rows:=by rw[←hnr];exact hs
 have HR1:=hide (Ak.out.below hb1)
 obtain⟨X2,hX2⟩:∃x,W1.alloc (Obj.cells #[.string ack,.string control,.int .i64 code,.string tag,.slice au nr cu,.string pointer] 38)=x:=⟨_,rfl⟩
 have b2:Below W1.heap.size W1 X2:=by rw[←hX2];exact aO _ _
 have HS2:=hide (At.kept bE hs' b2)
 have HB2:=hide (aj b2 (aj hb1 HB0.out))
 have HR2:=hide (HR1.out.below b2)
 have oq:Hid (aU X2 W1.heap.size 38 #[.string ack,.string control,.int .i64 code,.string tag,.slice au nr cu,.string pointer]):=by rw[←hX2];exact aU.new _ _ _
 have hw0:w.heap.size<X0.heap.size:=Ak.out.lt
 have hw1:w.heap.size<W1.heap.size:=HR1.out.lt
 unfold gU
 dsimp only
 rw[hnr]
 clear hs hs' hb1 b2 hnr
 go_upto_region 2 with fail
 (try rw[hX2])
 obtain⟨R,hR⟩:∃R,W1.heap.size=R:=⟨_,rfl⟩
 rw[hR] at oq hw1 ⊢
 clear hX2 hR
 have c0:X2.cell? ⟨R,0,none⟩=some (.string ack):=oq.out.cell 0 (by simp)
 have c1:X2.cell? ⟨R,1,none⟩=some (.string control):=oq.out.cell 1 (by simp)
 have c2:X2.cell? ⟨R,2,none⟩=some (.int .i64 code):=oq.out.cell 2 (by simp)
 have c3:X2.cell? ⟨R,3,none⟩=some (.string tag):=oq.out.cell 3 (by simp)
 have c4:X2.cell? ⟨R,4,none⟩=some (.slice au nr cu):=oq.out.cell 4 (by simp)
 have c5:X2.cell? ⟨R,5,none⟩=some (.string pointer):=oq.out.cell 5 (by simp)
 have cl:=oq.out.lt
 have z0:X2.cell? ⟨w.heap.size,0,none⟩=some (.string ⟨#[]⟩):=HR2.out.cell 0 (by simp[Hg])
 have z1:X2.cell? ⟨w.heap.size,1,none⟩=some (.string ⟨#[]⟩):=HR2.out.cell 1 (by simp[Hg])
 have z2:X2.cell? ⟨w.heap.size,2,none⟩=some (.int .i64 0):=HR2.out.cell 2 (by simp[Hg])
 have z3:X2.cell? ⟨w.heap.size,3,none⟩=some (.string ⟨#[]⟩):=HR2.out.cell 3 (by simp[Hg])
 have z4:X2.cell? ⟨w.heap.size,4,none⟩=some (.slice none 0 0):=HR2.out.cell 4 (by simp[Hg])
 have z5:X2.cell? ⟨w.heap.size,5,none⟩=some (.string ⟨#[]⟩):=HR2.out.cell 5 (by simp[Hg])
 have f0:=HR2.out.frozen 0
 have f1:=HR2.out.frozen 1
 have f2:=HR2.out.frozen 2
 have f3:=HR2.out.frozen 3
 have f4:=HR2.out.frozen 4
 have f5:=HR2.out.frozen 5
 have zl:=HR2.out.lt
 have HW0:=hide hw0
 clear hw0 hw1
 go_wp2_with fail
 exact bodyPost_ret (v:=.agg #[.string ack,.string control,.int .i64 code,.string tag,.slice au nr cu,.string pointer]) (by simp[results,Tryz.results11,go_sem,z0,z1,z2,z3,z4,z5,zl]) rfl ⟨.slice au nr cu,rfl,fK (Nat.le_of_lt HW0.out) HW0.out (fK (aS _) HW0.out (fK (aS _) HW0.out (fK (aS _) HW0.out (fK (aS _) HW0.out (fK (aS _) HW0.out HS2.out _) _) _) _) _) _,jv HB2.out _ _ _ _ _ _⟩
theorem Pp {s:ByteArray} {xs:List Seg} (h:kS s=.ok xs):aT xs≤300000:=by
 unfold kS at h
 split at h
 ·cases h
 ·rename_i hs
  split at h
  ·cases h
  ·split at h
   ·have h1:=Iz _ _ _ h
    have h2:sm ln (dL s.data.toList)≤sm ln (bI 13 s.data.toList):=by
     unfold dL
     split
     ·rw[List.dropLast_eq_take];exact FP ln _ _
     ·exact aS _
    have h3:=FU 13 s.data.toList
    have h4:s.data.toList.length=s.size:=by simp
    omega
   ·cases h
theorem TF {xs:List Seg} (h:dW xs=true):aT xs≤300000:=Pp (vN h)
theorem XY:aT []≤300000:=eH _
theorem Mg (r:jM):aT (fE r)≤300000:=by
 rcases qd r with h|⟨h,_⟩
 ·rw[h];exact XY
 ·exact TF h
theorem vB (r:pK):cK r=[]∨dW (cK r)=true:=by
 cases hok:nM r with
 | false=>exact .inl (Dp r hok)
 | true =>
  refine .inr ?_
  obtain⟨kind,control,tag,query,page,pointer⟩:=r
  have hk:=JL hok
  simp only at hk
  rcases hk with rfl|rfl|rfl
  ·obtain⟨p1,p2,e⟩:=acW hok
   rw[e]
   unfold nM at hok
   simp only[if_pos,Bool.and_eq_true,decide_eq_true_eq] at hok
   obtain⟨h1,h2,h3,_⟩:=hok
   obtain⟨d1,d2⟩:=zf page.toNat (by omega)
   exact(M9 control tag query _ h1 h2 h3 d1 d2).1
  ·rw[acX hok]
   unfold nM at hok
   simp only[show ¬(2:Int)=1 from by decide,if_neg,if_pos,not_false_eq_true,Bool.and_eq_true,decide_eq_true_eq] at hok
   obtain⟨h1,h2,h3,_,_,h6⟩:=hok
   exact(Jr control tag query pointer h1 h2 h3 h6).1
  ·rw[acY hok]
   unfold nM at hok
   simp only[show ¬(3:Int)=1 from by decide,show ¬(3:Int)=2 from by decide,if_neg,not_false_eq_true,Bool.and_eq_true,decide_eq_true_eq] at hok
   exact(CJ control tag hok.1 hok.2.1).1
theorem J3 (r:pK):aT (cK r)≤300000:=by
 rcases vB r with h|h
 ·rw[h];exact XY
 ·exact TF h
theorem TG (b:UInt8) (n:Nat):(lg b n).size≤n+1:=by
 unfold lg
 have h1:(⟨#[b]⟩:ByteArray).size=1:=rfl
 have:=nH ⟨#[b]⟩ (n+1) n
 omega
theorem aaz (a:Nat) (h:a≤1000):(Rn a).size≤100:=by
 unfold Rn
 rw[ByteArray.size_append]
 have:=ji a h
 have h1:(⟨#[67]⟩:ByteArray).size=1:=rfl
 omega
def qg (r:pK):Prop:=r.control.size≤300∧r.tag.size≤300∧r.query.size≤300∧r.pointer.size≤300
theorem J4 (cs:List UInt8) (p:Nat):qg (jq cs p):=by
 have ha:=su cs (p+1) 50 49 (by decide)
 have ht:=xM cs (p+2)
 have hx:=BS cs (p+3)
 unfold jq
 generalize tk cs p 24=how
 generalize tk cs (p+1) 50=a at *
 generalize vQ cs (p+2)=tag at *
 generalize sw cs (p+3)=query at *
 have e0:(⟨#[]⟩:ByteArray).size=0:=rfl
 have hc:=aaz a (by omega)
 have hd:=ji a (by omega)
 have z0:qg ⟨1,Rn a,tag,query,((a % 7+1:Nat):Int),⟨#[]⟩⟩:=⟨by show (Rn a).size≤_;omega,by show tag.size≤_;omega,by show query.size≤_;omega,by show (⟨#[]⟩:ByteArray).size≤_;omega⟩
 have z1:∀r,qg r→qg (Ro how a tag query r):=fun r h=>by
  unfold Ro;split
  ·exact⟨by show (Rn a).size≤_;omega,by show tag.size≤_;omega,by show query.size≤_;omega,by show (bR a).size≤_;omega⟩
  ·exact h
 have z2:∀r,qg r→qg (Rp how a tag r):=fun r h=>by
  unfold Rp;split
  ·exact⟨by show (Rn a).size≤_;omega,by show tag.size≤_;omega,by show (⟨#[]⟩:ByteArray).size≤_;omega,by show (⟨#[]⟩:ByteArray).size≤_;omega⟩
  ·exact h
 have z3:∀r,qg r→qg (Rq how a r):=fun r h=>by
  unfold Rq;split
  ·exact⟨by have:=TG 99 (20+a % 2);show (lg 99 (20+a % 2)).size≤_;omega,h.2⟩
  ·exact h
 have z4:∀r,qg r→qg (Rs how a r):=fun r h=>by
  unfold Rs;split
  ·exact⟨h.1,by have:=TG 116 (16+a % 2);show (lg 116 (16+a % 2)).size≤_;omega,h.2.2⟩
  ·exact h
 have z5:∀r,qg r→qg (Rt how a r):=fun r h=>by
  unfold Rt;split
  ·exact⟨h.1,h.2.1,by have:=TG 113 (200+a % 2);show (lg 113 (200+a % 2)).size≤_;omega,h.2.2.2⟩
  ·exact h
 have z6:∀r,qg r→qg (Ru how a r):=fun r h=>by
  unfold Ru;split
  ·exact h
  ·exact h
 exact z6 _ (z5 _ (z4 _ (z3 _ (z2 _ (z1 _ z0)))))
def XZ (r:jM):Prop:=r.ack.size≤300∧r.control.size≤300∧r.tag.size≤300∧r.pointer.size≤300∧r.rows.length≤1000
theorem J5 (cs:List UInt8) (p:Nat):XZ (gF cs p):=by
 have ha:=su cs (p+1) 50 49 (by decide)
 have hn:=su cs (p+2) 6 5 (by decide)
 have ht:=xM cs (p+3)
 have hl:=Dm cs (p+4) (tk cs (p+2) 6)
 unfold gF
 generalize tk cs p 24=how
 generalize tk cs (p+1) 50=a at *
 generalize tk cs (p+2) 6=n at *
 generalize vQ cs (p+3)=tag at *
 generalize qp cs (p+4) n=rows at *
 have e0:(⟨#[]⟩:ByteArray).size=0:=rfl
 have e1:(⟨#[65,65]⟩:ByteArray).size=2:=rfl
 have e2:(⟨#[65,69]⟩:ByteArray).size=2:=rfl
 have e3:(⟨#[65,82]⟩:ByteArray).size=2:=rfl
 have e4:(⟨#[65,88]⟩:ByteArray).size=2:=rfl
 have hu:(XT a).size≤100:=by
  unfold XT
  rw[ByteArray.size_append]
  have:=ji (a % 8) (by omega)
  have h1:(⟨#[85,48,45]⟩:ByteArray).size=3:=rfl
  omega
 have hp:(XU a tag rows).pointer.size≤100:=by
  show (if a % 3=0 then ⟨#[112]⟩++bR a else ⟨#[]⟩:ByteArray).size≤100
  split
  ·rw[ByteArray.size_append]
   have:=ji a (by omega)
   have h1:(⟨#[112]⟩:ByteArray).size=1:=rfl
   omega
  ·omega
 have z0:XZ (XU a tag rows):=⟨by show (⟨#[65,65]⟩:ByteArray).size≤_;omega,by show (XT a).size≤_;omega,by show tag.size≤_;omega,by omega,by show rows.length≤_;omega⟩
 unfold yu
 split
 ·exact z0
 split
 ·exact⟨by show (⟨#[65,69]⟩:ByteArray).size≤_;omega,by show (XT a).size≤_;omega,by show tag.size≤_;omega,by show (⟨#[]⟩:ByteArray).size≤_;omega,eH _⟩
 split
 ·exact⟨by show (⟨#[65,82]⟩:ByteArray).size≤_;omega,by show (⟨#[]⟩:ByteArray).size≤_;omega,by show (⟨#[]⟩:ByteArray).size≤_;omega,by show (⟨#[]⟩:ByteArray).size≤_;omega,eH _⟩
 split
 ·exact⟨by show (⟨#[65,88]⟩:ByteArray).size≤_;omega,z0.2⟩
 split
 ·exact⟨by show (⟨#[65,69]⟩:ByteArray).size≤_;omega,by show (⟨#[]⟩:ByteArray).size≤_;omega,by show (⟨#[]⟩:ByteArray).size≤_;omega,by show (⟨#[]⟩:ByteArray).size≤_;omega,by show (rows.take _).length≤_;rw[List.length_take];omega⟩
 split
 ·exact⟨z0.1,z0.2.1,z0.2.2.1,z0.2.2.2.1,by show (rows++List.replicate _ _).length≤_;rw[List.length_append,List.length_replicate];omega⟩
 ·exact⟨z0.1,z0.2.1,z0.2.2.1,z0.2.2.2.1,by show (lg 124 _ :: List.replicate _ _).length≤_;rw[List.length_cons,List.length_replicate];omega⟩
def lV:Seg:=⟨⟨#[]⟩,[]⟩
def qh:Seg:=⟨⟨#[82,68,84]⟩,ay List.isEmpty ([⟨#[114,111,119]⟩,⟨#[109,111,114,101]⟩].map ah)⟩
def Nl (how a k:Nat) (s:Seg):List Seg:=(if k=a∧how=12 then [s] else [])++(if k≠a∨how≠13 then [s] else [])++(if k=a∧how=14 then [qh] else [])
def Fz (how a:Nat) (m:List Seg):Nat→List Seg
 | 0=>[]
 | k+1=>Fz how a m k++Nl how a k (m.getD k lV)
theorem Mh:bB qh≤100:=by
 have h1:=Nat.le_trans (AL (fun x=>aF x+1) List.isEmpty ([⟨#[114,111,119]⟩,⟨#[109,111,114,101]⟩].map ah)) (by decide:sm (fun x=>aF x+1) ([⟨#[114,111,119]⟩,⟨#[109,111,114,101]⟩].map ah)≤90)
 have h2:aH aF (ay List.isEmpty ([⟨#[114,111,119]⟩,⟨#[109,111,114,101]⟩].map ah))≤90:=by rw[dH];exact h1
 show (3:Nat)+aH aF (ay List.isEmpty ([⟨#[114,111,119]⟩,⟨#[109,111,114,101]⟩].map ah))≤100
 omega
theorem qW (xs ys:List Seg):aT (xs++ys)=aT xs+aT ys:=iK bB xs ys
theorem qX (s:Seg):aT [s]=1+bB s:=by show aH bB [s]=_;rw[dH,iN,FN];omega
theorem TH (m:List Seg) (k:Nat) (h:k<m.length):aT (m.take (k+1))=aT (m.take k)+(1+bB (m.getD k lV)):=by
 have e:m.take (k+1)=m.take k++[m.getD k lV]:=by
  rw[List.take_succ_eq_append_getElem h,List.getD_eq_getElem?_getD,List.getElem?_eq_getElem h];rfl
 rw[e,qW,qX]
theorem adb (how a k:Nat) (s:Seg):aT (Nl how a k s)≤2 * (1+bB s)+(if k=a then 101 else 0):=by
 have h1:=Mh
 unfold Nl
 rw[qW,qW]
 have a1:aT (if k=a∧how=12 then [s] else [])≤1+bB s:=by split <;> first|exact Nat.le_of_eq (qX s)|exact eH _
 have a2:aT (if k≠a∨how≠13 then [s] else [])≤1+bB s:=by split <;> first|exact Nat.le_of_eq (qX s)|exact eH _
 have a3:aT (if k=a∧how=14 then [qh] else [])≤(if k=a then 101 else 0):=by
  split
  ·rename_i hh
   rw[qX,if_pos hh.1];omega
  ·exact eH _
 omega
theorem Ya (how a:Nat) (m:List Seg):∀k,k≤m.length→aT (Fz how a m k)≤2 * aT (m.take k)+(if a<k then 101 else 0)
 | 0,_=>eH _
 | k+1,h=>by
  have ih:=Ya how a m k (by omega)
  have e:=TH m k (by omega)
  have h1:=adb how a k (m.getD k lV)
  show aT (Fz how a m k++_)≤_
  rw[qW,e]
  by_cases hk:k=a
  ·rw[if_pos hk] at h1
   rw[if_neg (by omega)] at ih
   rw[if_pos (by omega)]
   omega
  ·rw[if_neg hk] at h1
   by_cases hlt:a<k
   ·rw[if_pos hlt] at ih
    rw[if_pos (by omega)]
    omega
   ·rw[if_neg hlt] at ih
    rw[if_neg (by omega)]
    omega
def Pq (cs:List UInt8):List Seg :=
 if tk cs 0 16=15 then wu cs
 else if tk cs 0 16<12∨(fE (gF cs 1)).length=0 then fE (gF cs 1)
 else Fz (tk cs 0 16) (tk cs (rY cs 1) (fE (gF cs 1)).length) (fE (gF cs 1)) (fE (gF cs 1)).length
theorem WS (cs:List UInt8):aT (Pq cs)≤1048576:=by
 unfold Pq
 have h1:=Mg (gF cs 1)
 split
 ·have:=JQ cs;omega
 split
 ·omega
 ·have:=Ya (tk cs 0 16) (tk cs (rY cs 1) (fE (gF cs 1)).length) (fE (gF cs 1)) _ (aS _)
  rw[List.take_length] at this
  split at this <;> omega
theorem Nn (how a:Nat) (m:List Seg):∀k,(Fz how a m k).length≤3 * k
 | 0=>aS _
 | k+1=>by
  have ih:=Nn how a m k
  show (Fz how a m k++_).length≤_
  rw[List.length_append]
  have:(Nl how a k (m.getD k lV)).length≤3:=by
   unfold Nl
   rw[List.length_append,List.length_append]
   have a1:(if k=a∧how=12 then [m.getD k lV] else []).length≤1:=by split;exact aS _;exact eH _
   have a2:(if k≠a∨how≠13 then [m.getD k lV] else []).length≤1:=by split;exact aS _;exact eH _
   have a3:(if k=a∧how=14 then [qh] else []).length≤1:=by split;exact aS _;exact eH _
   omega
  omega
def DJ:List ByteArray:=[⟨#[]⟩,⟨#[81,66,80]⟩,⟨#[48]⟩,⟨#[53,49]⟩,⟨#[50,46,53]⟩,⟨#[55]⟩,⟨#[48,48,55]⟩,⟨#[120,127]⟩]
def fx (aa b len at_ j:Nat) (f:Field):Field:=if j=b % len∨(at_=0∧j=6+b % 3∧j=6+aa % 3) then ah (DJ.getD b ⟨#[]⟩) else f
def Aw (aa b at_:Nat) (fs:List Field):Nat→List Field
 | 0=>[]
 | k+1=>Aw aa b at_ fs k++[fx aa b fs.length at_ k (fs.getD k [])]
def rq (aa b at_:Nat) (m:List Seg):Nat→List Seg
 | 0=>[]
 | k+1=>rq aa b at_ m k++[if k=at_ then ⟨(m.getD k lV).name,Aw aa b at_ (m.getD at_ lV).fields (m.getD at_ lV).fields.length⟩ else m.getD k lV]
def Pt (cs:List UInt8):List Seg :=
 if (8≤tk cs 0 12∧tk cs 0 12<11)∧1<(cK (jq cs 1)).length then rq (tk cs 6 8) (tk cs 7 8) (tk cs 6 8 % (cK (jq cs 1)).length) (cK (jq cs 1)) (cK (jq cs 1)).length
 else if tk cs 0 12=11 then wu cs else cK (jq cs 1)
theorem TI (b:Nat):aF (ah (DJ.getD b ⟨#[]⟩))≤10:=by
 rw[List.getD_eq_getElem?_getD]
 by_cases h:b<DJ.length
 ·rw[List.getElem?_eq_getElem h]
  exact(by decide:∀x∈DJ,aF (ah x)≤10) _ (List.getElem_mem h)
 ·rw[List.getElem?_eq_none (by omega)];exact(by decide:aF (ah ⟨#[]⟩)≤10)
theorem sj (aa b at_:Nat) (fs:List Field):∀k,(Aw aa b at_ fs k).length=k
 | 0=>rfl
 | k+1=>by show (Aw aa b at_ fs k++[_]).length=_;rw[List.length_append,sj aa b at_ fs k];rfl
theorem GR (aa b at_:Nat) (m:List Seg):∀k,(rq aa b at_ m k).length=k
 | 0=>rfl
 | k+1=>by show (rq aa b at_ m k++[_]).length=_;rw[List.length_append,GR aa b at_ m k];rfl
theorem Yb (aa b at_:Nat) (fs:List Field):∀k,k≤fs.length→sm (fun x=>aF x+1) (Aw aa b at_ fs k)≤sm (fun x=>aF x+1) (fs.take k)+((if b % fs.length<k then 10 else 0)+(if 6+b % 3<k then 10 else 0))
 | 0,_=>eH _
 | k+1,h=>by
  have ih:=Yb aa b at_ fs k (by omega)
  have e:fs.take (k+1)=fs.take k++[fs.getD k []]:=by
   rw[List.take_succ_eq_append_getElem (show k<fs.length by omega),List.getD_eq_getElem?_getD,List.getElem?_eq_getElem (show k<fs.length by omega)];rfl
  have hf:aF (fx aa b fs.length at_ k (fs.getD k []))≤aF (fs.getD k [])+(if k=b % fs.length∨k=6+b % 3 then 10 else 0):=by
   have:=TI b
   unfold fx
   split
   ·rename_i hh
    rw[if_pos (by rcases hh with h|h;exact .inl h;exact .inr h.2.1)]
    omega
   ·omega
  show sm _ (Aw aa b at_ fs k++[_])≤_
  rw[e,←dH,←dH,iK,iK,dH,dH,dH,dH,iN,FN,iN,FN]
  generalize b % fs.length=B at *
  generalize 6+b % 3=C at *
  by_cases h1:k=B∨k=C
  ·rw[if_pos h1] at hf
   rcases h1 with h1|h1
   ·rw[if_pos (show B<k+1 by omega)]
    rw[if_neg (show ¬B<k by omega)] at ih
    by_cases h2:C<k
    ·rw[if_pos h2] at ih
     rw[if_pos (show C<k+1 by omega)]
     omega
    ·rw[if_neg h2] at ih
     omega
   ·rw[if_pos (show C<k+1 by omega)]
    rw[if_neg (show ¬C<k by omega)] at ih
    by_cases h2:B<k
    ·rw[if_pos h2] at ih
     rw[if_pos (show B<k+1 by omega)]
     omega
    ·rw[if_neg h2] at ih
     omega
  ·rw[if_neg h1] at hf
   by_cases h2:B<k
   ·rw[if_pos h2] at ih
    rw[if_pos (show B<k+1 by omega)]
    by_cases h3:C<k
    ·rw[if_pos h3] at ih
     rw[if_pos (show C<k+1 by omega)]
     omega
    ·rw[if_neg h3] at ih
     omega
   ·rw[if_neg h2] at ih
    by_cases h3:C<k
    ·rw[if_pos h3] at ih
     rw[if_pos (show C<k+1 by omega)]
     omega
    ·rw[if_neg h3] at ih
     omega
theorem ade (aa b at_:Nat) (m:List Seg):∀k,k≤m.length→aT (rq aa b at_ m k)≤aT (m.take k)+(if at_<k then 20 else 0)
 | 0,_=>eH _
 | k+1,h=>by
  have ih:=ade aa b at_ m k (by omega)
  have e:=TH m k (by omega)
  show aT (rq aa b at_ m k++[_])≤_
  rw[qW,qX,e]
  by_cases hk:k=at_
  ·rw[if_pos hk]
   subst hk
   rw[if_neg (by omega)] at ih
   rw[if_pos (by omega)]
   have h3:=Yb aa b k (m.getD k lV).fields _ (aS _)
   rw[List.take_length] at h3
   have h4:((if b % (m.getD k lV).fields.length<(m.getD k lV).fields.length then 10 else 0)+(if 6+b % 3<(m.getD k lV).fields.length then 10 else 0))≤20:=by
    have a1:(if b % (m.getD k lV).fields.length<(m.getD k lV).fields.length then 10 else 0)≤10:=by split <;> omega
    have a2:(if 6+b % 3<(m.getD k lV).fields.length then 10 else 0)≤10:=by split <;> omega
    omega
   have e1:bB ⟨(m.getD k lV).name,Aw aa b k (m.getD k lV).fields (m.getD k lV).fields.length⟩=(m.getD k lV).name.size+sm (fun x=>aF x+1) (Aw aa b k (m.getD k lV).fields (m.getD k lV).fields.length):=by show _+aH aF _=_;rw[dH]
   have e2:bB (m.getD k lV)=(m.getD k lV).name.size+sm (fun x=>aF x+1) (m.getD k lV).fields:=by show _+aH aF _=_;rw[dH]
   rw[e1,e2]
   omega
  ·rw[if_neg hk]
   by_cases hlt:at_<k
   ·rw[if_pos hlt] at ih
    rw[if_pos (by omega)]
    omega
   ·rw[if_neg hlt] at ih
    rw[if_neg (by omega)]
    omega
theorem WT (cs:List UInt8):aT (Pt cs)≤1048576:=by
 unfold Pt
 have h1:=J3 (jq cs 1)
 split
 ·have:=ade (tk cs 6 8) (tk cs 7 8) (tk cs 6 8 % (cK (jq cs 1)).length) (cK (jq cs 1)) _ (aS _)
  rw[List.take_length] at this
  split at this <;> omega
 split
 ·have:=JQ cs;omega
 ·omega
end Go.Proofs.YtfdihjnlgdiioaaGreatDoor.dB
