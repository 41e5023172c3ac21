import Derived.Test.YtglcdcekkglmiaaGreatDoorG38
import Derived.Deep.CutBlock
namespace Go.Proofs.YtglcdcekkglmiaaGreatDoor.Msg
open Go.ChangeShapes Go.WideShapes Go.ChangeAt Go.RowKit
set_option linter.unusedVariables false
set_option linter.unusedSimpArgs false
set_option maxRecDepth 100000 in
set_option maxHeartbeats 16000000 in
theorem past_any (s:Sess) (ar:Option Addr) (nr cr:Nat) (hnr:s.rows.length=nr) (w:World) :
  Calls Tryz.prog 38 #[.agg #[.int .i64 s.client,.string s.tag,.string s.query,.int .i64 s.page,.int .i64 s.state,.slice ar nr cr,.int .i64 s.cursor]] w fun e w'=>∃v,e=.returned v∧FB (snC (.slice ar nr cr)) 7 28 w.heap.size w' v (pastI s)∧Below w.heap.size w w':=by
 have HNR:=hide hnr
 obtain⟨X0,hX0⟩:∃x,w.alloc (Obj.cells #[.int .i64 s.client,.string s.tag,.string s.query,.int .i64 s.page,.int .i64 s.state,.slice ar nr cr,.int .i64 s.cursor] 41)=x:=⟨_,rfl⟩
 have hbx:Below w.heap.size w X0:=by rw[←hX0];exact alcB _ _
 have HBX:Hid (Box X0 w.heap.size 41 #[.int .i64 s.client,.string s.tag,.string s.query,.int .i64 s.page,.int .i64 s.state,.slice ar nr cr,.int .i64 s.cursor]):=by rw[←hX0];exact Box.new _ _ _
 have KB:Hid (∀X,Below X0.heap.size X0 X→X.cell? ⟨w.heap.size,0,none⟩=some (.int .i64 s.client)∧X.cell? ⟨w.heap.size,1,none⟩=some (.string s.tag)∧X.cell? ⟨w.heap.size,2,none⟩=some (.string s.query)∧X.cell? ⟨w.heap.size,3,none⟩=some (.int .i64 s.page)∧X.cell? ⟨w.heap.size,4,none⟩=some (.int .i64 s.state)∧X.cell? ⟨w.heap.size,5,none⟩=some (.slice ar nr cr)∧X.cell? ⟨w.heap.size,6,none⟩=some (.int .i64 s.cursor)):=fun X hX=>box7s (HBX.out.below hX)
 have HB0:=hide hbx
 obtain⟨k0,k1,k2,k3,k4,k5,k6⟩:=KB.out X0 (Below.refl _ _)
 obtain⟨Y1,hY1⟩:∃x,X0.alloc (Obj.cells #[.int .i64 1,.int .i64 s.client,.string s.tag,.string s.query,.int .i64 s.page,.slice none 0 0,.int .i64 0] 28)=x:=⟨_,rfl⟩
 have HS1:Hid (CSt (.slice ar nr cr) X0 Y1 (.slice (some ⟨X0.heap.size,0,none⟩) 1 1) (pS0 s)):=by rw[←hY1];exact⟨FB.lit1 (cgC_len _) _ X0 (chO s),alcB _ _⟩
 have HX0:=hide hX0
 have HY1:=hide hY1
 clear hbx hX0 hY1 hnr
 go_enter Tryz.func38,Tryz.ntmps38
 go_upto_region 1 with fail
 (try rw[HX0.out])
 go_upto_region 2 with fail
 (try rw[HY1.out])
 clear k0 k1 k2 k3 k4 k5 k6
 have HN1:Hid ((pS0 s).length=1):=rfl
 have HP1:=hide (pS0_len s)
 obtain⟨k0,k1,k2,k3,k4,k5,k6⟩:=KB.out Y1 HS1.out.2
 go_upto_if 17 with fail
 go_cut [3] (fun s3 wx=>∃a c,s3=.slice a (pS1 s).length c∧CSt (.slice ar nr cr) X0 wx (.slice a (pS1 s).length c) (pS1 s))
 case first =>
  by_cases hcond:0<s.rows.length
  ·have hq:(0:Int)<(nr:Int):=by have:=HNR.out;omega
   have HE:Hid (pS1 s=pS0 s++[chR s]):=if_pos hcond
   obtain⟨a',c',w',hr,hS'⟩:=HS1.out.more (chR s) (by have:=HP1.out;omega) (n:=1) HN1.out
   have hr':(Builtin.append_ #[69,69] 69 #[.slice (some ⟨X0.heap.size,0,none⟩) 1 1,.slice (some ⟨Y1.heap.size,0,none⟩) 1 1]).run Tryz.prog (Y1.alloc (.cells #[.int .i64 2,.int .i64 s.client,.string s.tag,.string ⟨#[]⟩,.int .i64 0,.slice ar nr cr,.int .i64 0] 28))=.ok (.slice a' (1+1) c') w':=hr
   have HS':=hide hS'
   have HLE:Hid ((pS1 s).length=1+1):=by show _=_;rw[HE.out,List.length_append,HN1.out];rfl
   clear hr hS'
   go_wp2_with (first|(at_builtin;refine wpList_app rfl _ _ 69 rfl hr' (by first|rfl|simp[Act.eval,Act.put]) (by first|rfl|simp[Act.eval,Act.put]) ?_))
   go_meet
   case rel=>exact⟨a',c',by rw[HLE.out],by rw[HLE.out,HE.out];exact HS'.out⟩
  ·have hq:¬(0:Int)<(nr:Int):=by have:=HNR.out;omega
   have HE:Hid (pS1 s=pS0 s):=if_neg hcond
   go_wp2_with fail
   go_meet
   case rel=>exact⟨_,_,by rw[HE.out,HN1.out],by rw[HE.out,HN1.out];exact HS1.out⟩
 case rest =>
 clear k0 k1 k2 k3 k4 k5 k6
 obtain⟨Y2,rfl⟩:∃x,x=wc:=⟨_,rfl⟩
 obtain⟨a2,c2,rfl,hS2⟩:=hcut
 obtain⟨n2,hn2⟩:∃q,(pS1 s).length=q:=⟨_,rfl⟩
 rw[hn2] at hS2 ⊢
 have HS2:=hide hS2
 have HN2:=hide hn2
 have HP2:=hide (pS1_len s)
 clear hS2 hn2
 obtain⟨k0,k1,k2,k3,k4,k5,k6⟩:=KB.out Y2 HS2.out.2
 go_upto_block 0 with fail
 go_cut [3] (fun s3 wx=>∃a c,s3=.slice a (pI2 s).length c∧CSt (.slice ar nr cr) X0 wx (.slice a (pI2 s).length c) (pI2 s))
 case first =>
  by_cases hc2:s.state=2
  ·have hq:(s.state == 2)=true:=by simpa using hc2
   have HE:Hid (pI2 s=pS1 s++[ch0 3 s]):=if_pos hc2
   obtain⟨a',c',w',hr,hS'⟩:=HS2.out.more (ch0 3 s) (by have:=HP2.out;omega) (n:=n2) HN2.out
   have hr':(Builtin.append_ #[69,69] 69 #[.slice a2 n2 c2,.slice (some ⟨Y2.heap.size,0,none⟩) 1 1]).run Tryz.prog (Y2.alloc (.cells #[.int .i64 3,.int .i64 s.client,.string s.tag,.string ⟨#[]⟩,.int .i64 0,.slice none 0 0,.int .i64 0] 28))=.ok (.slice a' (n2+1) c') w':=hr
   have HS':=hide hS'
   have HLE:Hid ((pI2 s).length=n2+1):=by show _=_;rw[HE.out,List.length_append,HN2.out];rfl
   clear hc2
   clear hr hS'
   go_wp2_with (first|(at_builtin;refine wpList_app rfl _ _ 69 rfl hr' (by first|rfl|simp[Act.eval,Act.put]) (by first|rfl|simp[Act.eval,Act.put]) ?_))
   go_meet
   case rel=>exact⟨a',c',by rw[HLE.out],by rw[HLE.out,HE.out];exact HS'.out⟩
  ·have hq:(s.state == 2)=false:=by simpa using hc2
   have hq0:¬s.state=2:=hc2
   by_cases hc3:s.state=3
   ·have hq3:(s.state == 3)=true:=by simpa using hc3
    have HE:Hid (pI2 s=pS1 s++[ch0 5 s]):=(if_neg hc2).trans (if_pos hc3)
    obtain⟨a',c',w',hr,hS'⟩:=HS2.out.more (ch0 5 s) (by have:=HP2.out;omega) (n:=n2) HN2.out
    have hr':(Builtin.append_ #[69,69] 69 #[.slice a2 n2 c2,.slice (some ⟨Y2.heap.size,0,none⟩) 1 1]).run Tryz.prog (Y2.alloc (.cells #[.int .i64 5,.int .i64 s.client,.string s.tag,.string ⟨#[]⟩,.int .i64 0,.slice none 0 0,.int .i64 0] 28))=.ok (.slice a' (n2+1) c') w':=hr
    have HS':=hide hS'
    have HLE:Hid ((pI2 s).length=n2+1):=by show _=_;rw[HE.out,List.length_append,HN2.out];rfl
    clear hc3 hq0 hc2
    clear hr hS'
    go_wp2_with (first|(at_builtin;refine wpList_app rfl _ _ 69 rfl hr' (by first|rfl|simp[Act.eval,Act.put]) (by first|rfl|simp[Act.eval,Act.put]) ?_))
    go_meet
    case rel=>exact⟨a',c',by rw[HLE.out],by rw[HLE.out,HE.out];exact HS'.out⟩
   ·have hq3:(s.state == 3)=false:=by simpa using hc3
    have hq30:¬s.state=3:=hc3
    by_cases hc4:s.state=4
    ·have hq4:(s.state == 4)=true:=by simpa using hc4
     have HE:Hid (pI2 s=pS1 s++[ch0 6 s]):=(if_neg hc2).trans ((if_neg hc3).trans (if_pos hc4))
     obtain⟨a',c',w',hr,hS'⟩:=HS2.out.more (ch0 6 s) (by have:=HP2.out;omega) (n:=n2) HN2.out
     have hr':(Builtin.append_ #[69,69] 69 #[.slice a2 n2 c2,.slice (some ⟨Y2.heap.size,0,none⟩) 1 1]).run Tryz.prog (Y2.alloc (.cells #[.int .i64 6,.int .i64 s.client,.string s.tag,.string ⟨#[]⟩,.int .i64 0,.slice none 0 0,.int .i64 0] 28))=.ok (.slice a' (n2+1) c') w':=hr
     have HS':=hide hS'
     have HLE:Hid ((pI2 s).length=n2+1):=by show _=_;rw[HE.out,List.length_append,HN2.out];rfl
     clear hc4 hq0 hc2 hq30 hc3
     clear hr hS'
     go_wp2_with (first|(at_builtin;refine wpList_app rfl _ _ 69 rfl hr' (by first|rfl|simp[Act.eval,Act.put]) (by first|rfl|simp[Act.eval,Act.put]) ?_))
     go_meet
     case rel=>exact⟨a',c',by rw[HLE.out],by rw[HLE.out,HE.out];exact HS'.out⟩
    ·have hq4:(s.state == 4)=false:=by simpa using hc4
     have hq40:¬s.state=4:=hc4
     have HE:Hid (pI2 s=pS1 s):=(if_neg hc2).trans ((if_neg hc3).trans (if_neg hc4))
     go_wp2_with fail
     go_meet
     case rel=>exact⟨_,_,by rw[HE.out,HN2.out],by rw[HE.out,HN2.out];exact HS2.out⟩
 case rest =>
 clear k0 k1 k2 k3 k4 k5 k6
 obtain⟨Y3,rfl⟩:∃x,x=wc:=⟨_,rfl⟩
 obtain⟨a3,c3,rfl,hS3⟩:=hcut
 obtain⟨n3,hn3⟩:∃q,(pI2 s).length=q:=⟨_,rfl⟩
 rw[hn3] at hS3 ⊢
 have HS3:=hide hS3
 have HN3:=hide hn3
 have HP3:=hide (pI2_len s)
 clear hS3 hn3
 obtain⟨k0,k1,k2,k3,k4,k5,k6⟩:=KB.out Y3 HS3.out.2
 go_upto_if 62 with fail
 go_cut [3] (fun s3 wx=>∃a c,s3=.slice a (pastI s).length c∧CSt (.slice ar nr cr) X0 wx (.slice a (pastI s).length c) (pastI s))
 case first =>
  by_cases hcond:s.cursor≠0
  ·have hq:(s.cursor != 0)=true:=by simpa using hcond
   have hq2:¬s.cursor=0:=hcond
   have HE:Hid (pastI s=pI2 s++[chC s]):=if_pos hcond
   obtain⟨a',c',w',hr,hS'⟩:=HS3.out.more (chC s) (by have:=HP3.out;omega) (n:=n3) HN3.out
   have hr':(Builtin.append_ #[69,69] 69 #[.slice a3 n3 c3,.slice (some ⟨Y3.heap.size,0,none⟩) 1 1]).run Tryz.prog (Y3.alloc (.cells #[.int .i64 4,.int .i64 s.client,.string s.tag,.string ⟨#[]⟩,.int .i64 0,.slice none 0 0,.int .i64 s.cursor] 28))=.ok (.slice a' (n3+1) c') w':=hr
   have HS':=hide hS'
   have HLE:Hid ((pastI s).length=n3+1):=by show _=_;rw[HE.out,List.length_append,HN3.out];rfl
   clear hr hS'
   go_wp2_with (first|(at_builtin;refine wpList_app rfl _ _ 69 rfl hr' (by first|rfl|simp[Act.eval,Act.put]) (by first|rfl|simp[Act.eval,Act.put]) ?_))
   go_meet
   case rel=>exact⟨a',c',by rw[HLE.out],by rw[HLE.out,HE.out];exact HS'.out⟩
  ·have hq:(s.cursor != 0)=false:=by simpa using hcond
   have HE:Hid (pastI s=pI2 s):=if_neg hcond
   go_wp2_with fail
   go_meet
   case rel=>exact⟨_,_,by rw[HE.out,HN3.out],by rw[HE.out,HN3.out];exact HS3.out⟩
 case rest =>
 clear k0 k1 k2 k3 k4 k5 k6
 obtain⟨Y4,rfl⟩:∃x,x=wc:=⟨_,rfl⟩
 obtain⟨a4,c4,rfl,hS4⟩:=hcut
 obtain⟨n4,hn4⟩:∃q,(pastI s).length=q:=⟨_,rfl⟩
 rw[hn4] at hS4 ⊢
 have HS4:=hide hS4
 have HN4:=hide hn4
 have HP4:=hide (pastI_len s)
 clear hS4 hn4
 have HFIN:Hid (FB (snC (.slice ar nr cr)) 7 28 w.heap.size Y4 (.slice a4 n4 c4) (pastI s)∧Below w.heap.size w Y4):=⟨HS4.out.1.low (HB0.out.size),bjoin HS4.out.2 HB0.out⟩
 go_wp2_with fail
 go_ret
 exact⟨_,rfl,HFIN.out.1,HFIN.out.2⟩
end Go.Proofs.YtglcdcekkglmiaaGreatDoor.Msg
