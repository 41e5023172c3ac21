import Derived.Test.YtglcdcekkglmiaaGreatDoorG10
namespace Go.Proofs.YtglcdcekkglmiaaGreatDoor.Msg
open Go.ChangeShapes Go.WideShapes Go.ChangeAt Go.RowKit
set_option linter.unusedVariables false
set_option linter.unusedSimpArgs false
def stateB (x:Sess):Bool :=
 if x.state=1 then decide (x.cursor=0)
 else if x.state=2 then decide (0≤x.cursor) && decide (x.cursor≤(x.rows.length:Int))
 else if x.state=3∨x.state=4 then decide (x.cursor=0) && decide (x.rows.length=0)
 else false
def sessB (x:Sess):Bool:=(clientB x.client && (tagB x.tag && (textB x.query && (pageB x.page && rowsB x.rows 200)))) && stateB x
set_option maxHeartbeats 4000000 in
theorem sessionOk_any (x:Sess) (v:Value) (w:World) {lo:Nat} (h2:x.tag.size≤9223372036854775807) (h3:x.query.size≤9223372036854775807) (hv:StrsAt lo w v x.rows) :
  Calls Tryz.prog 49 #[sessV x v] w fun e w'=>e=.returned (.bool (sessB x))∧Below w.heap.size w w':=by
 obtain⟨client,tag,query,page,state,rows,cursor⟩:=x
 simp only at h2 h3 hv
 have hl:=hv.1
 obtain⟨a,cap,hf,_⟩:=hv.form
 subst hf
 show Calls Tryz.prog 49 #[.agg #[.int .i64 client,.string tag,.string query,.int .i64 page,.int .i64 state,.slice a rows.length cap,.int .i64 cursor]] w _
 have HB0:=hide ((Below.refl w.heap.size w).alloc (leR _) (Obj.cells #[.int .i64 client,.string tag,.string query,.int .i64 page,.int .i64 state,.slice a rows.length cap,.int .i64 cursor] 41))
 have HR:=hide (rowsOk_any rows _ (w.alloc (Obj.cells #[.int .i64 client,.string tag,.string query,.int .i64 page,.int .i64 state,.slice a rows.length cap,.int .i64 cursor] 41)) (At.kept kept_str hv HB0.out))
 have HQ:=hide (fun W=>textSpec_any query W h3)
 have HT:=hide (fun W=>tagSpec_any tag W h2)
 have HC:=hide (fun W=>l5Client_any client W)
 clear hv
 cases hc:clientB client
 ·
  have HX:Hid (sessB ⟨client,tag,query,page,state,rows,cursor⟩=false):=by show _=_;simp[sessB,stateB,pageB,hc]
  go_enter Tryz.func49,Tryz.ntmps49
  go_wp2_with (first|(go_at_call 52;refine(HQ.out _).mono ?_;rintro e w2 ⟨rfl,rfl⟩;rw[hq])|(go_at_call 53;refine HR.out.mono ?_;rintro e w2 ⟨rfl,rfl⟩;rw[hr])|(go_at_call 50;refine(HC.out _).mono ?_;rintro e w2 ⟨rfl,rfl⟩;rw[hc])|(go_at_call 51;refine(HT.out _).mono ?_;rintro e w2 ⟨rfl,rfl⟩;rw[ht]))
  all_goals go_ret
  all_goals refine⟨?_,alcB _ _⟩
  all_goals first|exact ret_bool HX.out.symm|(rw[HX.out];simp[hc])
 cases ht:tagB tag
 ·
  have HX:Hid (sessB ⟨client,tag,query,page,state,rows,cursor⟩=false):=by show _=_;simp[sessB,stateB,pageB,hc,ht]
  go_enter Tryz.func49,Tryz.ntmps49
  go_wp2_with (first|(go_at_call 52;refine(HQ.out _).mono ?_;rintro e w2 ⟨rfl,rfl⟩;rw[hq])|(go_at_call 53;refine HR.out.mono ?_;rintro e w2 ⟨rfl,rfl⟩;rw[hr])|(go_at_call 50;refine(HC.out _).mono ?_;rintro e w2 ⟨rfl,rfl⟩;rw[hc])|(go_at_call 51;refine(HT.out _).mono ?_;rintro e w2 ⟨rfl,rfl⟩;rw[ht]))
  all_goals go_ret
  all_goals refine⟨?_,alcB _ _⟩
  all_goals first|exact ret_bool HX.out.symm|(rw[HX.out];simp[hc,ht])
 cases hq:textB query
 ·
  have HX:Hid (sessB ⟨client,tag,query,page,state,rows,cursor⟩=false):=by show _=_;simp[sessB,stateB,pageB,hc,ht,hq]
  go_enter Tryz.func49,Tryz.ntmps49
  go_wp2_with (first|(go_at_call 52;refine(HQ.out _).mono ?_;rintro e w2 ⟨rfl,rfl⟩;rw[hq])|(go_at_call 53;refine HR.out.mono ?_;rintro e w2 ⟨rfl,rfl⟩;rw[hr])|(go_at_call 50;refine(HC.out _).mono ?_;rintro e w2 ⟨rfl,rfl⟩;rw[hc])|(go_at_call 51;refine(HT.out _).mono ?_;rintro e w2 ⟨rfl,rfl⟩;rw[ht]))
  all_goals go_ret
  all_goals refine⟨?_,alcB _ _⟩
  all_goals first|exact ret_bool HX.out.symm|(rw[HX.out];simp[hc,ht,hq])
 by_cases hp1:(1:Int)≤page
 rotate_left
 ·
  have HX:Hid (sessB ⟨client,tag,query,page,state,rows,cursor⟩=false):=by show _=_;simp[sessB,stateB,pageB,hc,ht,hq,hp1]
  go_enter Tryz.func49,Tryz.ntmps49
  go_wp2_with (first|(go_at_call 52;refine(HQ.out _).mono ?_;rintro e w2 ⟨rfl,rfl⟩;rw[hq])|(go_at_call 53;refine HR.out.mono ?_;rintro e w2 ⟨rfl,rfl⟩;rw[hr])|(go_at_call 50;refine(HC.out _).mono ?_;rintro e w2 ⟨rfl,rfl⟩;rw[hc])|(go_at_call 51;refine(HT.out _).mono ?_;rintro e w2 ⟨rfl,rfl⟩;rw[ht]))
  all_goals go_ret
  all_goals refine⟨?_,alcB _ _⟩
  all_goals first|exact ret_bool HX.out.symm|(rw[HX.out];simp[hc,ht,hq,hp1])
 by_cases hp2:page≤50
 rotate_left
 ·
  have HX:Hid (sessB ⟨client,tag,query,page,state,rows,cursor⟩=false):=by show _=_;simp[sessB,stateB,pageB,hc,ht,hq,hp1,hp2]
  go_enter Tryz.func49,Tryz.ntmps49
  go_wp2_with (first|(go_at_call 52;refine(HQ.out _).mono ?_;rintro e w2 ⟨rfl,rfl⟩;rw[hq])|(go_at_call 53;refine HR.out.mono ?_;rintro e w2 ⟨rfl,rfl⟩;rw[hr])|(go_at_call 50;refine(HC.out _).mono ?_;rintro e w2 ⟨rfl,rfl⟩;rw[hc])|(go_at_call 51;refine(HT.out _).mono ?_;rintro e w2 ⟨rfl,rfl⟩;rw[ht]))
  all_goals go_ret
  all_goals refine⟨?_,alcB _ _⟩
  all_goals first|exact ret_bool HX.out.symm|(rw[HX.out];simp[hc,ht,hq,hp1,hp2])
 cases hr:rowsB rows 200
 ·
  have HX:Hid (sessB ⟨client,tag,query,page,state,rows,cursor⟩=false):=by show _=_;simp[sessB,stateB,pageB,hc,ht,hq,hp1,hp2,hr]
  go_enter Tryz.func49,Tryz.ntmps49
  go_wp2_with (first|(go_at_call 52;refine(HQ.out _).mono ?_;rintro e w2 ⟨rfl,rfl⟩;rw[hq])|(go_at_call 53;refine HR.out.mono ?_;rintro e w2 ⟨rfl,rfl⟩;rw[hr])|(go_at_call 50;refine(HC.out _).mono ?_;rintro e w2 ⟨rfl,rfl⟩;rw[hc])|(go_at_call 51;refine(HT.out _).mono ?_;rintro e w2 ⟨rfl,rfl⟩;rw[ht]))
  all_goals go_ret
  all_goals refine⟨?_,alcB _ _⟩
  all_goals first|exact ret_bool HX.out.symm|(rw[HX.out];simp[hc,ht,hq,hp1,hp2,hr])
 by_cases s1:state=1
 ·subst s1
  by_cases k1:cursor=0
  rotate_left
  ·
   have k1b:(cursor == 0)=false:=by simpa using k1
   have HX:Hid (sessB ⟨client,tag,query,page,1,rows,cursor⟩=false):=by show _=_;simp[sessB,stateB,pageB,hc,ht,hq,hp1,hp2,hr,k1]
   go_enter Tryz.func49,Tryz.ntmps49
   go_wp2_with (first|(go_at_call 52;refine(HQ.out _).mono ?_;rintro e w2 ⟨rfl,rfl⟩;rw[hq])|(go_at_call 53;refine HR.out.mono ?_;rintro e w2 ⟨rfl,rfl⟩;rw[hr])|(go_at_call 50;refine(HC.out _).mono ?_;rintro e w2 ⟨rfl,rfl⟩;rw[hc])|(go_at_call 51;refine(HT.out _).mono ?_;rintro e w2 ⟨rfl,rfl⟩;rw[ht]))
   all_goals go_ret
   all_goals refine⟨?_,alcB _ _⟩
   all_goals first|exact ret_bool HX.out.symm|(rw[HX.out];simp[hc,ht,hq,hp1,hp2,hr,k1])
  subst k1
  have HX:Hid (sessB ⟨client,tag,query,page,1,rows,0⟩=true):=by show _=_;simp[sessB,stateB,pageB,hc,ht,hq,hp1,hp2,hr]
  go_enter Tryz.func49,Tryz.ntmps49
  go_wp2_with (first|(go_at_call 52;refine(HQ.out _).mono ?_;rintro e w2 ⟨rfl,rfl⟩;rw[hq])|(go_at_call 53;refine HR.out.mono ?_;rintro e w2 ⟨rfl,rfl⟩;rw[hr])|(go_at_call 50;refine(HC.out _).mono ?_;rintro e w2 ⟨rfl,rfl⟩;rw[hc])|(go_at_call 51;refine(HT.out _).mono ?_;rintro e w2 ⟨rfl,rfl⟩;rw[ht]))
  all_goals go_ret
  all_goals refine⟨?_,alcB _ _⟩
  all_goals first|exact ret_bool HX.out.symm|(rw[HX.out];simp[hc,ht,hq,hp1,hp2,hr])
 by_cases s2:state=2
 ·subst s2
  by_cases k1:(0:Int)≤cursor
  rotate_left
  ·
   have HX:Hid (sessB ⟨client,tag,query,page,2,rows,cursor⟩=false):=by show _=_;simp[sessB,stateB,pageB,hc,ht,hq,hp1,hp2,hr,k1]
   go_enter Tryz.func49,Tryz.ntmps49
   go_wp2_with (first|(go_at_call 52;refine(HQ.out _).mono ?_;rintro e w2 ⟨rfl,rfl⟩;rw[hq])|(go_at_call 53;refine HR.out.mono ?_;rintro e w2 ⟨rfl,rfl⟩;rw[hr])|(go_at_call 50;refine(HC.out _).mono ?_;rintro e w2 ⟨rfl,rfl⟩;rw[hc])|(go_at_call 51;refine(HT.out _).mono ?_;rintro e w2 ⟨rfl,rfl⟩;rw[ht]))
   all_goals go_ret
   all_goals refine⟨?_,alcB _ _⟩
   all_goals first|exact ret_bool HX.out.symm|(rw[HX.out];simp[hc,ht,hq,hp1,hp2,hr,k1])
  by_cases k2:cursor≤(rows.length:Int)
  rotate_left
  ·
   have HX:Hid (sessB ⟨client,tag,query,page,2,rows,cursor⟩=false):=by show _=_;simp[sessB,stateB,pageB,hc,ht,hq,hp1,hp2,hr,k1,k2]
   go_enter Tryz.func49,Tryz.ntmps49
   go_wp2_with (first|(go_at_call 52;refine(HQ.out _).mono ?_;rintro e w2 ⟨rfl,rfl⟩;rw[hq])|(go_at_call 53;refine HR.out.mono ?_;rintro e w2 ⟨rfl,rfl⟩;rw[hr])|(go_at_call 50;refine(HC.out _).mono ?_;rintro e w2 ⟨rfl,rfl⟩;rw[hc])|(go_at_call 51;refine(HT.out _).mono ?_;rintro e w2 ⟨rfl,rfl⟩;rw[ht]))
   all_goals go_ret
   all_goals refine⟨?_,alcB _ _⟩
   all_goals first|exact ret_bool HX.out.symm|(rw[HX.out];simp[hc,ht,hq,hp1,hp2,hr,k1,k2])
  have HX:Hid (sessB ⟨client,tag,query,page,2,rows,cursor⟩=true):=by show _=_;simp[sessB,stateB,pageB,hc,ht,hq,hp1,hp2,hr,k1,k2]
  go_enter Tryz.func49,Tryz.ntmps49
  go_wp2_with (first|(go_at_call 52;refine(HQ.out _).mono ?_;rintro e w2 ⟨rfl,rfl⟩;rw[hq])|(go_at_call 53;refine HR.out.mono ?_;rintro e w2 ⟨rfl,rfl⟩;rw[hr])|(go_at_call 50;refine(HC.out _).mono ?_;rintro e w2 ⟨rfl,rfl⟩;rw[hc])|(go_at_call 51;refine(HT.out _).mono ?_;rintro e w2 ⟨rfl,rfl⟩;rw[ht]))
  all_goals go_ret
  all_goals refine⟨?_,alcB _ _⟩
  all_goals first|exact ret_bool HX.out.symm|(rw[HX.out];simp[hc,ht,hq,hp1,hp2,hr,k1,k2])
 by_cases s3:state=3
 ·subst s3
  by_cases k1:cursor=0
  rotate_left
  ·
   have k1b:(cursor == 0)=false:=by simpa using k1
   have HX:Hid (sessB ⟨client,tag,query,page,3,rows,cursor⟩=false):=by show _=_;simp[sessB,stateB,pageB,hc,ht,hq,hp1,hp2,hr,k1]
   go_enter Tryz.func49,Tryz.ntmps49
   go_wp2_with (first|(go_at_call 52;refine(HQ.out _).mono ?_;rintro e w2 ⟨rfl,rfl⟩;rw[hq])|(go_at_call 53;refine HR.out.mono ?_;rintro e w2 ⟨rfl,rfl⟩;rw[hr])|(go_at_call 50;refine(HC.out _).mono ?_;rintro e w2 ⟨rfl,rfl⟩;rw[hc])|(go_at_call 51;refine(HT.out _).mono ?_;rintro e w2 ⟨rfl,rfl⟩;rw[ht]))
   all_goals go_ret
   all_goals refine⟨?_,alcB _ _⟩
   all_goals first|exact ret_bool HX.out.symm|(rw[HX.out];simp[hc,ht,hq,hp1,hp2,hr,k1])
  subst k1
  by_cases k2:rows.length=0
  rotate_left
  ·
   have k2i:¬((rows.length:Nat):Int)=0:=by omega
   have HX:Hid (sessB ⟨client,tag,query,page,3,rows,0⟩=false):=by show _=_;simp[sessB,stateB,pageB,hc,ht,hq,hp1,hp2,hr,k2]
   go_enter Tryz.func49,Tryz.ntmps49
   go_wp2_with (first|(go_at_call 52;refine(HQ.out _).mono ?_;rintro e w2 ⟨rfl,rfl⟩;rw[hq])|(go_at_call 53;refine HR.out.mono ?_;rintro e w2 ⟨rfl,rfl⟩;rw[hr])|(go_at_call 50;refine(HC.out _).mono ?_;rintro e w2 ⟨rfl,rfl⟩;rw[hc])|(go_at_call 51;refine(HT.out _).mono ?_;rintro e w2 ⟨rfl,rfl⟩;rw[ht]))
   all_goals go_ret
   all_goals refine⟨?_,alcB _ _⟩
   all_goals first|exact ret_bool HX.out.symm|(rw[HX.out];simp[hc,ht,hq,hp1,hp2,hr,k2])
  have k2i:((rows.length:Nat):Int)=0:=by omega
  have HX:Hid (sessB ⟨client,tag,query,page,3,rows,0⟩=true):=by show _=_;unfold sessB stateB;simp only[hc,ht,hq,hr,pageB,decide_eq_true hp1,decide_eq_true hp2,decide_eq_true k2];rfl
  clear k2
  go_enter Tryz.func49,Tryz.ntmps49
  go_wp2_with (first|(go_at_call 52;refine(HQ.out _).mono ?_;rintro e w2 ⟨rfl,rfl⟩;rw[hq])|(go_at_call 53;refine HR.out.mono ?_;rintro e w2 ⟨rfl,rfl⟩;rw[hr])|(go_at_call 50;refine(HC.out _).mono ?_;rintro e w2 ⟨rfl,rfl⟩;rw[hc])|(go_at_call 51;refine(HT.out _).mono ?_;rintro e w2 ⟨rfl,rfl⟩;rw[ht]))
  all_goals go_ret
  all_goals refine⟨?_,alcB _ _⟩
  all_goals first|exact ret_bool HX.out.symm|(rw[HX.out];simp[hc,ht,hq,hp1,hp2,hr,k2i])
 by_cases s4:state=4
 ·subst s4
  by_cases k1:cursor=0
  rotate_left
  ·
   have k1b:(cursor == 0)=false:=by simpa using k1
   have HX:Hid (sessB ⟨client,tag,query,page,4,rows,cursor⟩=false):=by show _=_;simp[sessB,stateB,pageB,hc,ht,hq,hp1,hp2,hr,k1]
   go_enter Tryz.func49,Tryz.ntmps49
   go_wp2_with (first|(go_at_call 52;refine(HQ.out _).mono ?_;rintro e w2 ⟨rfl,rfl⟩;rw[hq])|(go_at_call 53;refine HR.out.mono ?_;rintro e w2 ⟨rfl,rfl⟩;rw[hr])|(go_at_call 50;refine(HC.out _).mono ?_;rintro e w2 ⟨rfl,rfl⟩;rw[hc])|(go_at_call 51;refine(HT.out _).mono ?_;rintro e w2 ⟨rfl,rfl⟩;rw[ht]))
   all_goals go_ret
   all_goals refine⟨?_,alcB _ _⟩
   all_goals first|exact ret_bool HX.out.symm|(rw[HX.out];simp[hc,ht,hq,hp1,hp2,hr,k1])
  subst k1
  by_cases k2:rows.length=0
  rotate_left
  ·
   have k2i:¬((rows.length:Nat):Int)=0:=by omega
   have HX:Hid (sessB ⟨client,tag,query,page,4,rows,0⟩=false):=by show _=_;simp[sessB,stateB,pageB,hc,ht,hq,hp1,hp2,hr,k2]
   go_enter Tryz.func49,Tryz.ntmps49
   go_wp2_with (first|(go_at_call 52;refine(HQ.out _).mono ?_;rintro e w2 ⟨rfl,rfl⟩;rw[hq])|(go_at_call 53;refine HR.out.mono ?_;rintro e w2 ⟨rfl,rfl⟩;rw[hr])|(go_at_call 50;refine(HC.out _).mono ?_;rintro e w2 ⟨rfl,rfl⟩;rw[hc])|(go_at_call 51;refine(HT.out _).mono ?_;rintro e w2 ⟨rfl,rfl⟩;rw[ht]))
   all_goals go_ret
   all_goals refine⟨?_,alcB _ _⟩
   all_goals first|exact ret_bool HX.out.symm|(rw[HX.out];simp[hc,ht,hq,hp1,hp2,hr,k2])
  have k2i:((rows.length:Nat):Int)=0:=by omega
  have HX:Hid (sessB ⟨client,tag,query,page,4,rows,0⟩=true):=by show _=_;unfold sessB stateB;simp only[hc,ht,hq,hr,pageB,decide_eq_true hp1,decide_eq_true hp2,decide_eq_true k2];rfl
  clear k2
  go_enter Tryz.func49,Tryz.ntmps49
  go_wp2_with (first|(go_at_call 52;refine(HQ.out _).mono ?_;rintro e w2 ⟨rfl,rfl⟩;rw[hq])|(go_at_call 53;refine HR.out.mono ?_;rintro e w2 ⟨rfl,rfl⟩;rw[hr])|(go_at_call 50;refine(HC.out _).mono ?_;rintro e w2 ⟨rfl,rfl⟩;rw[hc])|(go_at_call 51;refine(HT.out _).mono ?_;rintro e w2 ⟨rfl,rfl⟩;rw[ht]))
  all_goals go_ret
  all_goals refine⟨?_,alcB _ _⟩
  all_goals first|exact ret_bool HX.out.symm|(rw[HX.out];simp[hc,ht,hq,hp1,hp2,hr,k2i])
 by_cases k1:cursor=0
 rotate_left
 ·
  have k1b:(cursor == 0)=false:=by simpa using k1
  have HX:Hid (sessB ⟨client,tag,query,page,state,rows,cursor⟩=false):=by show _=_;simp[sessB,stateB,pageB,hc,ht,hq,hp1,hp2,hr,s1,s2,s3,s4]
  go_enter Tryz.func49,Tryz.ntmps49
  go_wp2_with (first|(go_at_call 52;refine(HQ.out _).mono ?_;rintro e w2 ⟨rfl,rfl⟩;rw[hq])|(go_at_call 53;refine HR.out.mono ?_;rintro e w2 ⟨rfl,rfl⟩;rw[hr])|(go_at_call 50;refine(HC.out _).mono ?_;rintro e w2 ⟨rfl,rfl⟩;rw[hc])|(go_at_call 51;refine(HT.out _).mono ?_;rintro e w2 ⟨rfl,rfl⟩;rw[ht]))
  all_goals go_ret
  all_goals refine⟨?_,alcB _ _⟩
  all_goals first|exact ret_bool HX.out.symm|(rw[HX.out];simp[hc,ht,hq,hp1,hp2,hr,s1,s2,s3,s4,k1])
 subst k1
 have HX:Hid (sessB ⟨client,tag,query,page,state,rows,0⟩=false):=by show _=_;simp[sessB,stateB,pageB,hc,ht,hq,hp1,hp2,hr,s1,s2,s3,s4]
 go_enter Tryz.func49,Tryz.ntmps49
 go_wp2_with (first|(go_at_call 52;refine(HQ.out _).mono ?_;rintro e w2 ⟨rfl,rfl⟩;rw[hq])|(go_at_call 53;refine HR.out.mono ?_;rintro e w2 ⟨rfl,rfl⟩;rw[hr])|(go_at_call 50;refine(HC.out _).mono ?_;rintro e w2 ⟨rfl,rfl⟩;rw[hc])|(go_at_call 51;refine(HT.out _).mono ?_;rintro e w2 ⟨rfl,rfl⟩;rw[ht]))
 all_goals go_ret
 all_goals refine⟨?_,alcB _ _⟩
 all_goals first|exact ret_bool HX.out.symm|(rw[HX.out];simp[hc,ht,hq,hp1,hp2,hr,s1,s2,s3,s4])
set_option maxHeartbeats 4000000 in
theorem isSession_any (x:Sess) (v:Value) (w:World) {lo:Nat} (h2:x.tag.size≤9223372036854775807) (h3:x.query.size≤9223372036854775807) (hv:StrsAt lo w v x.rows) :
  Calls Tryz.prog 56 #[sessV x v] w fun e w'=>e=.returned (.bool (sessB x))∧Below w.heap.size w w':=by
 obtain⟨client,tag,query,page,state,rows,cursor⟩:=x
 simp only at h2 h3 hv
 have hl:=hv.1
 obtain⟨a,cap,hf,_⟩:=hv.form
 subst hf
 show Calls Tryz.prog 56 #[.agg #[.int .i64 client,.string tag,.string query,.int .i64 page,.int .i64 state,.slice a rows.length cap,.int .i64 cursor]] w _
 have HB0:=hide ((Below.refl w.heap.size w).alloc (leR _) (Obj.cells #[.int .i64 client,.string tag,.string query,.int .i64 page,.int .i64 state,.slice a rows.length cap,.int .i64 cursor] 41))
 have HR:=hide (areRows_any rows 200 _ (w.alloc (Obj.cells #[.int .i64 client,.string tag,.string query,.int .i64 page,.int .i64 state,.slice a rows.length cap,.int .i64 cursor] 41)) (At.kept kept_str hv HB0.out))
 have HQ:=hide (fun W=>isText_any query W h3)
 have HT:=hide (fun W=>isTag_any tag W h2)
 have HC:=hide (fun W=>isClient_any client W)
 have HP:=hide (fun W=>isPage_any page W)
 clear hv
 cases hc:clientB client
 ·
  have HX:Hid (sessB ⟨client,tag,query,page,state,rows,cursor⟩=false):=by show _=_;simp[sessB,stateB,hc]
  go_enter Tryz.func56,Tryz.ntmps56
  go_wp2_with (first|(go_at_call 60;refine(HQ.out _).mono ?_;rintro e w2 ⟨rfl,rfl⟩;rw[hq])|(go_at_call 62;refine HR.out.mono ?_;rintro e w2 ⟨rfl,rfl⟩;rw[hr])|(go_at_call 63;refine(HC.out _).mono ?_;rintro e w2 ⟨rfl,rfl⟩;rw[hc])|(go_at_call 64;refine(HT.out _).mono ?_;rintro e w2 ⟨rfl,rfl⟩;rw[ht])|(go_at_call 61;refine(HP.out _).mono ?_;rintro e w2 ⟨rfl,rfl⟩;rw[hp]))
  all_goals go_ret
  all_goals refine⟨?_,alcB _ _⟩
  all_goals first|exact ret_bool HX.out.symm|(rw[HX.out];simp[hc])
 cases ht:tagB tag
 ·
  have HX:Hid (sessB ⟨client,tag,query,page,state,rows,cursor⟩=false):=by show _=_;simp[sessB,stateB,hc,ht]
  go_enter Tryz.func56,Tryz.ntmps56
  go_wp2_with (first|(go_at_call 60;refine(HQ.out _).mono ?_;rintro e w2 ⟨rfl,rfl⟩;rw[hq])|(go_at_call 62;refine HR.out.mono ?_;rintro e w2 ⟨rfl,rfl⟩;rw[hr])|(go_at_call 63;refine(HC.out _).mono ?_;rintro e w2 ⟨rfl,rfl⟩;rw[hc])|(go_at_call 64;refine(HT.out _).mono ?_;rintro e w2 ⟨rfl,rfl⟩;rw[ht])|(go_at_call 61;refine(HP.out _).mono ?_;rintro e w2 ⟨rfl,rfl⟩;rw[hp]))
  all_goals go_ret
  all_goals refine⟨?_,alcB _ _⟩
  all_goals first|exact ret_bool HX.out.symm|(rw[HX.out];simp[hc,ht])
 cases hq:textB query
 ·
  have HX:Hid (sessB ⟨client,tag,query,page,state,rows,cursor⟩=false):=by show _=_;simp[sessB,stateB,hc,ht,hq]
  go_enter Tryz.func56,Tryz.ntmps56
  go_wp2_with (first|(go_at_call 60;refine(HQ.out _).mono ?_;rintro e w2 ⟨rfl,rfl⟩;rw[hq])|(go_at_call 62;refine HR.out.mono ?_;rintro e w2 ⟨rfl,rfl⟩;rw[hr])|(go_at_call 63;refine(HC.out _).mono ?_;rintro e w2 ⟨rfl,rfl⟩;rw[hc])|(go_at_call 64;refine(HT.out _).mono ?_;rintro e w2 ⟨rfl,rfl⟩;rw[ht])|(go_at_call 61;refine(HP.out _).mono ?_;rintro e w2 ⟨rfl,rfl⟩;rw[hp]))
  all_goals go_ret
  all_goals refine⟨?_,alcB _ _⟩
  all_goals first|exact ret_bool HX.out.symm|(rw[HX.out];simp[hc,ht,hq])
 cases hp:pageB page
 ·
  have HX:Hid (sessB ⟨client,tag,query,page,state,rows,cursor⟩=false):=by show _=_;simp[sessB,stateB,hc,ht,hq,hp]
  go_enter Tryz.func56,Tryz.ntmps56
  go_wp2_with (first|(go_at_call 60;refine(HQ.out _).mono ?_;rintro e w2 ⟨rfl,rfl⟩;rw[hq])|(go_at_call 62;refine HR.out.mono ?_;rintro e w2 ⟨rfl,rfl⟩;rw[hr])|(go_at_call 63;refine(HC.out _).mono ?_;rintro e w2 ⟨rfl,rfl⟩;rw[hc])|(go_at_call 64;refine(HT.out _).mono ?_;rintro e w2 ⟨rfl,rfl⟩;rw[ht])|(go_at_call 61;refine(HP.out _).mono ?_;rintro e w2 ⟨rfl,rfl⟩;rw[hp]))
  all_goals go_ret
  all_goals refine⟨?_,alcB _ _⟩
  all_goals first|exact ret_bool HX.out.symm|(rw[HX.out];simp[hc,ht,hq,hp])
 cases hr:rowsB rows 200
 ·
  have HX:Hid (sessB ⟨client,tag,query,page,state,rows,cursor⟩=false):=by show _=_;simp[sessB,stateB,hc,ht,hq,hp,hr]
  go_enter Tryz.func56,Tryz.ntmps56
  go_wp2_with (first|(go_at_call 60;refine(HQ.out _).mono ?_;rintro e w2 ⟨rfl,rfl⟩;rw[hq])|(go_at_call 62;refine HR.out.mono ?_;rintro e w2 ⟨rfl,rfl⟩;rw[hr])|(go_at_call 63;refine(HC.out _).mono ?_;rintro e w2 ⟨rfl,rfl⟩;rw[hc])|(go_at_call 64;refine(HT.out _).mono ?_;rintro e w2 ⟨rfl,rfl⟩;rw[ht])|(go_at_call 61;refine(HP.out _).mono ?_;rintro e w2 ⟨rfl,rfl⟩;rw[hp]))
  all_goals go_ret
  all_goals refine⟨?_,alcB _ _⟩
  all_goals first|exact ret_bool HX.out.symm|(rw[HX.out];simp[hc,ht,hq,hp,hr])
 by_cases s1:state=1
 ·subst s1
  by_cases k1:cursor=0
  rotate_left
  ·
   have k1b:(cursor == 0)=false:=by simpa using k1
   have HX:Hid (sessB ⟨client,tag,query,page,1,rows,cursor⟩=false):=by show _=_;simp[sessB,stateB,hc,ht,hq,hp,hr,k1]
   go_enter Tryz.func56,Tryz.ntmps56
   go_wp2_with (first|(go_at_call 60;refine(HQ.out _).mono ?_;rintro e w2 ⟨rfl,rfl⟩;rw[hq])|(go_at_call 62;refine HR.out.mono ?_;rintro e w2 ⟨rfl,rfl⟩;rw[hr])|(go_at_call 63;refine(HC.out _).mono ?_;rintro e w2 ⟨rfl,rfl⟩;rw[hc])|(go_at_call 64;refine(HT.out _).mono ?_;rintro e w2 ⟨rfl,rfl⟩;rw[ht])|(go_at_call 61;refine(HP.out _).mono ?_;rintro e w2 ⟨rfl,rfl⟩;rw[hp]))
   all_goals go_ret
   all_goals refine⟨?_,alcB _ _⟩
   all_goals first|exact ret_bool HX.out.symm|(rw[HX.out];simp[hc,ht,hq,hp,hr,k1])
  subst k1
  have HX:Hid (sessB ⟨client,tag,query,page,1,rows,0⟩=true):=by show _=_;simp[sessB,stateB,hc,ht,hq,hp,hr]
  go_enter Tryz.func56,Tryz.ntmps56
  go_wp2_with (first|(go_at_call 60;refine(HQ.out _).mono ?_;rintro e w2 ⟨rfl,rfl⟩;rw[hq])|(go_at_call 62;refine HR.out.mono ?_;rintro e w2 ⟨rfl,rfl⟩;rw[hr])|(go_at_call 63;refine(HC.out _).mono ?_;rintro e w2 ⟨rfl,rfl⟩;rw[hc])|(go_at_call 64;refine(HT.out _).mono ?_;rintro e w2 ⟨rfl,rfl⟩;rw[ht])|(go_at_call 61;refine(HP.out _).mono ?_;rintro e w2 ⟨rfl,rfl⟩;rw[hp]))
  all_goals go_ret
  all_goals refine⟨?_,alcB _ _⟩
  all_goals first|exact ret_bool HX.out.symm|(rw[HX.out];simp[hc,ht,hq,hp,hr])
 by_cases s2:state=2
 ·subst s2
  by_cases k1:(0:Int)≤cursor
  rotate_left
  ·
   have HX:Hid (sessB ⟨client,tag,query,page,2,rows,cursor⟩=false):=by show _=_;simp[sessB,stateB,hc,ht,hq,hp,hr,k1]
   go_enter Tryz.func56,Tryz.ntmps56
   go_wp2_with (first|(go_at_call 60;refine(HQ.out _).mono ?_;rintro e w2 ⟨rfl,rfl⟩;rw[hq])|(go_at_call 62;refine HR.out.mono ?_;rintro e w2 ⟨rfl,rfl⟩;rw[hr])|(go_at_call 63;refine(HC.out _).mono ?_;rintro e w2 ⟨rfl,rfl⟩;rw[hc])|(go_at_call 64;refine(HT.out _).mono ?_;rintro e w2 ⟨rfl,rfl⟩;rw[ht])|(go_at_call 61;refine(HP.out _).mono ?_;rintro e w2 ⟨rfl,rfl⟩;rw[hp]))
   all_goals go_ret
   all_goals refine⟨?_,alcB _ _⟩
   all_goals first|exact ret_bool HX.out.symm|(rw[HX.out];simp[hc,ht,hq,hp,hr,k1])
  by_cases k2:cursor≤(rows.length:Int)
  rotate_left
  ·
   have HX:Hid (sessB ⟨client,tag,query,page,2,rows,cursor⟩=false):=by show _=_;simp[sessB,stateB,hc,ht,hq,hp,hr,k1,k2]
   go_enter Tryz.func56,Tryz.ntmps56
   go_wp2_with (first|(go_at_call 60;refine(HQ.out _).mono ?_;rintro e w2 ⟨rfl,rfl⟩;rw[hq])|(go_at_call 62;refine HR.out.mono ?_;rintro e w2 ⟨rfl,rfl⟩;rw[hr])|(go_at_call 63;refine(HC.out _).mono ?_;rintro e w2 ⟨rfl,rfl⟩;rw[hc])|(go_at_call 64;refine(HT.out _).mono ?_;rintro e w2 ⟨rfl,rfl⟩;rw[ht])|(go_at_call 61;refine(HP.out _).mono ?_;rintro e w2 ⟨rfl,rfl⟩;rw[hp]))
   all_goals go_ret
   all_goals refine⟨?_,alcB _ _⟩
   all_goals first|exact ret_bool HX.out.symm|(rw[HX.out];simp[hc,ht,hq,hp,hr,k1,k2])
  have HX:Hid (sessB ⟨client,tag,query,page,2,rows,cursor⟩=true):=by show _=_;simp[sessB,stateB,hc,ht,hq,hp,hr,k1,k2]
  go_enter Tryz.func56,Tryz.ntmps56
  go_wp2_with (first|(go_at_call 60;refine(HQ.out _).mono ?_;rintro e w2 ⟨rfl,rfl⟩;rw[hq])|(go_at_call 62;refine HR.out.mono ?_;rintro e w2 ⟨rfl,rfl⟩;rw[hr])|(go_at_call 63;refine(HC.out _).mono ?_;rintro e w2 ⟨rfl,rfl⟩;rw[hc])|(go_at_call 64;refine(HT.out _).mono ?_;rintro e w2 ⟨rfl,rfl⟩;rw[ht])|(go_at_call 61;refine(HP.out _).mono ?_;rintro e w2 ⟨rfl,rfl⟩;rw[hp]))
  all_goals go_ret
  all_goals refine⟨?_,alcB _ _⟩
  all_goals first|exact ret_bool HX.out.symm|(rw[HX.out];simp[hc,ht,hq,hp,hr,k1,k2])
 by_cases s3:state=3
 ·subst s3
  by_cases k1:cursor=0
  rotate_left
  ·
   have k1b:(cursor == 0)=false:=by simpa using k1
   have HX:Hid (sessB ⟨client,tag,query,page,3,rows,cursor⟩=false):=by show _=_;simp[sessB,stateB,hc,ht,hq,hp,hr,k1]
   go_enter Tryz.func56,Tryz.ntmps56
   go_wp2_with (first|(go_at_call 60;refine(HQ.out _).mono ?_;rintro e w2 ⟨rfl,rfl⟩;rw[hq])|(go_at_call 62;refine HR.out.mono ?_;rintro e w2 ⟨rfl,rfl⟩;rw[hr])|(go_at_call 63;refine(HC.out _).mono ?_;rintro e w2 ⟨rfl,rfl⟩;rw[hc])|(go_at_call 64;refine(HT.out _).mono ?_;rintro e w2 ⟨rfl,rfl⟩;rw[ht])|(go_at_call 61;refine(HP.out _).mono ?_;rintro e w2 ⟨rfl,rfl⟩;rw[hp]))
   all_goals go_ret
   all_goals refine⟨?_,alcB _ _⟩
   all_goals first|exact ret_bool HX.out.symm|(rw[HX.out];simp[hc,ht,hq,hp,hr,k1])
  subst k1
  by_cases k2:rows.length=0
  rotate_left
  ·
   have k2i:¬((rows.length:Nat):Int)=0:=by omega
   have HX:Hid (sessB ⟨client,tag,query,page,3,rows,0⟩=false):=by show _=_;simp[sessB,stateB,hc,ht,hq,hp,hr,k2]
   go_enter Tryz.func56,Tryz.ntmps56
   go_wp2_with (first|(go_at_call 60;refine(HQ.out _).mono ?_;rintro e w2 ⟨rfl,rfl⟩;rw[hq])|(go_at_call 62;refine HR.out.mono ?_;rintro e w2 ⟨rfl,rfl⟩;rw[hr])|(go_at_call 63;refine(HC.out _).mono ?_;rintro e w2 ⟨rfl,rfl⟩;rw[hc])|(go_at_call 64;refine(HT.out _).mono ?_;rintro e w2 ⟨rfl,rfl⟩;rw[ht])|(go_at_call 61;refine(HP.out _).mono ?_;rintro e w2 ⟨rfl,rfl⟩;rw[hp]))
   all_goals go_ret
   all_goals refine⟨?_,alcB _ _⟩
   all_goals first|exact ret_bool HX.out.symm|(rw[HX.out];simp[hc,ht,hq,hp,hr,k2])
  have k2i:((rows.length:Nat):Int)=0:=by omega
  have HX:Hid (sessB ⟨client,tag,query,page,3,rows,0⟩=true):=by show _=_;unfold sessB stateB;simp only[hc,ht,hq,hp,hr,decide_eq_true k2];rfl
  clear k2
  go_enter Tryz.func56,Tryz.ntmps56
  go_wp2_with (first|(go_at_call 60;refine(HQ.out _).mono ?_;rintro e w2 ⟨rfl,rfl⟩;rw[hq])|(go_at_call 62;refine HR.out.mono ?_;rintro e w2 ⟨rfl,rfl⟩;rw[hr])|(go_at_call 63;refine(HC.out _).mono ?_;rintro e w2 ⟨rfl,rfl⟩;rw[hc])|(go_at_call 64;refine(HT.out _).mono ?_;rintro e w2 ⟨rfl,rfl⟩;rw[ht])|(go_at_call 61;refine(HP.out _).mono ?_;rintro e w2 ⟨rfl,rfl⟩;rw[hp]))
  all_goals go_ret
  all_goals refine⟨?_,alcB _ _⟩
  all_goals first|exact ret_bool HX.out.symm|(rw[HX.out];simp[hc,ht,hq,hp,hr,k2i])
 by_cases s4:state=4
 ·subst s4
  by_cases k1:cursor=0
  rotate_left
  ·
   have k1b:(cursor == 0)=false:=by simpa using k1
   have HX:Hid (sessB ⟨client,tag,query,page,4,rows,cursor⟩=false):=by show _=_;simp[sessB,stateB,hc,ht,hq,hp,hr,k1]
   go_enter Tryz.func56,Tryz.ntmps56
   go_wp2_with (first|(go_at_call 60;refine(HQ.out _).mono ?_;rintro e w2 ⟨rfl,rfl⟩;rw[hq])|(go_at_call 62;refine HR.out.mono ?_;rintro e w2 ⟨rfl,rfl⟩;rw[hr])|(go_at_call 63;refine(HC.out _).mono ?_;rintro e w2 ⟨rfl,rfl⟩;rw[hc])|(go_at_call 64;refine(HT.out _).mono ?_;rintro e w2 ⟨rfl,rfl⟩;rw[ht])|(go_at_call 61;refine(HP.out _).mono ?_;rintro e w2 ⟨rfl,rfl⟩;rw[hp]))
   all_goals go_ret
   all_goals refine⟨?_,alcB _ _⟩
   all_goals first|exact ret_bool HX.out.symm|(rw[HX.out];simp[hc,ht,hq,hp,hr,k1])
  subst k1
  by_cases k2:rows.length=0
  rotate_left
  ·
   have k2i:¬((rows.length:Nat):Int)=0:=by omega
   have HX:Hid (sessB ⟨client,tag,query,page,4,rows,0⟩=false):=by show _=_;simp[sessB,stateB,hc,ht,hq,hp,hr,k2]
   go_enter Tryz.func56,Tryz.ntmps56
   go_wp2_with (first|(go_at_call 60;refine(HQ.out _).mono ?_;rintro e w2 ⟨rfl,rfl⟩;rw[hq])|(go_at_call 62;refine HR.out.mono ?_;rintro e w2 ⟨rfl,rfl⟩;rw[hr])|(go_at_call 63;refine(HC.out _).mono ?_;rintro e w2 ⟨rfl,rfl⟩;rw[hc])|(go_at_call 64;refine(HT.out _).mono ?_;rintro e w2 ⟨rfl,rfl⟩;rw[ht])|(go_at_call 61;refine(HP.out _).mono ?_;rintro e w2 ⟨rfl,rfl⟩;rw[hp]))
   all_goals go_ret
   all_goals refine⟨?_,alcB _ _⟩
   all_goals first|exact ret_bool HX.out.symm|(rw[HX.out];simp[hc,ht,hq,hp,hr,k2])
  have k2i:((rows.length:Nat):Int)=0:=by omega
  have HX:Hid (sessB ⟨client,tag,query,page,4,rows,0⟩=true):=by show _=_;unfold sessB stateB;simp only[hc,ht,hq,hp,hr,decide_eq_true k2];rfl
  clear k2
  go_enter Tryz.func56,Tryz.ntmps56
  go_wp2_with (first|(go_at_call 60;refine(HQ.out _).mono ?_;rintro e w2 ⟨rfl,rfl⟩;rw[hq])|(go_at_call 62;refine HR.out.mono ?_;rintro e w2 ⟨rfl,rfl⟩;rw[hr])|(go_at_call 63;refine(HC.out _).mono ?_;rintro e w2 ⟨rfl,rfl⟩;rw[hc])|(go_at_call 64;refine(HT.out _).mono ?_;rintro e w2 ⟨rfl,rfl⟩;rw[ht])|(go_at_call 61;refine(HP.out _).mono ?_;rintro e w2 ⟨rfl,rfl⟩;rw[hp]))
  all_goals go_ret
  all_goals refine⟨?_,alcB _ _⟩
  all_goals first|exact ret_bool HX.out.symm|(rw[HX.out];simp[hc,ht,hq,hp,hr,k2i])
 have HX:Hid (sessB ⟨client,tag,query,page,state,rows,cursor⟩=false):=by show _=_;simp[sessB,stateB,hc,ht,hq,hp,hr,s1,s2,s3,s4]
 go_enter Tryz.func56,Tryz.ntmps56
 go_wp2_with (first|(go_at_call 60;refine(HQ.out _).mono ?_;rintro e w2 ⟨rfl,rfl⟩;rw[hq])|(go_at_call 62;refine HR.out.mono ?_;rintro e w2 ⟨rfl,rfl⟩;rw[hr])|(go_at_call 63;refine(HC.out _).mono ?_;rintro e w2 ⟨rfl,rfl⟩;rw[hc])|(go_at_call 64;refine(HT.out _).mono ?_;rintro e w2 ⟨rfl,rfl⟩;rw[ht])|(go_at_call 61;refine(HP.out _).mono ?_;rintro e w2 ⟨rfl,rfl⟩;rw[hp]))
 all_goals go_ret
 all_goals refine⟨?_,alcB _ _⟩
 all_goals first|exact ret_bool HX.out.symm|(rw[HX.out];simp[hc,ht,hq,hp,hr,s1,s2,s3,s4])
end Go.Proofs.YtglcdcekkglmiaaGreatDoor.Msg
