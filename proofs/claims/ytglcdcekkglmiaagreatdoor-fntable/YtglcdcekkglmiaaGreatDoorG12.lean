import Derived.Test.YtglcdcekkglmiaaGreatDoorG10
namespace Go.Proofs.YtglcdcekkglmiaaGreatDoor.Msg
open Go.ChangeShapes Go.WideShapes Go.ChangeAt Go.RowKit
set_option linter.unusedVariables false
set_option linter.unusedSimpArgs false
set_option maxHeartbeats 4000000 in
theorem changeOk_any (c:Chg) (v:Value) (w:World) {lo:Nat} (h2:c.tag.size≤9223372036854775807) (h3:c.query.size≤9223372036854775807) (hv:StrsAt lo w v c.rows) :
  Calls Tryz.prog 23 #[chgV c v] w fun e w'=>e=.returned (.bool (chgB c))∧Below w.heap.size w w':=by
 obtain⟨kind,client,tag,query,page,rows,n⟩:=c
 simp only at h2 h3 hv
 have hl:=hv.1
 obtain⟨a,cap,hf,_⟩:=hv.form
 subst hf
 show Calls Tryz.prog 23 #[.agg #[.int .i64 kind,.int .i64 client,.string tag,.string query,.int .i64 page,.slice a rows.length cap,.int .i64 n]] w _
 have HB0:=hide ((Below.refl w.heap.size w).alloc (leR _) (Obj.cells #[.int .i64 kind,.int .i64 client,.string tag,.string query,.int .i64 page,.slice a rows.length cap,.int .i64 n] 28))
 have HR:=hide (rowsOk_any rows _ (w.alloc (Obj.cells #[.int .i64 kind,.int .i64 client,.string tag,.string query,.int .i64 page,.slice a rows.length cap,.int .i64 n] 28)) (At.kept kept_str hv HB0.out))
 have HQ:=hide (fun W=>textSpec_any query W h3)
 have HT:=hide (fun W=>tagSpec_any tag W h2)
 have HC:=hide (fun W=>l5Client_any client W)
 clear hv
 by_cases k1:kind=1
 ·subst k1
  cases hc:clientB client
  ·
   have HX:Hid (chgB ⟨1,client,tag,query,page,rows,n⟩=false):=by show _=_;simp[chgB,kindB,noQB,noRowsB,noNB,cursorB,pageB,hc]
   go_enter Tryz.func23,Tryz.ntmps23
   go_wp2_with (first|(go_at_call 52;refine(HQ.out _).mono ?_;rintro e w2 ⟨rfl,rfl⟩;rw[hq])|(go_at_call 53;refine HR.out.mono ?_;rintro e w2 ⟨rfl,rfl⟩;rw[hr])|(go_at_call 50;refine(HC.out _).mono ?_;rintro e w2 ⟨rfl,rfl⟩;rw[hc])|(go_at_call 51;refine(HT.out _).mono ?_;rintro e w2 ⟨rfl,rfl⟩;rw[ht]))
   all_goals go_ret
   all_goals refine⟨?_,alcB _ _⟩
   all_goals first|exact ret_bool HX.out.symm|(rw[HX.out];simp[hc])
  cases ht:tagB tag
  ·
   have HX:Hid (chgB ⟨1,client,tag,query,page,rows,n⟩=false):=by show _=_;simp[chgB,kindB,noQB,noRowsB,noNB,cursorB,pageB,hc,ht]
   go_enter Tryz.func23,Tryz.ntmps23
   go_wp2_with (first|(go_at_call 52;refine(HQ.out _).mono ?_;rintro e w2 ⟨rfl,rfl⟩;rw[hq])|(go_at_call 53;refine HR.out.mono ?_;rintro e w2 ⟨rfl,rfl⟩;rw[hr])|(go_at_call 50;refine(HC.out _).mono ?_;rintro e w2 ⟨rfl,rfl⟩;rw[hc])|(go_at_call 51;refine(HT.out _).mono ?_;rintro e w2 ⟨rfl,rfl⟩;rw[ht]))
   all_goals go_ret
   all_goals refine⟨?_,alcB _ _⟩
   all_goals first|exact ret_bool HX.out.symm|(rw[HX.out];simp[hc,ht])
  by_cases hr0:rows.length=0
  rotate_left
  ·
   have hr0':(0:Int)<(rows.length:Int):=by omega
   have HX:Hid (chgB ⟨1,client,tag,query,page,rows,n⟩=false):=by show _=_;simp[chgB,kindB,noQB,noRowsB,noNB,cursorB,pageB,hc,ht,hr0]
   go_enter Tryz.func23,Tryz.ntmps23
   go_wp2_with (first|(go_at_call 52;refine(HQ.out _).mono ?_;rintro e w2 ⟨rfl,rfl⟩;rw[hq])|(go_at_call 53;refine HR.out.mono ?_;rintro e w2 ⟨rfl,rfl⟩;rw[hr])|(go_at_call 50;refine(HC.out _).mono ?_;rintro e w2 ⟨rfl,rfl⟩;rw[hc])|(go_at_call 51;refine(HT.out _).mono ?_;rintro e w2 ⟨rfl,rfl⟩;rw[ht]))
   all_goals go_ret
   all_goals refine⟨?_,alcB _ _⟩
   all_goals first|exact ret_bool HX.out.symm|(rw[HX.out];simp[hc,ht,hr0])
  have hr0':¬(0:Int)<(rows.length:Int):=by omega
  by_cases hn0:n=0
  rotate_left
  ·
   have HX:Hid (chgB ⟨1,client,tag,query,page,rows,n⟩=false):=by show _=_;simp[chgB,kindB,noQB,noRowsB,noNB,cursorB,pageB,hc,ht,hr0,hn0]
   go_enter Tryz.func23,Tryz.ntmps23
   go_wp2_with (first|(go_at_call 52;refine(HQ.out _).mono ?_;rintro e w2 ⟨rfl,rfl⟩;rw[hq])|(go_at_call 53;refine HR.out.mono ?_;rintro e w2 ⟨rfl,rfl⟩;rw[hr])|(go_at_call 50;refine(HC.out _).mono ?_;rintro e w2 ⟨rfl,rfl⟩;rw[hc])|(go_at_call 51;refine(HT.out _).mono ?_;rintro e w2 ⟨rfl,rfl⟩;rw[ht]))
   all_goals go_ret
   all_goals refine⟨?_,alcB _ _⟩
   all_goals first|exact ret_bool HX.out.symm|(rw[HX.out];simp[hc,ht,hr0,hn0])
  subst hn0
  cases hq:textB query
  ·
   have HX:Hid (chgB ⟨1,client,tag,query,page,rows,0⟩=false):=by show _=_;simp[chgB,kindB,noQB,noRowsB,noNB,cursorB,pageB,hc,ht,hr0,hq]
   go_enter Tryz.func23,Tryz.ntmps23
   go_wp2_with (first|(go_at_call 52;refine(HQ.out _).mono ?_;rintro e w2 ⟨rfl,rfl⟩;rw[hq])|(go_at_call 53;refine HR.out.mono ?_;rintro e w2 ⟨rfl,rfl⟩;rw[hr])|(go_at_call 50;refine(HC.out _).mono ?_;rintro e w2 ⟨rfl,rfl⟩;rw[hc])|(go_at_call 51;refine(HT.out _).mono ?_;rintro e w2 ⟨rfl,rfl⟩;rw[ht]))
   all_goals go_ret
   all_goals refine⟨?_,alcB _ _⟩
   all_goals first|exact ret_bool HX.out.symm|(rw[HX.out];simp[hc,ht,hr0,hq])
  by_cases hp1:(1:Int)≤page
  rotate_left
  ·
   have HX:Hid (chgB ⟨1,client,tag,query,page,rows,0⟩=false):=by show _=_;simp[chgB,kindB,noQB,noRowsB,noNB,cursorB,pageB,hc,ht,hr0,hq,hp1]
   go_enter Tryz.func23,Tryz.ntmps23
   go_wp2_with (first|(go_at_call 52;refine(HQ.out _).mono ?_;rintro e w2 ⟨rfl,rfl⟩;rw[hq])|(go_at_call 53;refine HR.out.mono ?_;rintro e w2 ⟨rfl,rfl⟩;rw[hr])|(go_at_call 50;refine(HC.out _).mono ?_;rintro e w2 ⟨rfl,rfl⟩;rw[hc])|(go_at_call 51;refine(HT.out _).mono ?_;rintro e w2 ⟨rfl,rfl⟩;rw[ht]))
   all_goals go_ret
   all_goals refine⟨?_,alcB _ _⟩
   all_goals first|exact ret_bool HX.out.symm|(rw[HX.out];simp[hc,ht,hr0,hq,hp1])
  by_cases hp2:page≤50
  rotate_left
  ·
   have HX:Hid (chgB ⟨1,client,tag,query,page,rows,0⟩=false):=by show _=_;simp[chgB,kindB,noQB,noRowsB,noNB,cursorB,pageB,hc,ht,hr0,hq,hp1,hp2]
   go_enter Tryz.func23,Tryz.ntmps23
   go_wp2_with (first|(go_at_call 52;refine(HQ.out _).mono ?_;rintro e w2 ⟨rfl,rfl⟩;rw[hq])|(go_at_call 53;refine HR.out.mono ?_;rintro e w2 ⟨rfl,rfl⟩;rw[hr])|(go_at_call 50;refine(HC.out _).mono ?_;rintro e w2 ⟨rfl,rfl⟩;rw[hc])|(go_at_call 51;refine(HT.out _).mono ?_;rintro e w2 ⟨rfl,rfl⟩;rw[ht]))
   all_goals go_ret
   all_goals refine⟨?_,alcB _ _⟩
   all_goals first|exact ret_bool HX.out.symm|(rw[HX.out];simp[hc,ht,hr0,hq,hp1,hp2])
  have HX:Hid (chgB ⟨1,client,tag,query,page,rows,0⟩=true):=by show _=_;simp[chgB,kindB,noQB,noRowsB,noNB,cursorB,pageB,hc,ht,hr0,hq,hp1,hp2]
  go_enter Tryz.func23,Tryz.ntmps23
  go_wp2_with (first|(go_at_call 52;refine(HQ.out _).mono ?_;rintro e w2 ⟨rfl,rfl⟩;rw[hq])|(go_at_call 53;refine HR.out.mono ?_;rintro e w2 ⟨rfl,rfl⟩;rw[hr])|(go_at_call 50;refine(HC.out _).mono ?_;rintro e w2 ⟨rfl,rfl⟩;rw[hc])|(go_at_call 51;refine(HT.out _).mono ?_;rintro e w2 ⟨rfl,rfl⟩;rw[ht]))
  all_goals go_ret
  all_goals refine⟨?_,alcB _ _⟩
  all_goals first|exact ret_bool HX.out.symm|(rw[HX.out];simp[hc,ht,hr0,hq,hp1,hp2])
 by_cases k2:kind=2
 ·subst k2
  cases hc:clientB client
  ·
   have HX:Hid (chgB ⟨2,client,tag,query,page,rows,n⟩=false):=by show _=_;simp[chgB,kindB,noQB,noRowsB,noNB,cursorB,pageB,hc]
   go_enter Tryz.func23,Tryz.ntmps23
   go_wp2_with (first|(go_at_call 52;refine(HQ.out _).mono ?_;rintro e w2 ⟨rfl,rfl⟩;rw[hq])|(go_at_call 53;refine HR.out.mono ?_;rintro e w2 ⟨rfl,rfl⟩;rw[hr])|(go_at_call 50;refine(HC.out _).mono ?_;rintro e w2 ⟨rfl,rfl⟩;rw[hc])|(go_at_call 51;refine(HT.out _).mono ?_;rintro e w2 ⟨rfl,rfl⟩;rw[ht]))
   all_goals go_ret
   all_goals refine⟨?_,alcB _ _⟩
   all_goals first|exact ret_bool HX.out.symm|(rw[HX.out];simp[hc])
  cases ht:tagB tag
  ·
   have HX:Hid (chgB ⟨2,client,tag,query,page,rows,n⟩=false):=by show _=_;simp[chgB,kindB,noQB,noRowsB,noNB,cursorB,pageB,hc,ht]
   go_enter Tryz.func23,Tryz.ntmps23
   go_wp2_with (first|(go_at_call 52;refine(HQ.out _).mono ?_;rintro e w2 ⟨rfl,rfl⟩;rw[hq])|(go_at_call 53;refine HR.out.mono ?_;rintro e w2 ⟨rfl,rfl⟩;rw[hr])|(go_at_call 50;refine(HC.out _).mono ?_;rintro e w2 ⟨rfl,rfl⟩;rw[hc])|(go_at_call 51;refine(HT.out _).mono ?_;rintro e w2 ⟨rfl,rfl⟩;rw[ht]))
   all_goals go_ret
   all_goals refine⟨?_,alcB _ _⟩
   all_goals first|exact ret_bool HX.out.symm|(rw[HX.out];simp[hc,ht])
  by_cases hq0:query.size=0
  rotate_left
  ·
   have hq0':(0:Int)<(query.size:Int):=by omega
   have HX:Hid (chgB ⟨2,client,tag,query,page,rows,n⟩=false):=by show _=_;simp[chgB,kindB,noQB,noRowsB,noNB,cursorB,pageB,hc,ht,hq0]
   go_enter Tryz.func23,Tryz.ntmps23
   go_wp2_with (first|(go_at_call 52;refine(HQ.out _).mono ?_;rintro e w2 ⟨rfl,rfl⟩;rw[hq])|(go_at_call 53;refine HR.out.mono ?_;rintro e w2 ⟨rfl,rfl⟩;rw[hr])|(go_at_call 50;refine(HC.out _).mono ?_;rintro e w2 ⟨rfl,rfl⟩;rw[hc])|(go_at_call 51;refine(HT.out _).mono ?_;rintro e w2 ⟨rfl,rfl⟩;rw[ht]))
   all_goals go_ret
   all_goals refine⟨?_,alcB _ _⟩
   all_goals first|exact ret_bool HX.out.symm|(rw[HX.out];simp[hc,ht,hq0])
  have hq0':¬(0:Int)<(query.size:Int):=by omega
  by_cases hp0:page=0
  rotate_left
  ·
   have HX:Hid (chgB ⟨2,client,tag,query,page,rows,n⟩=false):=by show _=_;simp[chgB,kindB,noQB,noRowsB,noNB,cursorB,pageB,hc,ht,hq0,hp0]
   go_enter Tryz.func23,Tryz.ntmps23
   go_wp2_with (first|(go_at_call 52;refine(HQ.out _).mono ?_;rintro e w2 ⟨rfl,rfl⟩;rw[hq])|(go_at_call 53;refine HR.out.mono ?_;rintro e w2 ⟨rfl,rfl⟩;rw[hr])|(go_at_call 50;refine(HC.out _).mono ?_;rintro e w2 ⟨rfl,rfl⟩;rw[hc])|(go_at_call 51;refine(HT.out _).mono ?_;rintro e w2 ⟨rfl,rfl⟩;rw[ht]))
   all_goals go_ret
   all_goals refine⟨?_,alcB _ _⟩
   all_goals first|exact ret_bool HX.out.symm|(rw[HX.out];simp[hc,ht,hq0,hp0])
  subst hp0
  by_cases hn0:n=0
  rotate_left
  ·
   have HX:Hid (chgB ⟨2,client,tag,query,0,rows,n⟩=false):=by show _=_;simp[chgB,kindB,noQB,noRowsB,noNB,cursorB,pageB,hc,ht,hq0,hn0]
   go_enter Tryz.func23,Tryz.ntmps23
   go_wp2_with (first|(go_at_call 52;refine(HQ.out _).mono ?_;rintro e w2 ⟨rfl,rfl⟩;rw[hq])|(go_at_call 53;refine HR.out.mono ?_;rintro e w2 ⟨rfl,rfl⟩;rw[hr])|(go_at_call 50;refine(HC.out _).mono ?_;rintro e w2 ⟨rfl,rfl⟩;rw[hc])|(go_at_call 51;refine(HT.out _).mono ?_;rintro e w2 ⟨rfl,rfl⟩;rw[ht]))
   all_goals go_ret
   all_goals refine⟨?_,alcB _ _⟩
   all_goals first|exact ret_bool HX.out.symm|(rw[HX.out];simp[hc,ht,hq0,hn0])
  subst hn0
  cases hr:rowsB rows 200
  ·
   have HX:Hid (chgB ⟨2,client,tag,query,0,rows,0⟩=false):=by show _=_;simp[chgB,kindB,noQB,noRowsB,noNB,cursorB,pageB,hc,ht,hq0,hr]
   go_enter Tryz.func23,Tryz.ntmps23
   go_wp2_with (first|(go_at_call 52;refine(HQ.out _).mono ?_;rintro e w2 ⟨rfl,rfl⟩;rw[hq])|(go_at_call 53;refine HR.out.mono ?_;rintro e w2 ⟨rfl,rfl⟩;rw[hr])|(go_at_call 50;refine(HC.out _).mono ?_;rintro e w2 ⟨rfl,rfl⟩;rw[hc])|(go_at_call 51;refine(HT.out _).mono ?_;rintro e w2 ⟨rfl,rfl⟩;rw[ht]))
   all_goals go_ret
   all_goals refine⟨?_,alcB _ _⟩
   all_goals first|exact ret_bool HX.out.symm|(rw[HX.out];simp[hc,ht,hq0,hr])
  have HX:Hid (chgB ⟨2,client,tag,query,0,rows,0⟩=true):=by show _=_;simp[chgB,kindB,noQB,noRowsB,noNB,cursorB,pageB,hc,ht,hq0,hr]
  go_enter Tryz.func23,Tryz.ntmps23
  go_wp2_with (first|(go_at_call 52;refine(HQ.out _).mono ?_;rintro e w2 ⟨rfl,rfl⟩;rw[hq])|(go_at_call 53;refine HR.out.mono ?_;rintro e w2 ⟨rfl,rfl⟩;rw[hr])|(go_at_call 50;refine(HC.out _).mono ?_;rintro e w2 ⟨rfl,rfl⟩;rw[hc])|(go_at_call 51;refine(HT.out _).mono ?_;rintro e w2 ⟨rfl,rfl⟩;rw[ht]))
  all_goals go_ret
  all_goals refine⟨?_,alcB _ _⟩
  all_goals first|exact ret_bool HX.out.symm|(rw[HX.out];simp[hc,ht,hq0,hr])
 by_cases k4:kind=4
 ·subst k4
  cases hc:clientB client
  ·
   have HX:Hid (chgB ⟨4,client,tag,query,page,rows,n⟩=false):=by show _=_;simp[chgB,kindB,noQB,noRowsB,noNB,cursorB,pageB,hc]
   go_enter Tryz.func23,Tryz.ntmps23
   go_wp2_with (first|(go_at_call 52;refine(HQ.out _).mono ?_;rintro e w2 ⟨rfl,rfl⟩;rw[hq])|(go_at_call 53;refine HR.out.mono ?_;rintro e w2 ⟨rfl,rfl⟩;rw[hr])|(go_at_call 50;refine(HC.out _).mono ?_;rintro e w2 ⟨rfl,rfl⟩;rw[hc])|(go_at_call 51;refine(HT.out _).mono ?_;rintro e w2 ⟨rfl,rfl⟩;rw[ht]))
   all_goals go_ret
   all_goals refine⟨?_,alcB _ _⟩
   all_goals first|exact ret_bool HX.out.symm|(rw[HX.out];simp[hc])
  cases ht:tagB tag
  ·
   have HX:Hid (chgB ⟨4,client,tag,query,page,rows,n⟩=false):=by show _=_;simp[chgB,kindB,noQB,noRowsB,noNB,cursorB,pageB,hc,ht]
   go_enter Tryz.func23,Tryz.ntmps23
   go_wp2_with (first|(go_at_call 52;refine(HQ.out _).mono ?_;rintro e w2 ⟨rfl,rfl⟩;rw[hq])|(go_at_call 53;refine HR.out.mono ?_;rintro e w2 ⟨rfl,rfl⟩;rw[hr])|(go_at_call 50;refine(HC.out _).mono ?_;rintro e w2 ⟨rfl,rfl⟩;rw[hc])|(go_at_call 51;refine(HT.out _).mono ?_;rintro e w2 ⟨rfl,rfl⟩;rw[ht]))
   all_goals go_ret
   all_goals refine⟨?_,alcB _ _⟩
   all_goals first|exact ret_bool HX.out.symm|(rw[HX.out];simp[hc,ht])
  by_cases hq0:query.size=0
  rotate_left
  ·
   have hq0':(0:Int)<(query.size:Int):=by omega
   have HX:Hid (chgB ⟨4,client,tag,query,page,rows,n⟩=false):=by show _=_;simp[chgB,kindB,noQB,noRowsB,noNB,cursorB,pageB,hc,ht,hq0]
   go_enter Tryz.func23,Tryz.ntmps23
   go_wp2_with (first|(go_at_call 52;refine(HQ.out _).mono ?_;rintro e w2 ⟨rfl,rfl⟩;rw[hq])|(go_at_call 53;refine HR.out.mono ?_;rintro e w2 ⟨rfl,rfl⟩;rw[hr])|(go_at_call 50;refine(HC.out _).mono ?_;rintro e w2 ⟨rfl,rfl⟩;rw[hc])|(go_at_call 51;refine(HT.out _).mono ?_;rintro e w2 ⟨rfl,rfl⟩;rw[ht]))
   all_goals go_ret
   all_goals refine⟨?_,alcB _ _⟩
   all_goals first|exact ret_bool HX.out.symm|(rw[HX.out];simp[hc,ht,hq0])
  have hq0':¬(0:Int)<(query.size:Int):=by omega
  by_cases hp0:page=0
  rotate_left
  ·
   have HX:Hid (chgB ⟨4,client,tag,query,page,rows,n⟩=false):=by show _=_;simp[chgB,kindB,noQB,noRowsB,noNB,cursorB,pageB,hc,ht,hq0,hp0]
   go_enter Tryz.func23,Tryz.ntmps23
   go_wp2_with (first|(go_at_call 52;refine(HQ.out _).mono ?_;rintro e w2 ⟨rfl,rfl⟩;rw[hq])|(go_at_call 53;refine HR.out.mono ?_;rintro e w2 ⟨rfl,rfl⟩;rw[hr])|(go_at_call 50;refine(HC.out _).mono ?_;rintro e w2 ⟨rfl,rfl⟩;rw[hc])|(go_at_call 51;refine(HT.out _).mono ?_;rintro e w2 ⟨rfl,rfl⟩;rw[ht]))
   all_goals go_ret
   all_goals refine⟨?_,alcB _ _⟩
   all_goals first|exact ret_bool HX.out.symm|(rw[HX.out];simp[hc,ht,hq0,hp0])
  subst hp0
  by_cases hr0:rows.length=0
  rotate_left
  ·
   have hr0':(0:Int)<(rows.length:Int):=by omega
   have HX:Hid (chgB ⟨4,client,tag,query,0,rows,n⟩=false):=by show _=_;simp[chgB,kindB,noQB,noRowsB,noNB,cursorB,pageB,hc,ht,hq0,hr0]
   go_enter Tryz.func23,Tryz.ntmps23
   go_wp2_with (first|(go_at_call 52;refine(HQ.out _).mono ?_;rintro e w2 ⟨rfl,rfl⟩;rw[hq])|(go_at_call 53;refine HR.out.mono ?_;rintro e w2 ⟨rfl,rfl⟩;rw[hr])|(go_at_call 50;refine(HC.out _).mono ?_;rintro e w2 ⟨rfl,rfl⟩;rw[hc])|(go_at_call 51;refine(HT.out _).mono ?_;rintro e w2 ⟨rfl,rfl⟩;rw[ht]))
   all_goals go_ret
   all_goals refine⟨?_,alcB _ _⟩
   all_goals first|exact ret_bool HX.out.symm|(rw[HX.out];simp[hc,ht,hq0,hr0])
  have hr0':¬(0:Int)<(rows.length:Int):=by omega
  by_cases hlo:(0:Int)≤n
  rotate_left
  ·
   have HX:Hid (chgB ⟨4,client,tag,query,0,rows,n⟩=false):=by show _=_;simp[chgB,kindB,noQB,noRowsB,noNB,cursorB,pageB,hc,ht,hq0,hr0,hlo]
   go_enter Tryz.func23,Tryz.ntmps23
   go_wp2_with (first|(go_at_call 52;refine(HQ.out _).mono ?_;rintro e w2 ⟨rfl,rfl⟩;rw[hq])|(go_at_call 53;refine HR.out.mono ?_;rintro e w2 ⟨rfl,rfl⟩;rw[hr])|(go_at_call 50;refine(HC.out _).mono ?_;rintro e w2 ⟨rfl,rfl⟩;rw[hc])|(go_at_call 51;refine(HT.out _).mono ?_;rintro e w2 ⟨rfl,rfl⟩;rw[ht]))
   all_goals go_ret
   all_goals refine⟨?_,alcB _ _⟩
   all_goals first|exact ret_bool HX.out.symm|(rw[HX.out];simp[hc,ht,hq0,hr0,hlo])
  by_cases hhi:n≤200
  rotate_left
  ·
   have HX:Hid (chgB ⟨4,client,tag,query,0,rows,n⟩=false):=by show _=_;simp[chgB,kindB,noQB,noRowsB,noNB,cursorB,pageB,hc,ht,hq0,hr0,hlo,hhi]
   go_enter Tryz.func23,Tryz.ntmps23
   go_wp2_with (first|(go_at_call 52;refine(HQ.out _).mono ?_;rintro e w2 ⟨rfl,rfl⟩;rw[hq])|(go_at_call 53;refine HR.out.mono ?_;rintro e w2 ⟨rfl,rfl⟩;rw[hr])|(go_at_call 50;refine(HC.out _).mono ?_;rintro e w2 ⟨rfl,rfl⟩;rw[hc])|(go_at_call 51;refine(HT.out _).mono ?_;rintro e w2 ⟨rfl,rfl⟩;rw[ht]))
   all_goals go_ret
   all_goals refine⟨?_,alcB _ _⟩
   all_goals first|exact ret_bool HX.out.symm|(rw[HX.out];simp[hc,ht,hq0,hr0,hlo,hhi])
  have HX:Hid (chgB ⟨4,client,tag,query,0,rows,n⟩=true):=by show _=_;simp[chgB,kindB,noQB,noRowsB,noNB,cursorB,pageB,hc,ht,hq0,hr0,hlo,hhi]
  go_enter Tryz.func23,Tryz.ntmps23
  go_wp2_with (first|(go_at_call 52;refine(HQ.out _).mono ?_;rintro e w2 ⟨rfl,rfl⟩;rw[hq])|(go_at_call 53;refine HR.out.mono ?_;rintro e w2 ⟨rfl,rfl⟩;rw[hr])|(go_at_call 50;refine(HC.out _).mono ?_;rintro e w2 ⟨rfl,rfl⟩;rw[hc])|(go_at_call 51;refine(HT.out _).mono ?_;rintro e w2 ⟨rfl,rfl⟩;rw[ht]))
  all_goals go_ret
  all_goals refine⟨?_,alcB _ _⟩
  all_goals first|exact ret_bool HX.out.symm|(rw[HX.out];simp[hc,ht,hq0,hr0,hlo,hhi])
 by_cases k3:kind=3
 ·subst k3
  cases hc:clientB client
  ·
   have HX:Hid (chgB ⟨3,client,tag,query,page,rows,n⟩=false):=by show _=_;simp[chgB,kindB,noQB,noRowsB,noNB,cursorB,pageB,hc]
   go_enter Tryz.func23,Tryz.ntmps23
   go_wp2_with (first|(go_at_call 52;refine(HQ.out _).mono ?_;rintro e w2 ⟨rfl,rfl⟩;rw[hq])|(go_at_call 53;refine HR.out.mono ?_;rintro e w2 ⟨rfl,rfl⟩;rw[hr])|(go_at_call 50;refine(HC.out _).mono ?_;rintro e w2 ⟨rfl,rfl⟩;rw[hc])|(go_at_call 51;refine(HT.out _).mono ?_;rintro e w2 ⟨rfl,rfl⟩;rw[ht]))
   all_goals go_ret
   all_goals refine⟨?_,alcB _ _⟩
   all_goals first|exact ret_bool HX.out.symm|(rw[HX.out];simp[hc])
  cases ht:tagB tag
  ·
   have HX:Hid (chgB ⟨3,client,tag,query,page,rows,n⟩=false):=by show _=_;simp[chgB,kindB,noQB,noRowsB,noNB,cursorB,pageB,hc,ht]
   go_enter Tryz.func23,Tryz.ntmps23
   go_wp2_with (first|(go_at_call 52;refine(HQ.out _).mono ?_;rintro e w2 ⟨rfl,rfl⟩;rw[hq])|(go_at_call 53;refine HR.out.mono ?_;rintro e w2 ⟨rfl,rfl⟩;rw[hr])|(go_at_call 50;refine(HC.out _).mono ?_;rintro e w2 ⟨rfl,rfl⟩;rw[hc])|(go_at_call 51;refine(HT.out _).mono ?_;rintro e w2 ⟨rfl,rfl⟩;rw[ht]))
   all_goals go_ret
   all_goals refine⟨?_,alcB _ _⟩
   all_goals first|exact ret_bool HX.out.symm|(rw[HX.out];simp[hc,ht])
  by_cases hq0:query.size=0
  rotate_left
  ·
   have hq0':(0:Int)<(query.size:Int):=by omega
   have HX:Hid (chgB ⟨3,client,tag,query,page,rows,n⟩=false):=by show _=_;simp[chgB,kindB,noQB,noRowsB,noNB,cursorB,pageB,hc,ht,hq0]
   go_enter Tryz.func23,Tryz.ntmps23
   go_wp2_with (first|(go_at_call 52;refine(HQ.out _).mono ?_;rintro e w2 ⟨rfl,rfl⟩;rw[hq])|(go_at_call 53;refine HR.out.mono ?_;rintro e w2 ⟨rfl,rfl⟩;rw[hr])|(go_at_call 50;refine(HC.out _).mono ?_;rintro e w2 ⟨rfl,rfl⟩;rw[hc])|(go_at_call 51;refine(HT.out _).mono ?_;rintro e w2 ⟨rfl,rfl⟩;rw[ht]))
   all_goals go_ret
   all_goals refine⟨?_,alcB _ _⟩
   all_goals first|exact ret_bool HX.out.symm|(rw[HX.out];simp[hc,ht,hq0])
  have hq0':¬(0:Int)<(query.size:Int):=by omega
  by_cases hp0:page=0
  rotate_left
  ·
   have HX:Hid (chgB ⟨3,client,tag,query,page,rows,n⟩=false):=by show _=_;simp[chgB,kindB,noQB,noRowsB,noNB,cursorB,pageB,hc,ht,hq0,hp0]
   go_enter Tryz.func23,Tryz.ntmps23
   go_wp2_with (first|(go_at_call 52;refine(HQ.out _).mono ?_;rintro e w2 ⟨rfl,rfl⟩;rw[hq])|(go_at_call 53;refine HR.out.mono ?_;rintro e w2 ⟨rfl,rfl⟩;rw[hr])|(go_at_call 50;refine(HC.out _).mono ?_;rintro e w2 ⟨rfl,rfl⟩;rw[hc])|(go_at_call 51;refine(HT.out _).mono ?_;rintro e w2 ⟨rfl,rfl⟩;rw[ht]))
   all_goals go_ret
   all_goals refine⟨?_,alcB _ _⟩
   all_goals first|exact ret_bool HX.out.symm|(rw[HX.out];simp[hc,ht,hq0,hp0])
  subst hp0
  by_cases hr0:rows.length=0
  rotate_left
  ·
   have hr0':(0:Int)<(rows.length:Int):=by omega
   have HX:Hid (chgB ⟨3,client,tag,query,0,rows,n⟩=false):=by show _=_;simp[chgB,kindB,noQB,noRowsB,noNB,cursorB,pageB,hc,ht,hq0,hr0]
   go_enter Tryz.func23,Tryz.ntmps23
   go_wp2_with (first|(go_at_call 52;refine(HQ.out _).mono ?_;rintro e w2 ⟨rfl,rfl⟩;rw[hq])|(go_at_call 53;refine HR.out.mono ?_;rintro e w2 ⟨rfl,rfl⟩;rw[hr])|(go_at_call 50;refine(HC.out _).mono ?_;rintro e w2 ⟨rfl,rfl⟩;rw[hc])|(go_at_call 51;refine(HT.out _).mono ?_;rintro e w2 ⟨rfl,rfl⟩;rw[ht]))
   all_goals go_ret
   all_goals refine⟨?_,alcB _ _⟩
   all_goals first|exact ret_bool HX.out.symm|(rw[HX.out];simp[hc,ht,hq0,hr0])
  have hr0':¬(0:Int)<(rows.length:Int):=by omega
  by_cases hn0:n=0
  rotate_left
  ·
   have HX:Hid (chgB ⟨3,client,tag,query,0,rows,n⟩=false):=by show _=_;simp[chgB,kindB,noQB,noRowsB,noNB,cursorB,pageB,hc,ht,hq0,hr0,hn0]
   go_enter Tryz.func23,Tryz.ntmps23
   go_wp2_with (first|(go_at_call 52;refine(HQ.out _).mono ?_;rintro e w2 ⟨rfl,rfl⟩;rw[hq])|(go_at_call 53;refine HR.out.mono ?_;rintro e w2 ⟨rfl,rfl⟩;rw[hr])|(go_at_call 50;refine(HC.out _).mono ?_;rintro e w2 ⟨rfl,rfl⟩;rw[hc])|(go_at_call 51;refine(HT.out _).mono ?_;rintro e w2 ⟨rfl,rfl⟩;rw[ht]))
   all_goals go_ret
   all_goals refine⟨?_,alcB _ _⟩
   all_goals first|exact ret_bool HX.out.symm|(rw[HX.out];simp[hc,ht,hq0,hr0,hn0])
  subst hn0
  have HX:Hid (chgB ⟨3,client,tag,query,0,rows,0⟩=true):=by show _=_;simp[chgB,kindB,noQB,noRowsB,noNB,cursorB,pageB,hc,ht,hq0,hr0]
  go_enter Tryz.func23,Tryz.ntmps23
  go_wp2_with (first|(go_at_call 52;refine(HQ.out _).mono ?_;rintro e w2 ⟨rfl,rfl⟩;rw[hq])|(go_at_call 53;refine HR.out.mono ?_;rintro e w2 ⟨rfl,rfl⟩;rw[hr])|(go_at_call 50;refine(HC.out _).mono ?_;rintro e w2 ⟨rfl,rfl⟩;rw[hc])|(go_at_call 51;refine(HT.out _).mono ?_;rintro e w2 ⟨rfl,rfl⟩;rw[ht]))
  all_goals go_ret
  all_goals refine⟨?_,alcB _ _⟩
  all_goals first|exact ret_bool HX.out.symm|(rw[HX.out];simp[hc,ht,hq0,hr0])
 by_cases k5:kind=5
 ·subst k5
  cases hc:clientB client
  ·
   have HX:Hid (chgB ⟨5,client,tag,query,page,rows,n⟩=false):=by show _=_;simp[chgB,kindB,noQB,noRowsB,noNB,cursorB,pageB,hc]
   go_enter Tryz.func23,Tryz.ntmps23
   go_wp2_with (first|(go_at_call 52;refine(HQ.out _).mono ?_;rintro e w2 ⟨rfl,rfl⟩;rw[hq])|(go_at_call 53;refine HR.out.mono ?_;rintro e w2 ⟨rfl,rfl⟩;rw[hr])|(go_at_call 50;refine(HC.out _).mono ?_;rintro e w2 ⟨rfl,rfl⟩;rw[hc])|(go_at_call 51;refine(HT.out _).mono ?_;rintro e w2 ⟨rfl,rfl⟩;rw[ht]))
   all_goals go_ret
   all_goals refine⟨?_,alcB _ _⟩
   all_goals first|exact ret_bool HX.out.symm|(rw[HX.out];simp[hc])
  cases ht:tagB tag
  ·
   have HX:Hid (chgB ⟨5,client,tag,query,page,rows,n⟩=false):=by show _=_;simp[chgB,kindB,noQB,noRowsB,noNB,cursorB,pageB,hc,ht]
   go_enter Tryz.func23,Tryz.ntmps23
   go_wp2_with (first|(go_at_call 52;refine(HQ.out _).mono ?_;rintro e w2 ⟨rfl,rfl⟩;rw[hq])|(go_at_call 53;refine HR.out.mono ?_;rintro e w2 ⟨rfl,rfl⟩;rw[hr])|(go_at_call 50;refine(HC.out _).mono ?_;rintro e w2 ⟨rfl,rfl⟩;rw[hc])|(go_at_call 51;refine(HT.out _).mono ?_;rintro e w2 ⟨rfl,rfl⟩;rw[ht]))
   all_goals go_ret
   all_goals refine⟨?_,alcB _ _⟩
   all_goals first|exact ret_bool HX.out.symm|(rw[HX.out];simp[hc,ht])
  by_cases hq0:query.size=0
  rotate_left
  ·
   have hq0':(0:Int)<(query.size:Int):=by omega
   have HX:Hid (chgB ⟨5,client,tag,query,page,rows,n⟩=false):=by show _=_;simp[chgB,kindB,noQB,noRowsB,noNB,cursorB,pageB,hc,ht,hq0]
   go_enter Tryz.func23,Tryz.ntmps23
   go_wp2_with (first|(go_at_call 52;refine(HQ.out _).mono ?_;rintro e w2 ⟨rfl,rfl⟩;rw[hq])|(go_at_call 53;refine HR.out.mono ?_;rintro e w2 ⟨rfl,rfl⟩;rw[hr])|(go_at_call 50;refine(HC.out _).mono ?_;rintro e w2 ⟨rfl,rfl⟩;rw[hc])|(go_at_call 51;refine(HT.out _).mono ?_;rintro e w2 ⟨rfl,rfl⟩;rw[ht]))
   all_goals go_ret
   all_goals refine⟨?_,alcB _ _⟩
   all_goals first|exact ret_bool HX.out.symm|(rw[HX.out];simp[hc,ht,hq0])
  have hq0':¬(0:Int)<(query.size:Int):=by omega
  by_cases hp0:page=0
  rotate_left
  ·
   have HX:Hid (chgB ⟨5,client,tag,query,page,rows,n⟩=false):=by show _=_;simp[chgB,kindB,noQB,noRowsB,noNB,cursorB,pageB,hc,ht,hq0,hp0]
   go_enter Tryz.func23,Tryz.ntmps23
   go_wp2_with (first|(go_at_call 52;refine(HQ.out _).mono ?_;rintro e w2 ⟨rfl,rfl⟩;rw[hq])|(go_at_call 53;refine HR.out.mono ?_;rintro e w2 ⟨rfl,rfl⟩;rw[hr])|(go_at_call 50;refine(HC.out _).mono ?_;rintro e w2 ⟨rfl,rfl⟩;rw[hc])|(go_at_call 51;refine(HT.out _).mono ?_;rintro e w2 ⟨rfl,rfl⟩;rw[ht]))
   all_goals go_ret
   all_goals refine⟨?_,alcB _ _⟩
   all_goals first|exact ret_bool HX.out.symm|(rw[HX.out];simp[hc,ht,hq0,hp0])
  subst hp0
  by_cases hr0:rows.length=0
  rotate_left
  ·
   have hr0':(0:Int)<(rows.length:Int):=by omega
   have HX:Hid (chgB ⟨5,client,tag,query,0,rows,n⟩=false):=by show _=_;simp[chgB,kindB,noQB,noRowsB,noNB,cursorB,pageB,hc,ht,hq0,hr0]
   go_enter Tryz.func23,Tryz.ntmps23
   go_wp2_with (first|(go_at_call 52;refine(HQ.out _).mono ?_;rintro e w2 ⟨rfl,rfl⟩;rw[hq])|(go_at_call 53;refine HR.out.mono ?_;rintro e w2 ⟨rfl,rfl⟩;rw[hr])|(go_at_call 50;refine(HC.out _).mono ?_;rintro e w2 ⟨rfl,rfl⟩;rw[hc])|(go_at_call 51;refine(HT.out _).mono ?_;rintro e w2 ⟨rfl,rfl⟩;rw[ht]))
   all_goals go_ret
   all_goals refine⟨?_,alcB _ _⟩
   all_goals first|exact ret_bool HX.out.symm|(rw[HX.out];simp[hc,ht,hq0,hr0])
  have hr0':¬(0:Int)<(rows.length:Int):=by omega
  by_cases hn0:n=0
  rotate_left
  ·
   have HX:Hid (chgB ⟨5,client,tag,query,0,rows,n⟩=false):=by show _=_;simp[chgB,kindB,noQB,noRowsB,noNB,cursorB,pageB,hc,ht,hq0,hr0,hn0]
   go_enter Tryz.func23,Tryz.ntmps23
   go_wp2_with (first|(go_at_call 52;refine(HQ.out _).mono ?_;rintro e w2 ⟨rfl,rfl⟩;rw[hq])|(go_at_call 53;refine HR.out.mono ?_;rintro e w2 ⟨rfl,rfl⟩;rw[hr])|(go_at_call 50;refine(HC.out _).mono ?_;rintro e w2 ⟨rfl,rfl⟩;rw[hc])|(go_at_call 51;refine(HT.out _).mono ?_;rintro e w2 ⟨rfl,rfl⟩;rw[ht]))
   all_goals go_ret
   all_goals refine⟨?_,alcB _ _⟩
   all_goals first|exact ret_bool HX.out.symm|(rw[HX.out];simp[hc,ht,hq0,hr0,hn0])
  subst hn0
  have HX:Hid (chgB ⟨5,client,tag,query,0,rows,0⟩=true):=by show _=_;simp[chgB,kindB,noQB,noRowsB,noNB,cursorB,pageB,hc,ht,hq0,hr0]
  go_enter Tryz.func23,Tryz.ntmps23
  go_wp2_with (first|(go_at_call 52;refine(HQ.out _).mono ?_;rintro e w2 ⟨rfl,rfl⟩;rw[hq])|(go_at_call 53;refine HR.out.mono ?_;rintro e w2 ⟨rfl,rfl⟩;rw[hr])|(go_at_call 50;refine(HC.out _).mono ?_;rintro e w2 ⟨rfl,rfl⟩;rw[hc])|(go_at_call 51;refine(HT.out _).mono ?_;rintro e w2 ⟨rfl,rfl⟩;rw[ht]))
  all_goals go_ret
  all_goals refine⟨?_,alcB _ _⟩
  all_goals first|exact ret_bool HX.out.symm|(rw[HX.out];simp[hc,ht,hq0,hr0])
 by_cases k6:kind=6
 ·subst k6
  cases hc:clientB client
  ·
   have HX:Hid (chgB ⟨6,client,tag,query,page,rows,n⟩=false):=by show _=_;simp[chgB,kindB,noQB,noRowsB,noNB,cursorB,pageB,hc]
   go_enter Tryz.func23,Tryz.ntmps23
   go_wp2_with (first|(go_at_call 52;refine(HQ.out _).mono ?_;rintro e w2 ⟨rfl,rfl⟩;rw[hq])|(go_at_call 53;refine HR.out.mono ?_;rintro e w2 ⟨rfl,rfl⟩;rw[hr])|(go_at_call 50;refine(HC.out _).mono ?_;rintro e w2 ⟨rfl,rfl⟩;rw[hc])|(go_at_call 51;refine(HT.out _).mono ?_;rintro e w2 ⟨rfl,rfl⟩;rw[ht]))
   all_goals go_ret
   all_goals refine⟨?_,alcB _ _⟩
   all_goals first|exact ret_bool HX.out.symm|(rw[HX.out];simp[hc])
  cases ht:tagB tag
  ·
   have HX:Hid (chgB ⟨6,client,tag,query,page,rows,n⟩=false):=by show _=_;simp[chgB,kindB,noQB,noRowsB,noNB,cursorB,pageB,hc,ht]
   go_enter Tryz.func23,Tryz.ntmps23
   go_wp2_with (first|(go_at_call 52;refine(HQ.out _).mono ?_;rintro e w2 ⟨rfl,rfl⟩;rw[hq])|(go_at_call 53;refine HR.out.mono ?_;rintro e w2 ⟨rfl,rfl⟩;rw[hr])|(go_at_call 50;refine(HC.out _).mono ?_;rintro e w2 ⟨rfl,rfl⟩;rw[hc])|(go_at_call 51;refine(HT.out _).mono ?_;rintro e w2 ⟨rfl,rfl⟩;rw[ht]))
   all_goals go_ret
   all_goals refine⟨?_,alcB _ _⟩
   all_goals first|exact ret_bool HX.out.symm|(rw[HX.out];simp[hc,ht])
  by_cases hq0:query.size=0
  rotate_left
  ·
   have hq0':(0:Int)<(query.size:Int):=by omega
   have HX:Hid (chgB ⟨6,client,tag,query,page,rows,n⟩=false):=by show _=_;simp[chgB,kindB,noQB,noRowsB,noNB,cursorB,pageB,hc,ht,hq0]
   go_enter Tryz.func23,Tryz.ntmps23
   go_wp2_with (first|(go_at_call 52;refine(HQ.out _).mono ?_;rintro e w2 ⟨rfl,rfl⟩;rw[hq])|(go_at_call 53;refine HR.out.mono ?_;rintro e w2 ⟨rfl,rfl⟩;rw[hr])|(go_at_call 50;refine(HC.out _).mono ?_;rintro e w2 ⟨rfl,rfl⟩;rw[hc])|(go_at_call 51;refine(HT.out _).mono ?_;rintro e w2 ⟨rfl,rfl⟩;rw[ht]))
   all_goals go_ret
   all_goals refine⟨?_,alcB _ _⟩
   all_goals first|exact ret_bool HX.out.symm|(rw[HX.out];simp[hc,ht,hq0])
  have hq0':¬(0:Int)<(query.size:Int):=by omega
  by_cases hp0:page=0
  rotate_left
  ·
   have HX:Hid (chgB ⟨6,client,tag,query,page,rows,n⟩=false):=by show _=_;simp[chgB,kindB,noQB,noRowsB,noNB,cursorB,pageB,hc,ht,hq0,hp0]
   go_enter Tryz.func23,Tryz.ntmps23
   go_wp2_with (first|(go_at_call 52;refine(HQ.out _).mono ?_;rintro e w2 ⟨rfl,rfl⟩;rw[hq])|(go_at_call 53;refine HR.out.mono ?_;rintro e w2 ⟨rfl,rfl⟩;rw[hr])|(go_at_call 50;refine(HC.out _).mono ?_;rintro e w2 ⟨rfl,rfl⟩;rw[hc])|(go_at_call 51;refine(HT.out _).mono ?_;rintro e w2 ⟨rfl,rfl⟩;rw[ht]))
   all_goals go_ret
   all_goals refine⟨?_,alcB _ _⟩
   all_goals first|exact ret_bool HX.out.symm|(rw[HX.out];simp[hc,ht,hq0,hp0])
  subst hp0
  by_cases hr0:rows.length=0
  rotate_left
  ·
   have hr0':(0:Int)<(rows.length:Int):=by omega
   have HX:Hid (chgB ⟨6,client,tag,query,0,rows,n⟩=false):=by show _=_;simp[chgB,kindB,noQB,noRowsB,noNB,cursorB,pageB,hc,ht,hq0,hr0]
   go_enter Tryz.func23,Tryz.ntmps23
   go_wp2_with (first|(go_at_call 52;refine(HQ.out _).mono ?_;rintro e w2 ⟨rfl,rfl⟩;rw[hq])|(go_at_call 53;refine HR.out.mono ?_;rintro e w2 ⟨rfl,rfl⟩;rw[hr])|(go_at_call 50;refine(HC.out _).mono ?_;rintro e w2 ⟨rfl,rfl⟩;rw[hc])|(go_at_call 51;refine(HT.out _).mono ?_;rintro e w2 ⟨rfl,rfl⟩;rw[ht]))
   all_goals go_ret
   all_goals refine⟨?_,alcB _ _⟩
   all_goals first|exact ret_bool HX.out.symm|(rw[HX.out];simp[hc,ht,hq0,hr0])
  have hr0':¬(0:Int)<(rows.length:Int):=by omega
  by_cases hn0:n=0
  rotate_left
  ·
   have HX:Hid (chgB ⟨6,client,tag,query,0,rows,n⟩=false):=by show _=_;simp[chgB,kindB,noQB,noRowsB,noNB,cursorB,pageB,hc,ht,hq0,hr0,hn0]
   go_enter Tryz.func23,Tryz.ntmps23
   go_wp2_with (first|(go_at_call 52;refine(HQ.out _).mono ?_;rintro e w2 ⟨rfl,rfl⟩;rw[hq])|(go_at_call 53;refine HR.out.mono ?_;rintro e w2 ⟨rfl,rfl⟩;rw[hr])|(go_at_call 50;refine(HC.out _).mono ?_;rintro e w2 ⟨rfl,rfl⟩;rw[hc])|(go_at_call 51;refine(HT.out _).mono ?_;rintro e w2 ⟨rfl,rfl⟩;rw[ht]))
   all_goals go_ret
   all_goals refine⟨?_,alcB _ _⟩
   all_goals first|exact ret_bool HX.out.symm|(rw[HX.out];simp[hc,ht,hq0,hr0,hn0])
  subst hn0
  have HX:Hid (chgB ⟨6,client,tag,query,0,rows,0⟩=true):=by show _=_;simp[chgB,kindB,noQB,noRowsB,noNB,cursorB,pageB,hc,ht,hq0,hr0]
  go_enter Tryz.func23,Tryz.ntmps23
  go_wp2_with (first|(go_at_call 52;refine(HQ.out _).mono ?_;rintro e w2 ⟨rfl,rfl⟩;rw[hq])|(go_at_call 53;refine HR.out.mono ?_;rintro e w2 ⟨rfl,rfl⟩;rw[hr])|(go_at_call 50;refine(HC.out _).mono ?_;rintro e w2 ⟨rfl,rfl⟩;rw[hc])|(go_at_call 51;refine(HT.out _).mono ?_;rintro e w2 ⟨rfl,rfl⟩;rw[ht]))
  all_goals go_ret
  all_goals refine⟨?_,alcB _ _⟩
  all_goals first|exact ret_bool HX.out.symm|(rw[HX.out];simp[hc,ht,hq0,hr0])
 cases hc:clientB client
 ·
  have HX:Hid (chgB ⟨kind,client,tag,query,page,rows,n⟩=false):=by show _=_;simp[chgB,kindB,noQB,noRowsB,noNB,cursorB,pageB,k1,k2,k4,k3,k5,k6,hc]
  go_enter Tryz.func23,Tryz.ntmps23
  go_wp2_with (first|(go_at_call 52;refine(HQ.out _).mono ?_;rintro e w2 ⟨rfl,rfl⟩;rw[hq])|(go_at_call 53;refine HR.out.mono ?_;rintro e w2 ⟨rfl,rfl⟩;rw[hr])|(go_at_call 50;refine(HC.out _).mono ?_;rintro e w2 ⟨rfl,rfl⟩;rw[hc])|(go_at_call 51;refine(HT.out _).mono ?_;rintro e w2 ⟨rfl,rfl⟩;rw[ht]))
  all_goals go_ret
  all_goals refine⟨?_,alcB _ _⟩
  all_goals first|exact ret_bool HX.out.symm|(rw[HX.out];simp[k1,k2,k4,k3,k5,k6,hc])
 cases ht:tagB tag
 ·
  have HX:Hid (chgB ⟨kind,client,tag,query,page,rows,n⟩=false):=by show _=_;simp[chgB,kindB,noQB,noRowsB,noNB,cursorB,pageB,k1,k2,k4,k3,k5,k6,hc,ht]
  go_enter Tryz.func23,Tryz.ntmps23
  go_wp2_with (first|(go_at_call 52;refine(HQ.out _).mono ?_;rintro e w2 ⟨rfl,rfl⟩;rw[hq])|(go_at_call 53;refine HR.out.mono ?_;rintro e w2 ⟨rfl,rfl⟩;rw[hr])|(go_at_call 50;refine(HC.out _).mono ?_;rintro e w2 ⟨rfl,rfl⟩;rw[hc])|(go_at_call 51;refine(HT.out _).mono ?_;rintro e w2 ⟨rfl,rfl⟩;rw[ht]))
  all_goals go_ret
  all_goals refine⟨?_,alcB _ _⟩
  all_goals first|exact ret_bool HX.out.symm|(rw[HX.out];simp[k1,k2,k4,k3,k5,k6,hc,ht])
 by_cases hq0:query.size=0
 rotate_left
 ·
  have hq0':(0:Int)<(query.size:Int):=by omega
  have HX:Hid (chgB ⟨kind,client,tag,query,page,rows,n⟩=false):=by show _=_;simp[chgB,kindB,noQB,noRowsB,noNB,cursorB,pageB,k1,k2,k4,k3,k5,k6,hc,ht,hq0]
  go_enter Tryz.func23,Tryz.ntmps23
  go_wp2_with (first|(go_at_call 52;refine(HQ.out _).mono ?_;rintro e w2 ⟨rfl,rfl⟩;rw[hq])|(go_at_call 53;refine HR.out.mono ?_;rintro e w2 ⟨rfl,rfl⟩;rw[hr])|(go_at_call 50;refine(HC.out _).mono ?_;rintro e w2 ⟨rfl,rfl⟩;rw[hc])|(go_at_call 51;refine(HT.out _).mono ?_;rintro e w2 ⟨rfl,rfl⟩;rw[ht]))
  all_goals go_ret
  all_goals refine⟨?_,alcB _ _⟩
  all_goals first|exact ret_bool HX.out.symm|(rw[HX.out];simp[k1,k2,k4,k3,k5,k6,hc,ht,hq0])
 have hq0':¬(0:Int)<(query.size:Int):=by omega
 by_cases hp0:page=0
 rotate_left
 ·
  have HX:Hid (chgB ⟨kind,client,tag,query,page,rows,n⟩=false):=by show _=_;simp[chgB,kindB,noQB,noRowsB,noNB,cursorB,pageB,k1,k2,k4,k3,k5,k6,hc,ht,hq0,hp0]
  go_enter Tryz.func23,Tryz.ntmps23
  go_wp2_with (first|(go_at_call 52;refine(HQ.out _).mono ?_;rintro e w2 ⟨rfl,rfl⟩;rw[hq])|(go_at_call 53;refine HR.out.mono ?_;rintro e w2 ⟨rfl,rfl⟩;rw[hr])|(go_at_call 50;refine(HC.out _).mono ?_;rintro e w2 ⟨rfl,rfl⟩;rw[hc])|(go_at_call 51;refine(HT.out _).mono ?_;rintro e w2 ⟨rfl,rfl⟩;rw[ht]))
  all_goals go_ret
  all_goals refine⟨?_,alcB _ _⟩
  all_goals first|exact ret_bool HX.out.symm|(rw[HX.out];simp[k1,k2,k4,k3,k5,k6,hc,ht,hq0,hp0])
 subst hp0
 by_cases hr0:rows.length=0
 rotate_left
 ·
  have hr0':(0:Int)<(rows.length:Int):=by omega
  have HX:Hid (chgB ⟨kind,client,tag,query,0,rows,n⟩=false):=by show _=_;simp[chgB,kindB,noQB,noRowsB,noNB,cursorB,pageB,k1,k2,k4,k3,k5,k6,hc,ht,hq0,hr0]
  go_enter Tryz.func23,Tryz.ntmps23
  go_wp2_with (first|(go_at_call 52;refine(HQ.out _).mono ?_;rintro e w2 ⟨rfl,rfl⟩;rw[hq])|(go_at_call 53;refine HR.out.mono ?_;rintro e w2 ⟨rfl,rfl⟩;rw[hr])|(go_at_call 50;refine(HC.out _).mono ?_;rintro e w2 ⟨rfl,rfl⟩;rw[hc])|(go_at_call 51;refine(HT.out _).mono ?_;rintro e w2 ⟨rfl,rfl⟩;rw[ht]))
  all_goals go_ret
  all_goals refine⟨?_,alcB _ _⟩
  all_goals first|exact ret_bool HX.out.symm|(rw[HX.out];simp[k1,k2,k4,k3,k5,k6,hc,ht,hq0,hr0])
 have hr0':¬(0:Int)<(rows.length:Int):=by omega
 by_cases hn0:n=0
 rotate_left
 ·
  have HX:Hid (chgB ⟨kind,client,tag,query,0,rows,n⟩=false):=by show _=_;simp[chgB,kindB,noQB,noRowsB,noNB,cursorB,pageB,k1,k2,k4,k3,k5,k6,hc,ht,hq0,hr0,hn0]
  go_enter Tryz.func23,Tryz.ntmps23
  go_wp2_with (first|(go_at_call 52;refine(HQ.out _).mono ?_;rintro e w2 ⟨rfl,rfl⟩;rw[hq])|(go_at_call 53;refine HR.out.mono ?_;rintro e w2 ⟨rfl,rfl⟩;rw[hr])|(go_at_call 50;refine(HC.out _).mono ?_;rintro e w2 ⟨rfl,rfl⟩;rw[hc])|(go_at_call 51;refine(HT.out _).mono ?_;rintro e w2 ⟨rfl,rfl⟩;rw[ht]))
  all_goals go_ret
  all_goals refine⟨?_,alcB _ _⟩
  all_goals first|exact ret_bool HX.out.symm|(rw[HX.out];simp[k1,k2,k4,k3,k5,k6,hc,ht,hq0,hr0,hn0])
 subst hn0
 have HX:Hid (chgB ⟨kind,client,tag,query,0,rows,0⟩=false):=by show _=_;simp[chgB,kindB,noQB,noRowsB,noNB,cursorB,pageB,k1,k2,k4,k3,k5,k6,hc,ht,hq0,hr0]
 go_enter Tryz.func23,Tryz.ntmps23
 go_wp2_with (first|(go_at_call 52;refine(HQ.out _).mono ?_;rintro e w2 ⟨rfl,rfl⟩;rw[hq])|(go_at_call 53;refine HR.out.mono ?_;rintro e w2 ⟨rfl,rfl⟩;rw[hr])|(go_at_call 50;refine(HC.out _).mono ?_;rintro e w2 ⟨rfl,rfl⟩;rw[hc])|(go_at_call 51;refine(HT.out _).mono ?_;rintro e w2 ⟨rfl,rfl⟩;rw[ht]))
 all_goals go_ret
 all_goals refine⟨?_,alcB _ _⟩
 all_goals first|exact ret_bool HX.out.symm|(rw[HX.out];simp[k1,k2,k4,k3,k5,k6,hc,ht,hq0,hr0])
end Go.Proofs.YtglcdcekkglmiaaGreatDoor.Msg
