import Derived.Test.YtglcdcekkglmiaaGreatDoorG10
namespace Go.Proofs.YtglcdcekkglmiaaGreatDoor.Msg
open Go.ChangeShapes Go.WideShapes Go.ChangeAt Go.RowKit
set_option linter.unusedVariables false
set_option linter.unusedSimpArgs false
set_option maxHeartbeats 4000000 in
theorem isChange_any (c:Chg) (v:Value) (w:World) {lo:Nat} (h2:c.tag.size≤9223372036854775807) (h3:c.query.size≤9223372036854775807) (hv:StrsAt lo w v c.rows) :
  Calls Tryz.prog 29 #[chgV c v] w fun e w'=>e=.returned (.bool (chgB c))∧Below w.heap.size w w':=by
 obtain⟨kind,client,tag,query,page,rows,n⟩:=c
 simp only at h2 h3 hv
 have hl:=hv.1
 obtain⟨a,cap,hf,_⟩:=hv.form
 subst hf
 show Calls Tryz.prog 29 #[.agg #[.int .i64 kind,.int .i64 client,.string tag,.string query,.int .i64 page,.slice a rows.length cap,.int .i64 n]] w _
 have HB0:=hide ((Below.refl w.heap.size w).alloc (leR _) (Obj.cells #[.int .i64 kind,.int .i64 client,.string tag,.string query,.int .i64 page,.slice a rows.length cap,.int .i64 n] 28))
 have HB1:Hid True:=trivial
 have HB2:Hid True:=trivial
 have HB2b:Hid True:=trivial
 have HR:=hide (areRows_any rows 200 _ (w.alloc (Obj.cells #[.int .i64 kind,.int .i64 client,.string tag,.string query,.int .i64 page,.slice a rows.length cap,.int .i64 n] 28)) (At.kept kept_str hv HB0.out))
 have HQ:=hide (fun W=>isText_any query W h3)
 have HT:=hide (fun W=>isTag_any tag W h2)
 have HP:=hide (fun W=>isPage_any page W)
 have HC:=hide (fun W=>isClient_any client W)
 clear hv h2 h3
 by_cases k1:kind=1
 ·subst k1
  cases hq:textB query
  ·
   have HX:Hid (chgB ⟨1,client,tag,query,page,rows,n⟩=false):=by show _=_;simp[chgB,kindB,noQB,noRowsB,noNB,cursorB,hq]
   go_enter Tryz.func29,Tryz.ntmps29
   go_wp2_with (first|(go_at_call 60;refine(HQ.out _).mono ?_;rintro e w2 ⟨rfl,rfl⟩;rw[hq])|(go_at_call 61;refine(HP.out _).mono ?_;rintro e w2 ⟨rfl,rfl⟩;rw[hp])|(go_at_call 62;refine HR.out.mono ?_;rintro e w2 ⟨rfl,rfl⟩;rw[hr])|(go_at_call 63;refine(HC.out _).mono ?_;rintro e w2 ⟨rfl,rfl⟩;rw[hc])|(go_at_call 64;refine(HT.out _).mono ?_;rintro e w2 ⟨rfl,rfl⟩;rw[ht]))
   go_ret
   refine⟨?_,alcB _ _⟩
   first|exact ret_bool HX.out.symm|(rw[HX.out];simp[hq])
  cases hp:pageB page
  ·
   have HX:Hid (chgB ⟨1,client,tag,query,page,rows,n⟩=false):=by show _=_;simp[chgB,kindB,noQB,noRowsB,noNB,cursorB,hq,hp]
   go_enter Tryz.func29,Tryz.ntmps29
   go_wp2_with (first|(go_at_call 60;refine(HQ.out _).mono ?_;rintro e w2 ⟨rfl,rfl⟩;rw[hq])|(go_at_call 61;refine(HP.out _).mono ?_;rintro e w2 ⟨rfl,rfl⟩;rw[hp])|(go_at_call 62;refine HR.out.mono ?_;rintro e w2 ⟨rfl,rfl⟩;rw[hr])|(go_at_call 63;refine(HC.out _).mono ?_;rintro e w2 ⟨rfl,rfl⟩;rw[hc])|(go_at_call 64;refine(HT.out _).mono ?_;rintro e w2 ⟨rfl,rfl⟩;rw[ht]))
   go_ret
   refine⟨?_,alcB _ _⟩
   first|exact ret_bool HX.out.symm|(rw[HX.out];simp[hq,hp])
  cases hc:clientB client
  ·
   have HX:Hid (chgB ⟨1,client,tag,query,page,rows,n⟩=false):=by show _=_;simp[chgB,kindB,noQB,noRowsB,noNB,cursorB,hq,hp,hc]
   go_enter Tryz.func29,Tryz.ntmps29
   go_wp2_with (first|(go_at_call 60;refine(HQ.out _).mono ?_;rintro e w2 ⟨rfl,rfl⟩;rw[hq])|(go_at_call 61;refine(HP.out _).mono ?_;rintro e w2 ⟨rfl,rfl⟩;rw[hp])|(go_at_call 62;refine HR.out.mono ?_;rintro e w2 ⟨rfl,rfl⟩;rw[hr])|(go_at_call 63;refine(HC.out _).mono ?_;rintro e w2 ⟨rfl,rfl⟩;rw[hc])|(go_at_call 64;refine(HT.out _).mono ?_;rintro e w2 ⟨rfl,rfl⟩;rw[ht]))
   go_ret
   refine⟨?_,alcB _ _⟩
   first|exact ret_bool HX.out.symm|(rw[HX.out];simp[hq,hp,hc])
  cases ht:tagB tag
  ·
   have HX:Hid (chgB ⟨1,client,tag,query,page,rows,n⟩=false):=by show _=_;simp[chgB,kindB,noQB,noRowsB,noNB,cursorB,hq,hp,hc,ht]
   go_enter Tryz.func29,Tryz.ntmps29
   go_wp2_with (first|(go_at_call 60;refine(HQ.out _).mono ?_;rintro e w2 ⟨rfl,rfl⟩;rw[hq])|(go_at_call 61;refine(HP.out _).mono ?_;rintro e w2 ⟨rfl,rfl⟩;rw[hp])|(go_at_call 62;refine HR.out.mono ?_;rintro e w2 ⟨rfl,rfl⟩;rw[hr])|(go_at_call 63;refine(HC.out _).mono ?_;rintro e w2 ⟨rfl,rfl⟩;rw[hc])|(go_at_call 64;refine(HT.out _).mono ?_;rintro e w2 ⟨rfl,rfl⟩;rw[ht]))
   go_ret
   refine⟨?_,alcB _ _⟩
   first|exact ret_bool HX.out.symm|(rw[HX.out];simp[hq,hp,hc,ht])
  by_cases hr0:rows.length=0
  rotate_left
  ·
   have hr0':¬((rows.length:Nat):Int)=0:=by omega
   have HX:Hid (chgB ⟨1,client,tag,query,page,rows,n⟩=false):=by show _=_;simp[chgB,kindB,noQB,noRowsB,noNB,cursorB,hq,hp,hc,ht,hr0]
   go_enter Tryz.func29,Tryz.ntmps29
   go_wp2_with (first|(go_at_call 60;refine(HQ.out _).mono ?_;rintro e w2 ⟨rfl,rfl⟩;rw[hq])|(go_at_call 61;refine(HP.out _).mono ?_;rintro e w2 ⟨rfl,rfl⟩;rw[hp])|(go_at_call 62;refine HR.out.mono ?_;rintro e w2 ⟨rfl,rfl⟩;rw[hr])|(go_at_call 63;refine(HC.out _).mono ?_;rintro e w2 ⟨rfl,rfl⟩;rw[hc])|(go_at_call 64;refine(HT.out _).mono ?_;rintro e w2 ⟨rfl,rfl⟩;rw[ht]))
   go_ret
   refine⟨?_,alcB _ _⟩
   first|exact ret_bool HX.out.symm|(rw[HX.out];simp[hq,hp,hc,ht,hr0])
  have hr0':((rows.length:Nat):Int)=0:=by omega
  by_cases hn0:n=0
  rotate_left
  ·
   have HX:Hid (chgB ⟨1,client,tag,query,page,rows,n⟩=false):=by show _=_;simp[chgB,kindB,noQB,noRowsB,noNB,cursorB,hq,hp,hc,ht,hr0,hn0]
   go_enter Tryz.func29,Tryz.ntmps29
   go_wp2_with (first|(go_at_call 60;refine(HQ.out _).mono ?_;rintro e w2 ⟨rfl,rfl⟩;rw[hq])|(go_at_call 61;refine(HP.out _).mono ?_;rintro e w2 ⟨rfl,rfl⟩;rw[hp])|(go_at_call 62;refine HR.out.mono ?_;rintro e w2 ⟨rfl,rfl⟩;rw[hr])|(go_at_call 63;refine(HC.out _).mono ?_;rintro e w2 ⟨rfl,rfl⟩;rw[hc])|(go_at_call 64;refine(HT.out _).mono ?_;rintro e w2 ⟨rfl,rfl⟩;rw[ht]))
   go_ret
   refine⟨?_,alcB _ _⟩
   first|exact ret_bool HX.out.symm|(rw[HX.out];simp[hq,hp,hc,ht,hr0,hn0])
  subst hn0
  have HX:Hid (chgB ⟨1,client,tag,query,page,rows,0⟩=true):=by show _=_;simp[chgB,kindB,noQB,noRowsB,noNB,cursorB,hq,hp,hc,ht,hr0]
  go_enter Tryz.func29,Tryz.ntmps29
  go_wp2_with (first|(go_at_call 60;refine(HQ.out _).mono ?_;rintro e w2 ⟨rfl,rfl⟩;rw[hq])|(go_at_call 61;refine(HP.out _).mono ?_;rintro e w2 ⟨rfl,rfl⟩;rw[hp])|(go_at_call 62;refine HR.out.mono ?_;rintro e w2 ⟨rfl,rfl⟩;rw[hr])|(go_at_call 63;refine(HC.out _).mono ?_;rintro e w2 ⟨rfl,rfl⟩;rw[hc])|(go_at_call 64;refine(HT.out _).mono ?_;rintro e w2 ⟨rfl,rfl⟩;rw[ht]))
  go_ret
  refine⟨?_,alcB _ _⟩
  first|exact ret_bool HX.out.symm|(rw[HX.out];simp[hq,hp,hc,ht,hr0])
 by_cases k2:kind=2
 ·subst k2
  cases hr:rowsB rows 200
  ·
   have HX:Hid (chgB ⟨2,client,tag,query,page,rows,n⟩=false):=by show _=_;simp[chgB,kindB,noQB,noRowsB,noNB,cursorB,hr]
   go_enter Tryz.func29,Tryz.ntmps29
   go_wp2_with (first|(go_at_call 60;refine(HQ.out _).mono ?_;rintro e w2 ⟨rfl,rfl⟩;rw[hq])|(go_at_call 61;refine(HP.out _).mono ?_;rintro e w2 ⟨rfl,rfl⟩;rw[hp])|(go_at_call 62;refine HR.out.mono ?_;rintro e w2 ⟨rfl,rfl⟩;rw[hr])|(go_at_call 63;refine(HC.out _).mono ?_;rintro e w2 ⟨rfl,rfl⟩;rw[hc])|(go_at_call 64;refine(HT.out _).mono ?_;rintro e w2 ⟨rfl,rfl⟩;rw[ht]))
   go_ret
   refine⟨?_,alcB _ _⟩
   first|exact ret_bool HX.out.symm|(rw[HX.out];simp[hr])
  cases hc:clientB client
  ·
   have HX:Hid (chgB ⟨2,client,tag,query,page,rows,n⟩=false):=by show _=_;simp[chgB,kindB,noQB,noRowsB,noNB,cursorB,hr,hc]
   go_enter Tryz.func29,Tryz.ntmps29
   go_wp2_with (first|(go_at_call 60;refine(HQ.out _).mono ?_;rintro e w2 ⟨rfl,rfl⟩;rw[hq])|(go_at_call 61;refine(HP.out _).mono ?_;rintro e w2 ⟨rfl,rfl⟩;rw[hp])|(go_at_call 62;refine HR.out.mono ?_;rintro e w2 ⟨rfl,rfl⟩;rw[hr])|(go_at_call 63;refine(HC.out _).mono ?_;rintro e w2 ⟨rfl,rfl⟩;rw[hc])|(go_at_call 64;refine(HT.out _).mono ?_;rintro e w2 ⟨rfl,rfl⟩;rw[ht]))
   go_ret
   refine⟨?_,alcB _ _⟩
   first|exact ret_bool HX.out.symm|(rw[HX.out];simp[hr,hc])
  cases ht:tagB tag
  ·
   have HX:Hid (chgB ⟨2,client,tag,query,page,rows,n⟩=false):=by show _=_;simp[chgB,kindB,noQB,noRowsB,noNB,cursorB,hr,hc,ht]
   go_enter Tryz.func29,Tryz.ntmps29
   go_wp2_with (first|(go_at_call 60;refine(HQ.out _).mono ?_;rintro e w2 ⟨rfl,rfl⟩;rw[hq])|(go_at_call 61;refine(HP.out _).mono ?_;rintro e w2 ⟨rfl,rfl⟩;rw[hp])|(go_at_call 62;refine HR.out.mono ?_;rintro e w2 ⟨rfl,rfl⟩;rw[hr])|(go_at_call 63;refine(HC.out _).mono ?_;rintro e w2 ⟨rfl,rfl⟩;rw[hc])|(go_at_call 64;refine(HT.out _).mono ?_;rintro e w2 ⟨rfl,rfl⟩;rw[ht]))
   go_ret
   refine⟨?_,alcB _ _⟩
   first|exact ret_bool HX.out.symm|(rw[HX.out];simp[hr,hc,ht])
  by_cases hq0:query.size=0
  rotate_left
  ·obtain⟨q1,q2,q3⟩:=empty_no hq0
   have HX:Hid (chgB ⟨2,client,tag,query,page,rows,n⟩=false):=by show _=_;simp[chgB,kindB,noQB,noRowsB,noNB,cursorB,hr,hc,ht,hq0]
   clear hq0 q1
   go_enter Tryz.func29,Tryz.ntmps29
   go_wp2_with (first|(go_at_call 60;refine(HQ.out _).mono ?_;rintro e w2 ⟨rfl,rfl⟩;rw[hq])|(go_at_call 61;refine(HP.out _).mono ?_;rintro e w2 ⟨rfl,rfl⟩;rw[hp])|(go_at_call 62;refine HR.out.mono ?_;rintro e w2 ⟨rfl,rfl⟩;rw[hr])|(go_at_call 63;refine(HC.out _).mono ?_;rintro e w2 ⟨rfl,rfl⟩;rw[hc])|(go_at_call 64;refine(HT.out _).mono ?_;rintro e w2 ⟨rfl,rfl⟩;rw[ht]))
   go_ret
   refine⟨?_,alcB _ _⟩
   first|exact ret_bool HX.out.symm|(rw[HX.out];simp[hr,hc,ht,hq0])
  obtain⟨q1,q2,q3⟩:=empty_yes hq0
  have HQ0:=hide hq0
  clear hq0 q1
  by_cases hp0:page=0
  rotate_left
  ·
   have HX:Hid (chgB ⟨2,client,tag,query,page,rows,n⟩=false):=by show _=_;simp[chgB,kindB,noQB,noRowsB,noNB,cursorB,hr,hc,ht,HQ0.out,hp0]
   go_enter Tryz.func29,Tryz.ntmps29
   go_wp2_with (first|(go_at_call 60;refine(HQ.out _).mono ?_;rintro e w2 ⟨rfl,rfl⟩;rw[hq])|(go_at_call 61;refine(HP.out _).mono ?_;rintro e w2 ⟨rfl,rfl⟩;rw[hp])|(go_at_call 62;refine HR.out.mono ?_;rintro e w2 ⟨rfl,rfl⟩;rw[hr])|(go_at_call 63;refine(HC.out _).mono ?_;rintro e w2 ⟨rfl,rfl⟩;rw[hc])|(go_at_call 64;refine(HT.out _).mono ?_;rintro e w2 ⟨rfl,rfl⟩;rw[ht]))
   go_ret
   refine⟨?_,alcB _ _⟩
   first|exact ret_bool HX.out.symm|(rw[HX.out];simp[hr,hc,ht,hp0])
  subst hp0
  by_cases hn0:n=0
  rotate_left
  ·
   have HX:Hid (chgB ⟨2,client,tag,query,0,rows,n⟩=false):=by show _=_;simp[chgB,kindB,noQB,noRowsB,noNB,cursorB,hr,hc,ht,HQ0.out,hn0]
   go_enter Tryz.func29,Tryz.ntmps29
   go_wp2_with (first|(go_at_call 60;refine(HQ.out _).mono ?_;rintro e w2 ⟨rfl,rfl⟩;rw[hq])|(go_at_call 61;refine(HP.out _).mono ?_;rintro e w2 ⟨rfl,rfl⟩;rw[hp])|(go_at_call 62;refine HR.out.mono ?_;rintro e w2 ⟨rfl,rfl⟩;rw[hr])|(go_at_call 63;refine(HC.out _).mono ?_;rintro e w2 ⟨rfl,rfl⟩;rw[hc])|(go_at_call 64;refine(HT.out _).mono ?_;rintro e w2 ⟨rfl,rfl⟩;rw[ht]))
   go_ret
   refine⟨?_,alcB _ _⟩
   first|exact ret_bool HX.out.symm|(rw[HX.out];simp[hr,hc,ht,hn0])
  subst hn0
  have HX:Hid (chgB ⟨2,client,tag,query,0,rows,0⟩=true):=by show _=_;simp[chgB,kindB,noQB,noRowsB,noNB,cursorB,hr,hc,ht,HQ0.out]
  go_enter Tryz.func29,Tryz.ntmps29
  go_wp2_with (first|(go_at_call 60;refine(HQ.out _).mono ?_;rintro e w2 ⟨rfl,rfl⟩;rw[hq])|(go_at_call 61;refine(HP.out _).mono ?_;rintro e w2 ⟨rfl,rfl⟩;rw[hp])|(go_at_call 62;refine HR.out.mono ?_;rintro e w2 ⟨rfl,rfl⟩;rw[hr])|(go_at_call 63;refine(HC.out _).mono ?_;rintro e w2 ⟨rfl,rfl⟩;rw[hc])|(go_at_call 64;refine(HT.out _).mono ?_;rintro e w2 ⟨rfl,rfl⟩;rw[ht]))
  go_ret
  refine⟨?_,alcB _ _⟩
  first|exact ret_bool HX.out.symm|(rw[HX.out];simp[hr,hc,ht])
 by_cases k4:kind=4
 ·subst k4
  by_cases hlo:(0:Int)≤n
  rotate_left
  ·
   have HX:Hid (chgB ⟨4,client,tag,query,page,rows,n⟩=false):=by show _=_;simp[chgB,kindB,noQB,noRowsB,noNB,cursorB,hlo]
   go_enter Tryz.func29,Tryz.ntmps29
   go_wp2_with (first|(go_at_call 60;refine(HQ.out _).mono ?_;rintro e w2 ⟨rfl,rfl⟩;rw[hq])|(go_at_call 61;refine(HP.out _).mono ?_;rintro e w2 ⟨rfl,rfl⟩;rw[hp])|(go_at_call 62;refine HR.out.mono ?_;rintro e w2 ⟨rfl,rfl⟩;rw[hr])|(go_at_call 63;refine(HC.out _).mono ?_;rintro e w2 ⟨rfl,rfl⟩;rw[hc])|(go_at_call 64;refine(HT.out _).mono ?_;rintro e w2 ⟨rfl,rfl⟩;rw[ht]))
   go_ret
   refine⟨?_,alcB _ _⟩
   first|exact ret_bool HX.out.symm|(rw[HX.out];simp[hlo])
  by_cases hhi:n≤200
  rotate_left
  ·
   have HX:Hid (chgB ⟨4,client,tag,query,page,rows,n⟩=false):=by show _=_;simp[chgB,kindB,noQB,noRowsB,noNB,cursorB,hlo,hhi]
   go_enter Tryz.func29,Tryz.ntmps29
   go_wp2_with (first|(go_at_call 60;refine(HQ.out _).mono ?_;rintro e w2 ⟨rfl,rfl⟩;rw[hq])|(go_at_call 61;refine(HP.out _).mono ?_;rintro e w2 ⟨rfl,rfl⟩;rw[hp])|(go_at_call 62;refine HR.out.mono ?_;rintro e w2 ⟨rfl,rfl⟩;rw[hr])|(go_at_call 63;refine(HC.out _).mono ?_;rintro e w2 ⟨rfl,rfl⟩;rw[hc])|(go_at_call 64;refine(HT.out _).mono ?_;rintro e w2 ⟨rfl,rfl⟩;rw[ht]))
   go_ret
   refine⟨?_,alcB _ _⟩
   first|exact ret_bool HX.out.symm|(rw[HX.out];simp[hlo,hhi])
  cases hc:clientB client
  ·
   have HX:Hid (chgB ⟨4,client,tag,query,page,rows,n⟩=false):=by show _=_;simp[chgB,kindB,noQB,noRowsB,noNB,cursorB,hlo,hhi,hc]
   go_enter Tryz.func29,Tryz.ntmps29
   go_wp2_with (first|(go_at_call 60;refine(HQ.out _).mono ?_;rintro e w2 ⟨rfl,rfl⟩;rw[hq])|(go_at_call 61;refine(HP.out _).mono ?_;rintro e w2 ⟨rfl,rfl⟩;rw[hp])|(go_at_call 62;refine HR.out.mono ?_;rintro e w2 ⟨rfl,rfl⟩;rw[hr])|(go_at_call 63;refine(HC.out _).mono ?_;rintro e w2 ⟨rfl,rfl⟩;rw[hc])|(go_at_call 64;refine(HT.out _).mono ?_;rintro e w2 ⟨rfl,rfl⟩;rw[ht]))
   go_ret
   refine⟨?_,alcB _ _⟩
   first|exact ret_bool HX.out.symm|(rw[HX.out];simp[hlo,hhi,hc])
  cases ht:tagB tag
  ·
   have HX:Hid (chgB ⟨4,client,tag,query,page,rows,n⟩=false):=by show _=_;simp[chgB,kindB,noQB,noRowsB,noNB,cursorB,hlo,hhi,hc,ht]
   go_enter Tryz.func29,Tryz.ntmps29
   go_wp2_with (first|(go_at_call 60;refine(HQ.out _).mono ?_;rintro e w2 ⟨rfl,rfl⟩;rw[hq])|(go_at_call 61;refine(HP.out _).mono ?_;rintro e w2 ⟨rfl,rfl⟩;rw[hp])|(go_at_call 62;refine HR.out.mono ?_;rintro e w2 ⟨rfl,rfl⟩;rw[hr])|(go_at_call 63;refine(HC.out _).mono ?_;rintro e w2 ⟨rfl,rfl⟩;rw[hc])|(go_at_call 64;refine(HT.out _).mono ?_;rintro e w2 ⟨rfl,rfl⟩;rw[ht]))
   go_ret
   refine⟨?_,alcB _ _⟩
   first|exact ret_bool HX.out.symm|(rw[HX.out];simp[hlo,hhi,hc,ht])
  by_cases hq0:query.size=0
  rotate_left
  ·obtain⟨q1,q2,q3⟩:=empty_no hq0
   have HX:Hid (chgB ⟨4,client,tag,query,page,rows,n⟩=false):=by show _=_;simp[chgB,kindB,noQB,noRowsB,noNB,cursorB,hlo,hhi,hc,ht,hq0]
   clear hq0 q1
   go_enter Tryz.func29,Tryz.ntmps29
   go_wp2_with (first|(go_at_call 60;refine(HQ.out _).mono ?_;rintro e w2 ⟨rfl,rfl⟩;rw[hq])|(go_at_call 61;refine(HP.out _).mono ?_;rintro e w2 ⟨rfl,rfl⟩;rw[hp])|(go_at_call 62;refine HR.out.mono ?_;rintro e w2 ⟨rfl,rfl⟩;rw[hr])|(go_at_call 63;refine(HC.out _).mono ?_;rintro e w2 ⟨rfl,rfl⟩;rw[hc])|(go_at_call 64;refine(HT.out _).mono ?_;rintro e w2 ⟨rfl,rfl⟩;rw[ht]))
   go_ret
   refine⟨?_,alcB _ _⟩
   first|exact ret_bool HX.out.symm|(rw[HX.out];simp[hlo,hhi,hc,ht,hq0])
  obtain⟨q1,q2,q3⟩:=empty_yes hq0
  have HQ0:=hide hq0
  clear hq0 q1
  by_cases hp0:page=0
  rotate_left
  ·
   have HX:Hid (chgB ⟨4,client,tag,query,page,rows,n⟩=false):=by show _=_;simp[chgB,kindB,noQB,noRowsB,noNB,cursorB,hlo,hhi,hc,ht,HQ0.out,hp0]
   go_enter Tryz.func29,Tryz.ntmps29
   go_wp2_with (first|(go_at_call 60;refine(HQ.out _).mono ?_;rintro e w2 ⟨rfl,rfl⟩;rw[hq])|(go_at_call 61;refine(HP.out _).mono ?_;rintro e w2 ⟨rfl,rfl⟩;rw[hp])|(go_at_call 62;refine HR.out.mono ?_;rintro e w2 ⟨rfl,rfl⟩;rw[hr])|(go_at_call 63;refine(HC.out _).mono ?_;rintro e w2 ⟨rfl,rfl⟩;rw[hc])|(go_at_call 64;refine(HT.out _).mono ?_;rintro e w2 ⟨rfl,rfl⟩;rw[ht]))
   go_ret
   refine⟨?_,alcB _ _⟩
   first|exact ret_bool HX.out.symm|(rw[HX.out];simp[hlo,hhi,hc,ht,hp0])
  subst hp0
  by_cases hr0:rows.length=0
  rotate_left
  ·
   have hr0':¬((rows.length:Nat):Int)=0:=by omega
   have HX:Hid (chgB ⟨4,client,tag,query,0,rows,n⟩=false):=by show _=_;simp[chgB,kindB,noQB,noRowsB,noNB,cursorB,hlo,hhi,hc,ht,HQ0.out,hr0]
   go_enter Tryz.func29,Tryz.ntmps29
   go_wp2_with (first|(go_at_call 60;refine(HQ.out _).mono ?_;rintro e w2 ⟨rfl,rfl⟩;rw[hq])|(go_at_call 61;refine(HP.out _).mono ?_;rintro e w2 ⟨rfl,rfl⟩;rw[hp])|(go_at_call 62;refine HR.out.mono ?_;rintro e w2 ⟨rfl,rfl⟩;rw[hr])|(go_at_call 63;refine(HC.out _).mono ?_;rintro e w2 ⟨rfl,rfl⟩;rw[hc])|(go_at_call 64;refine(HT.out _).mono ?_;rintro e w2 ⟨rfl,rfl⟩;rw[ht]))
   go_ret
   refine⟨?_,alcB _ _⟩
   first|exact ret_bool HX.out.symm|(rw[HX.out];simp[hlo,hhi,hc,ht,hr0])
  have hr0':((rows.length:Nat):Int)=0:=by omega
  have HX:Hid (chgB ⟨4,client,tag,query,0,rows,n⟩=true):=by show _=_;simp[chgB,kindB,noQB,noRowsB,noNB,cursorB,hlo,hhi,hc,ht,HQ0.out,hr0]
  go_enter Tryz.func29,Tryz.ntmps29
  go_wp2_with (first|(go_at_call 60;refine(HQ.out _).mono ?_;rintro e w2 ⟨rfl,rfl⟩;rw[hq])|(go_at_call 61;refine(HP.out _).mono ?_;rintro e w2 ⟨rfl,rfl⟩;rw[hp])|(go_at_call 62;refine HR.out.mono ?_;rintro e w2 ⟨rfl,rfl⟩;rw[hr])|(go_at_call 63;refine(HC.out _).mono ?_;rintro e w2 ⟨rfl,rfl⟩;rw[hc])|(go_at_call 64;refine(HT.out _).mono ?_;rintro e w2 ⟨rfl,rfl⟩;rw[ht]))
  go_ret
  refine⟨?_,alcB _ _⟩
  first|exact ret_bool HX.out.symm|(rw[HX.out];simp[hlo,hhi,hc,ht,hr0])
 by_cases k3:kind=3
 ·subst k3
  cases hc:clientB client
  ·
   have HX:Hid (chgB ⟨3,client,tag,query,page,rows,n⟩=false):=by show _=_;simp[chgB,kindB,noQB,noRowsB,noNB,cursorB,hc]
   go_enter Tryz.func29,Tryz.ntmps29
   go_wp2_with (first|(go_at_call 60;refine(HQ.out _).mono ?_;rintro e w2 ⟨rfl,rfl⟩;rw[hq])|(go_at_call 61;refine(HP.out _).mono ?_;rintro e w2 ⟨rfl,rfl⟩;rw[hp])|(go_at_call 62;refine HR.out.mono ?_;rintro e w2 ⟨rfl,rfl⟩;rw[hr])|(go_at_call 63;refine(HC.out _).mono ?_;rintro e w2 ⟨rfl,rfl⟩;rw[hc])|(go_at_call 64;refine(HT.out _).mono ?_;rintro e w2 ⟨rfl,rfl⟩;rw[ht]))
   go_ret
   refine⟨?_,alcB _ _⟩
   first|exact ret_bool HX.out.symm|(rw[HX.out];simp[hc])
  cases ht:tagB tag
  ·
   have HX:Hid (chgB ⟨3,client,tag,query,page,rows,n⟩=false):=by show _=_;simp[chgB,kindB,noQB,noRowsB,noNB,cursorB,hc,ht]
   go_enter Tryz.func29,Tryz.ntmps29
   go_wp2_with (first|(go_at_call 60;refine(HQ.out _).mono ?_;rintro e w2 ⟨rfl,rfl⟩;rw[hq])|(go_at_call 61;refine(HP.out _).mono ?_;rintro e w2 ⟨rfl,rfl⟩;rw[hp])|(go_at_call 62;refine HR.out.mono ?_;rintro e w2 ⟨rfl,rfl⟩;rw[hr])|(go_at_call 63;refine(HC.out _).mono ?_;rintro e w2 ⟨rfl,rfl⟩;rw[hc])|(go_at_call 64;refine(HT.out _).mono ?_;rintro e w2 ⟨rfl,rfl⟩;rw[ht]))
   go_ret
   refine⟨?_,alcB _ _⟩
   first|exact ret_bool HX.out.symm|(rw[HX.out];simp[hc,ht])
  by_cases hq0:query.size=0
  rotate_left
  ·obtain⟨q1,q2,q3⟩:=empty_no hq0
   have HX:Hid (chgB ⟨3,client,tag,query,page,rows,n⟩=false):=by show _=_;simp[chgB,kindB,noQB,noRowsB,noNB,cursorB,hc,ht,hq0]
   clear hq0 q1
   go_enter Tryz.func29,Tryz.ntmps29
   go_wp2_with (first|(go_at_call 60;refine(HQ.out _).mono ?_;rintro e w2 ⟨rfl,rfl⟩;rw[hq])|(go_at_call 61;refine(HP.out _).mono ?_;rintro e w2 ⟨rfl,rfl⟩;rw[hp])|(go_at_call 62;refine HR.out.mono ?_;rintro e w2 ⟨rfl,rfl⟩;rw[hr])|(go_at_call 63;refine(HC.out _).mono ?_;rintro e w2 ⟨rfl,rfl⟩;rw[hc])|(go_at_call 64;refine(HT.out _).mono ?_;rintro e w2 ⟨rfl,rfl⟩;rw[ht]))
   go_ret
   refine⟨?_,alcB _ _⟩
   first|exact ret_bool HX.out.symm|(rw[HX.out];simp[hc,ht,hq0])
  obtain⟨q1,q2,q3⟩:=empty_yes hq0
  have HQ0:=hide hq0
  clear hq0 q1
  by_cases hp0:page=0
  rotate_left
  ·
   have HX:Hid (chgB ⟨3,client,tag,query,page,rows,n⟩=false):=by show _=_;simp[chgB,kindB,noQB,noRowsB,noNB,cursorB,hc,ht,HQ0.out,hp0]
   go_enter Tryz.func29,Tryz.ntmps29
   go_wp2_with (first|(go_at_call 60;refine(HQ.out _).mono ?_;rintro e w2 ⟨rfl,rfl⟩;rw[hq])|(go_at_call 61;refine(HP.out _).mono ?_;rintro e w2 ⟨rfl,rfl⟩;rw[hp])|(go_at_call 62;refine HR.out.mono ?_;rintro e w2 ⟨rfl,rfl⟩;rw[hr])|(go_at_call 63;refine(HC.out _).mono ?_;rintro e w2 ⟨rfl,rfl⟩;rw[hc])|(go_at_call 64;refine(HT.out _).mono ?_;rintro e w2 ⟨rfl,rfl⟩;rw[ht]))
   go_ret
   refine⟨?_,alcB _ _⟩
   first|exact ret_bool HX.out.symm|(rw[HX.out];simp[hc,ht,hp0])
  subst hp0
  by_cases hr0:rows.length=0
  rotate_left
  ·
   have hr0':¬((rows.length:Nat):Int)=0:=by omega
   have HX:Hid (chgB ⟨3,client,tag,query,0,rows,n⟩=false):=by show _=_;simp[chgB,kindB,noQB,noRowsB,noNB,cursorB,hc,ht,HQ0.out,hr0]
   go_enter Tryz.func29,Tryz.ntmps29
   go_wp2_with (first|(go_at_call 60;refine(HQ.out _).mono ?_;rintro e w2 ⟨rfl,rfl⟩;rw[hq])|(go_at_call 61;refine(HP.out _).mono ?_;rintro e w2 ⟨rfl,rfl⟩;rw[hp])|(go_at_call 62;refine HR.out.mono ?_;rintro e w2 ⟨rfl,rfl⟩;rw[hr])|(go_at_call 63;refine(HC.out _).mono ?_;rintro e w2 ⟨rfl,rfl⟩;rw[hc])|(go_at_call 64;refine(HT.out _).mono ?_;rintro e w2 ⟨rfl,rfl⟩;rw[ht]))
   go_ret
   refine⟨?_,alcB _ _⟩
   first|exact ret_bool HX.out.symm|(rw[HX.out];simp[hc,ht,hr0])
  have hr0':((rows.length:Nat):Int)=0:=by omega
  by_cases hn0:n=0
  rotate_left
  ·
   have HX:Hid (chgB ⟨3,client,tag,query,0,rows,n⟩=false):=by show _=_;simp[chgB,kindB,noQB,noRowsB,noNB,cursorB,hc,ht,HQ0.out,hr0,hn0]
   go_enter Tryz.func29,Tryz.ntmps29
   go_wp2_with (first|(go_at_call 60;refine(HQ.out _).mono ?_;rintro e w2 ⟨rfl,rfl⟩;rw[hq])|(go_at_call 61;refine(HP.out _).mono ?_;rintro e w2 ⟨rfl,rfl⟩;rw[hp])|(go_at_call 62;refine HR.out.mono ?_;rintro e w2 ⟨rfl,rfl⟩;rw[hr])|(go_at_call 63;refine(HC.out _).mono ?_;rintro e w2 ⟨rfl,rfl⟩;rw[hc])|(go_at_call 64;refine(HT.out _).mono ?_;rintro e w2 ⟨rfl,rfl⟩;rw[ht]))
   go_ret
   refine⟨?_,alcB _ _⟩
   first|exact ret_bool HX.out.symm|(rw[HX.out];simp[hc,ht,hr0,hn0])
  subst hn0
  have HX:Hid (chgB ⟨3,client,tag,query,0,rows,0⟩=true):=by show _=_;simp[chgB,kindB,noQB,noRowsB,noNB,cursorB,hc,ht,HQ0.out,hr0]
  go_enter Tryz.func29,Tryz.ntmps29
  go_wp2_with (first|(go_at_call 60;refine(HQ.out _).mono ?_;rintro e w2 ⟨rfl,rfl⟩;rw[hq])|(go_at_call 61;refine(HP.out _).mono ?_;rintro e w2 ⟨rfl,rfl⟩;rw[hp])|(go_at_call 62;refine HR.out.mono ?_;rintro e w2 ⟨rfl,rfl⟩;rw[hr])|(go_at_call 63;refine(HC.out _).mono ?_;rintro e w2 ⟨rfl,rfl⟩;rw[hc])|(go_at_call 64;refine(HT.out _).mono ?_;rintro e w2 ⟨rfl,rfl⟩;rw[ht]))
  go_ret
  refine⟨?_,alcB _ _⟩
  first|exact ret_bool HX.out.symm|(rw[HX.out];simp[hc,ht,hr0])
 by_cases k5:kind=5
 ·subst k5
  cases hc:clientB client
  ·
   have HX:Hid (chgB ⟨5,client,tag,query,page,rows,n⟩=false):=by show _=_;simp[chgB,kindB,noQB,noRowsB,noNB,cursorB,hc]
   go_enter Tryz.func29,Tryz.ntmps29
   go_wp2_with (first|(go_at_call 60;refine(HQ.out _).mono ?_;rintro e w2 ⟨rfl,rfl⟩;rw[hq])|(go_at_call 61;refine(HP.out _).mono ?_;rintro e w2 ⟨rfl,rfl⟩;rw[hp])|(go_at_call 62;refine HR.out.mono ?_;rintro e w2 ⟨rfl,rfl⟩;rw[hr])|(go_at_call 63;refine(HC.out _).mono ?_;rintro e w2 ⟨rfl,rfl⟩;rw[hc])|(go_at_call 64;refine(HT.out _).mono ?_;rintro e w2 ⟨rfl,rfl⟩;rw[ht]))
   go_ret
   refine⟨?_,alcB _ _⟩
   first|exact ret_bool HX.out.symm|(rw[HX.out];simp[hc])
  cases ht:tagB tag
  ·
   have HX:Hid (chgB ⟨5,client,tag,query,page,rows,n⟩=false):=by show _=_;simp[chgB,kindB,noQB,noRowsB,noNB,cursorB,hc,ht]
   go_enter Tryz.func29,Tryz.ntmps29
   go_wp2_with (first|(go_at_call 60;refine(HQ.out _).mono ?_;rintro e w2 ⟨rfl,rfl⟩;rw[hq])|(go_at_call 61;refine(HP.out _).mono ?_;rintro e w2 ⟨rfl,rfl⟩;rw[hp])|(go_at_call 62;refine HR.out.mono ?_;rintro e w2 ⟨rfl,rfl⟩;rw[hr])|(go_at_call 63;refine(HC.out _).mono ?_;rintro e w2 ⟨rfl,rfl⟩;rw[hc])|(go_at_call 64;refine(HT.out _).mono ?_;rintro e w2 ⟨rfl,rfl⟩;rw[ht]))
   go_ret
   refine⟨?_,alcB _ _⟩
   first|exact ret_bool HX.out.symm|(rw[HX.out];simp[hc,ht])
  by_cases hq0:query.size=0
  rotate_left
  ·obtain⟨q1,q2,q3⟩:=empty_no hq0
   have HX:Hid (chgB ⟨5,client,tag,query,page,rows,n⟩=false):=by show _=_;simp[chgB,kindB,noQB,noRowsB,noNB,cursorB,hc,ht,hq0]
   clear hq0 q1
   go_enter Tryz.func29,Tryz.ntmps29
   go_wp2_with (first|(go_at_call 60;refine(HQ.out _).mono ?_;rintro e w2 ⟨rfl,rfl⟩;rw[hq])|(go_at_call 61;refine(HP.out _).mono ?_;rintro e w2 ⟨rfl,rfl⟩;rw[hp])|(go_at_call 62;refine HR.out.mono ?_;rintro e w2 ⟨rfl,rfl⟩;rw[hr])|(go_at_call 63;refine(HC.out _).mono ?_;rintro e w2 ⟨rfl,rfl⟩;rw[hc])|(go_at_call 64;refine(HT.out _).mono ?_;rintro e w2 ⟨rfl,rfl⟩;rw[ht]))
   go_ret
   refine⟨?_,alcB _ _⟩
   first|exact ret_bool HX.out.symm|(rw[HX.out];simp[hc,ht,hq0])
  obtain⟨q1,q2,q3⟩:=empty_yes hq0
  have HQ0:=hide hq0
  clear hq0 q1
  by_cases hp0:page=0
  rotate_left
  ·
   have HX:Hid (chgB ⟨5,client,tag,query,page,rows,n⟩=false):=by show _=_;simp[chgB,kindB,noQB,noRowsB,noNB,cursorB,hc,ht,HQ0.out,hp0]
   go_enter Tryz.func29,Tryz.ntmps29
   go_wp2_with (first|(go_at_call 60;refine(HQ.out _).mono ?_;rintro e w2 ⟨rfl,rfl⟩;rw[hq])|(go_at_call 61;refine(HP.out _).mono ?_;rintro e w2 ⟨rfl,rfl⟩;rw[hp])|(go_at_call 62;refine HR.out.mono ?_;rintro e w2 ⟨rfl,rfl⟩;rw[hr])|(go_at_call 63;refine(HC.out _).mono ?_;rintro e w2 ⟨rfl,rfl⟩;rw[hc])|(go_at_call 64;refine(HT.out _).mono ?_;rintro e w2 ⟨rfl,rfl⟩;rw[ht]))
   go_ret
   refine⟨?_,alcB _ _⟩
   first|exact ret_bool HX.out.symm|(rw[HX.out];simp[hc,ht,hp0])
  subst hp0
  by_cases hr0:rows.length=0
  rotate_left
  ·
   have hr0':¬((rows.length:Nat):Int)=0:=by omega
   have HX:Hid (chgB ⟨5,client,tag,query,0,rows,n⟩=false):=by show _=_;simp[chgB,kindB,noQB,noRowsB,noNB,cursorB,hc,ht,HQ0.out,hr0]
   go_enter Tryz.func29,Tryz.ntmps29
   go_wp2_with (first|(go_at_call 60;refine(HQ.out _).mono ?_;rintro e w2 ⟨rfl,rfl⟩;rw[hq])|(go_at_call 61;refine(HP.out _).mono ?_;rintro e w2 ⟨rfl,rfl⟩;rw[hp])|(go_at_call 62;refine HR.out.mono ?_;rintro e w2 ⟨rfl,rfl⟩;rw[hr])|(go_at_call 63;refine(HC.out _).mono ?_;rintro e w2 ⟨rfl,rfl⟩;rw[hc])|(go_at_call 64;refine(HT.out _).mono ?_;rintro e w2 ⟨rfl,rfl⟩;rw[ht]))
   go_ret
   refine⟨?_,alcB _ _⟩
   first|exact ret_bool HX.out.symm|(rw[HX.out];simp[hc,ht,hr0])
  have hr0':((rows.length:Nat):Int)=0:=by omega
  by_cases hn0:n=0
  rotate_left
  ·
   have HX:Hid (chgB ⟨5,client,tag,query,0,rows,n⟩=false):=by show _=_;simp[chgB,kindB,noQB,noRowsB,noNB,cursorB,hc,ht,HQ0.out,hr0,hn0]
   go_enter Tryz.func29,Tryz.ntmps29
   go_wp2_with (first|(go_at_call 60;refine(HQ.out _).mono ?_;rintro e w2 ⟨rfl,rfl⟩;rw[hq])|(go_at_call 61;refine(HP.out _).mono ?_;rintro e w2 ⟨rfl,rfl⟩;rw[hp])|(go_at_call 62;refine HR.out.mono ?_;rintro e w2 ⟨rfl,rfl⟩;rw[hr])|(go_at_call 63;refine(HC.out _).mono ?_;rintro e w2 ⟨rfl,rfl⟩;rw[hc])|(go_at_call 64;refine(HT.out _).mono ?_;rintro e w2 ⟨rfl,rfl⟩;rw[ht]))
   go_ret
   refine⟨?_,alcB _ _⟩
   first|exact ret_bool HX.out.symm|(rw[HX.out];simp[hc,ht,hr0,hn0])
  subst hn0
  have HX:Hid (chgB ⟨5,client,tag,query,0,rows,0⟩=true):=by show _=_;simp[chgB,kindB,noQB,noRowsB,noNB,cursorB,hc,ht,HQ0.out,hr0]
  go_enter Tryz.func29,Tryz.ntmps29
  go_wp2_with (first|(go_at_call 60;refine(HQ.out _).mono ?_;rintro e w2 ⟨rfl,rfl⟩;rw[hq])|(go_at_call 61;refine(HP.out _).mono ?_;rintro e w2 ⟨rfl,rfl⟩;rw[hp])|(go_at_call 62;refine HR.out.mono ?_;rintro e w2 ⟨rfl,rfl⟩;rw[hr])|(go_at_call 63;refine(HC.out _).mono ?_;rintro e w2 ⟨rfl,rfl⟩;rw[hc])|(go_at_call 64;refine(HT.out _).mono ?_;rintro e w2 ⟨rfl,rfl⟩;rw[ht]))
  go_ret
  refine⟨?_,alcB _ _⟩
  first|exact ret_bool HX.out.symm|(rw[HX.out];simp[hc,ht,hr0])
 by_cases k6:kind=6
 ·subst k6
  cases hc:clientB client
  ·
   have HX:Hid (chgB ⟨6,client,tag,query,page,rows,n⟩=false):=by show _=_;simp[chgB,kindB,noQB,noRowsB,noNB,cursorB,hc]
   go_enter Tryz.func29,Tryz.ntmps29
   go_wp2_with (first|(go_at_call 60;refine(HQ.out _).mono ?_;rintro e w2 ⟨rfl,rfl⟩;rw[hq])|(go_at_call 61;refine(HP.out _).mono ?_;rintro e w2 ⟨rfl,rfl⟩;rw[hp])|(go_at_call 62;refine HR.out.mono ?_;rintro e w2 ⟨rfl,rfl⟩;rw[hr])|(go_at_call 63;refine(HC.out _).mono ?_;rintro e w2 ⟨rfl,rfl⟩;rw[hc])|(go_at_call 64;refine(HT.out _).mono ?_;rintro e w2 ⟨rfl,rfl⟩;rw[ht]))
   go_ret
   refine⟨?_,alcB _ _⟩
   first|exact ret_bool HX.out.symm|(rw[HX.out];simp[hc])
  cases ht:tagB tag
  ·
   have HX:Hid (chgB ⟨6,client,tag,query,page,rows,n⟩=false):=by show _=_;simp[chgB,kindB,noQB,noRowsB,noNB,cursorB,hc,ht]
   go_enter Tryz.func29,Tryz.ntmps29
   go_wp2_with (first|(go_at_call 60;refine(HQ.out _).mono ?_;rintro e w2 ⟨rfl,rfl⟩;rw[hq])|(go_at_call 61;refine(HP.out _).mono ?_;rintro e w2 ⟨rfl,rfl⟩;rw[hp])|(go_at_call 62;refine HR.out.mono ?_;rintro e w2 ⟨rfl,rfl⟩;rw[hr])|(go_at_call 63;refine(HC.out _).mono ?_;rintro e w2 ⟨rfl,rfl⟩;rw[hc])|(go_at_call 64;refine(HT.out _).mono ?_;rintro e w2 ⟨rfl,rfl⟩;rw[ht]))
   go_ret
   refine⟨?_,alcB _ _⟩
   first|exact ret_bool HX.out.symm|(rw[HX.out];simp[hc,ht])
  by_cases hq0:query.size=0
  rotate_left
  ·obtain⟨q1,q2,q3⟩:=empty_no hq0
   have HX:Hid (chgB ⟨6,client,tag,query,page,rows,n⟩=false):=by show _=_;simp[chgB,kindB,noQB,noRowsB,noNB,cursorB,hc,ht,hq0]
   clear hq0 q1
   go_enter Tryz.func29,Tryz.ntmps29
   go_wp2_with (first|(go_at_call 60;refine(HQ.out _).mono ?_;rintro e w2 ⟨rfl,rfl⟩;rw[hq])|(go_at_call 61;refine(HP.out _).mono ?_;rintro e w2 ⟨rfl,rfl⟩;rw[hp])|(go_at_call 62;refine HR.out.mono ?_;rintro e w2 ⟨rfl,rfl⟩;rw[hr])|(go_at_call 63;refine(HC.out _).mono ?_;rintro e w2 ⟨rfl,rfl⟩;rw[hc])|(go_at_call 64;refine(HT.out _).mono ?_;rintro e w2 ⟨rfl,rfl⟩;rw[ht]))
   go_ret
   refine⟨?_,alcB _ _⟩
   first|exact ret_bool HX.out.symm|(rw[HX.out];simp[hc,ht,hq0])
  obtain⟨q1,q2,q3⟩:=empty_yes hq0
  have HQ0:=hide hq0
  clear hq0 q1
  by_cases hp0:page=0
  rotate_left
  ·
   have HX:Hid (chgB ⟨6,client,tag,query,page,rows,n⟩=false):=by show _=_;simp[chgB,kindB,noQB,noRowsB,noNB,cursorB,hc,ht,HQ0.out,hp0]
   go_enter Tryz.func29,Tryz.ntmps29
   go_wp2_with (first|(go_at_call 60;refine(HQ.out _).mono ?_;rintro e w2 ⟨rfl,rfl⟩;rw[hq])|(go_at_call 61;refine(HP.out _).mono ?_;rintro e w2 ⟨rfl,rfl⟩;rw[hp])|(go_at_call 62;refine HR.out.mono ?_;rintro e w2 ⟨rfl,rfl⟩;rw[hr])|(go_at_call 63;refine(HC.out _).mono ?_;rintro e w2 ⟨rfl,rfl⟩;rw[hc])|(go_at_call 64;refine(HT.out _).mono ?_;rintro e w2 ⟨rfl,rfl⟩;rw[ht]))
   go_ret
   refine⟨?_,alcB _ _⟩
   first|exact ret_bool HX.out.symm|(rw[HX.out];simp[hc,ht,hp0])
  subst hp0
  by_cases hr0:rows.length=0
  rotate_left
  ·
   have hr0':¬((rows.length:Nat):Int)=0:=by omega
   have HX:Hid (chgB ⟨6,client,tag,query,0,rows,n⟩=false):=by show _=_;simp[chgB,kindB,noQB,noRowsB,noNB,cursorB,hc,ht,HQ0.out,hr0]
   go_enter Tryz.func29,Tryz.ntmps29
   go_wp2_with (first|(go_at_call 60;refine(HQ.out _).mono ?_;rintro e w2 ⟨rfl,rfl⟩;rw[hq])|(go_at_call 61;refine(HP.out _).mono ?_;rintro e w2 ⟨rfl,rfl⟩;rw[hp])|(go_at_call 62;refine HR.out.mono ?_;rintro e w2 ⟨rfl,rfl⟩;rw[hr])|(go_at_call 63;refine(HC.out _).mono ?_;rintro e w2 ⟨rfl,rfl⟩;rw[hc])|(go_at_call 64;refine(HT.out _).mono ?_;rintro e w2 ⟨rfl,rfl⟩;rw[ht]))
   go_ret
   refine⟨?_,alcB _ _⟩
   first|exact ret_bool HX.out.symm|(rw[HX.out];simp[hc,ht,hr0])
  have hr0':((rows.length:Nat):Int)=0:=by omega
  by_cases hn0:n=0
  rotate_left
  ·
   have HX:Hid (chgB ⟨6,client,tag,query,0,rows,n⟩=false):=by show _=_;simp[chgB,kindB,noQB,noRowsB,noNB,cursorB,hc,ht,HQ0.out,hr0,hn0]
   go_enter Tryz.func29,Tryz.ntmps29
   go_wp2_with (first|(go_at_call 60;refine(HQ.out _).mono ?_;rintro e w2 ⟨rfl,rfl⟩;rw[hq])|(go_at_call 61;refine(HP.out _).mono ?_;rintro e w2 ⟨rfl,rfl⟩;rw[hp])|(go_at_call 62;refine HR.out.mono ?_;rintro e w2 ⟨rfl,rfl⟩;rw[hr])|(go_at_call 63;refine(HC.out _).mono ?_;rintro e w2 ⟨rfl,rfl⟩;rw[hc])|(go_at_call 64;refine(HT.out _).mono ?_;rintro e w2 ⟨rfl,rfl⟩;rw[ht]))
   go_ret
   refine⟨?_,alcB _ _⟩
   first|exact ret_bool HX.out.symm|(rw[HX.out];simp[hc,ht,hr0,hn0])
  subst hn0
  have HX:Hid (chgB ⟨6,client,tag,query,0,rows,0⟩=true):=by show _=_;simp[chgB,kindB,noQB,noRowsB,noNB,cursorB,hc,ht,HQ0.out,hr0]
  go_enter Tryz.func29,Tryz.ntmps29
  go_wp2_with (first|(go_at_call 60;refine(HQ.out _).mono ?_;rintro e w2 ⟨rfl,rfl⟩;rw[hq])|(go_at_call 61;refine(HP.out _).mono ?_;rintro e w2 ⟨rfl,rfl⟩;rw[hp])|(go_at_call 62;refine HR.out.mono ?_;rintro e w2 ⟨rfl,rfl⟩;rw[hr])|(go_at_call 63;refine(HC.out _).mono ?_;rintro e w2 ⟨rfl,rfl⟩;rw[hc])|(go_at_call 64;refine(HT.out _).mono ?_;rintro e w2 ⟨rfl,rfl⟩;rw[ht]))
  go_ret
  refine⟨?_,alcB _ _⟩
  first|exact ret_bool HX.out.symm|(rw[HX.out];simp[hc,ht,hr0])
 have HX:Hid (chgB ⟨kind,client,tag,query,page,rows,n⟩=false):=by show _=_;simp[chgB,kindB,noQB,noRowsB,noNB,cursorB,k1,k2,k4,k3,k5,k6]
 go_enter Tryz.func29,Tryz.ntmps29
 go_wp2_with (first|(go_at_call 60;refine(HQ.out _).mono ?_;rintro e w2 ⟨rfl,rfl⟩;rw[hq])|(go_at_call 61;refine(HP.out _).mono ?_;rintro e w2 ⟨rfl,rfl⟩;rw[hp])|(go_at_call 62;refine HR.out.mono ?_;rintro e w2 ⟨rfl,rfl⟩;rw[hr])|(go_at_call 63;refine(HC.out _).mono ?_;rintro e w2 ⟨rfl,rfl⟩;rw[hc])|(go_at_call 64;refine(HT.out _).mono ?_;rintro e w2 ⟨rfl,rfl⟩;rw[ht]))
 go_ret
 refine⟨?_,alcB _ _⟩
 first|exact ret_bool HX.out.symm|(rw[HX.out];simp[k1,k2,k4,k3,k5,k6])
end Go.Proofs.YtglcdcekkglmiaaGreatDoor.Msg
