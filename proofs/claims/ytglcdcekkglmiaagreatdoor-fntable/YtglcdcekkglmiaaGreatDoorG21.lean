import Derived.Test.YtglcdcekkglmiaaGreatDoorG20
import Derived.Test.YtglcdcekkglmiaaGreatDoorG17
import Derived.Test.YtglcdcekkglmiaaGreatDoorG12
import Derived.Deep.LoopGhost
import Derived.Deep.DeepCutAuto
namespace Go.Proofs.YtglcdcekkglmiaaGreatDoor.Msg
open Go.ChangeShapes Go.WideShapes Go.ChangeAt Go.RowKit
set_option linter.unusedVariables false
set_option linter.unusedSimpArgs false
def stepS (s:Sess) (c:Chg):Except Int Sess :=
 if c.kind=2 then (if s.state=1 then (if 200<s.rows.length+c.rows.length then .error 4 else .ok { s with rows:=s.rows++c.rows }) else .error 3)
 else if c.kind=3 then (if s.state=1 then .ok { s with state:=2 } else .error 3)
 else if c.kind=4 then (if s.state=2 then (if (s.rows.length:Int)<c.n then .error 4 else .ok { s with cursor:=c.n }) else .error 3)
 else if c.kind=5 then (if s.state=1 then .ok ⟨s.client,s.tag,s.query,s.page,3,[],0⟩ else .error 3)
 else (if liveB s.state=true then .ok ⟨s.client,s.tag,s.query,s.page,4,[],0⟩ else .error 3)
def atP (xs:List Sess) (i:Nat):Except Int Sess→List Sess × Int
 | .ok s=>(xs.set i s,0)
 | .error k=>(xs,k)
def applyP (xs:List Sess) (c:Chg):List Sess × Int :=
 if tblB xs=true∧chgB c=true then
  (if c.kind=1 then openP xs c else match xs.findIdx? (keyB c.client c.tag) with
   | some i=>atP xs i (stepS (xs.getD i sess0) c)
   | none=>(xs,3))
 else ([],9)
theorem bnd_sz {lo hi:Nat} {s:ByteArray} (h:boundB lo hi s=true):s.size≤hi:=by
 unfold boundB at h
 simp only[Bool.and_eq_true,decide_eq_true_eq] at h
 omega
theorem sess_sm {s:Sess} (h:sessB s=true):SmS s:=by
 unfold sessB at h
 simp only[Bool.and_eq_true] at h
 obtain⟨⟨_,h1,h2,_,h3⟩,_⟩:=h
 have a1:=bnd_sz h1
 have a2:=bnd_sz h2
 obtain⟨a3,a4⟩:=rowsB_size h3
 exact⟨by omega,by omega,by omega,fun r hr=>by have:=a4 r hr;omega⟩
theorem tbl_sm {xs:List Sess} (h:tblB xs=true):xs.length≤16∧∀s∈xs,SmS s:=by
 unfold tblB at h
 simp only[Bool.and_eq_true,decide_eq_true_eq] at h
 refine⟨h.1,fun s hs=>?_⟩
 obtain⟨i,hi,rfl⟩:=List.mem_iff_getElem.1 hs
 exact sess_sm (h.2 i hi).1
theorem chg_kinds {c:Chg} (h:chgB c=true):c.kind=1∨c.kind=2∨c.kind=3∨c.kind=4∨c.kind=5∨c.kind=6:=by
 unfold chgB kindB at h
 simp only[Bool.and_eq_true] at h
 have h2:=h.2
 by_cases k1:c.kind=1
 ·exact .inl k1
 by_cases k2:c.kind=2
 ·exact .inr (.inl k2)
 by_cases k4:c.kind=4
 ·exact .inr (.inr (.inr (.inl k4)))
 by_cases k3:c.kind=3∨c.kind=5∨c.kind=6
 ·rcases k3 with h|h|h
  ·exact .inr (.inr (.inl h))
  ·exact .inr (.inr (.inr (.inr (.inl h))))
  ·exact .inr (.inr (.inr (.inr (.inr h))))
 ·rw[if_neg k1,if_neg k2,if_neg k4,if_neg k3] at h2
  cases h2
theorem chg_rows {c:Chg} (h:chgB c=true):c.rows.length≤200∧∀r∈c.rows,r.size≤200:=by
 unfold chgB kindB at h
 simp only[Bool.and_eq_true] at h
 have h2:=h.2
 have nil:noRowsB c=true→c.rows.length≤200∧∀r∈c.rows,r.size≤200:=fun hh=>by
  unfold noRowsB at hh
  simp only[decide_eq_true_eq] at hh
  have e:=List.eq_nil_of_length_eq_zero hh
  rw[e]
  exact⟨by simp,by simp⟩
 by_cases k1:c.kind=1
 ·rw[if_pos k1] at h2
  simp only[Bool.and_eq_true] at h2
  exact nil h2.2.1
 rw[if_neg k1] at h2
 by_cases k2:c.kind=2
 ·rw[if_pos k2] at h2
  simp only[Bool.and_eq_true] at h2
  exact rowsB_size h2.1
 rw[if_neg k2] at h2
 by_cases k4:c.kind=4
 ·rw[if_pos k4] at h2
  simp only[Bool.and_eq_true] at h2
  exact nil h2.2.2
 rw[if_neg k4] at h2
 split at h2
 ·simp only[Bool.and_eq_true] at h2
  exact nil h2.2.1
 ·cases h2
theorem row7 {base:Nat} {X:World} {g n cap:Nat} {ps:List (Sess × Value)} (h:FB tsC 7 41 base X (.slice (some ⟨g,0,none⟩) n cap) ps) (hz:ps.length≤9223372036854775807) (k:Nat) (hk:k<ps.length) :
  g<X.heap.size∧(∀j,j<7→∃c,X.cell? ⟨g,k * 7+j,none⟩=some c)∧∀j,X.frozen? ⟨g,j,none⟩=false:=by
 have hb:=h.blk (b:=g) (by simp[Value.ownBlock])
 obtain⟨cs,hcs⟩:=hb
 have hB:Box X g 41 cs:=hcs
 obtain⟨h0,hA⟩:=FB.at (C:=tsC) (c:=7) (Z:=fun _=>True) tsC_len h hz (fun _ _=>trivial)
 rcases hA with⟨a9,c9,e9,e2⟩|⟨b9,off9,c9,e9,hbb,hA⟩
 ·rw[e2] at hk;simp at hk
 ·injection e9 with e1 _ _
  injection e1 with e1
  injection e1 with e1 e2 _
  subst e1 e2
  refine⟨hbb.2,fun j hj=>?_,fun j=>hB.frozen j⟩
  have:=(hA k hk).1 j (by simp[tsC];exact hj)
  exact⟨_,by simpa using this⟩
def keyV (c:Int) (t:ByteArray):Value:=.agg #[.int .i64 c,.string t]
set_option maxRecDepth 100000 in
set_option maxHeartbeats 2000000 in
theorem skey_any (s:Sess) (a:Option Addr) (n c:Nat) (w:World) :
  Calls Tryz.prog 57 #[sessV s (.slice a n c)] w fun e w'=>e=.returned (keyV s.client s.tag)∧Below w.heap.size w w':=by
 obtain⟨client,tag,query,page,state,rows,cursor⟩:=s
 unfold sessV keyV
 dsimp only
 obtain⟨x2,hx2⟩:∃x,(w.alloc (Obj.cells #[.int .i64 client,.string tag,.string query,.int .i64 page,.int .i64 state,.slice a n c,.int .i64 cursor] 41)).alloc (Obj.cells #[.int .i64 0,.string ⟨#[]⟩] 95)=x:=⟨_,rfl⟩
 have o1:Box x2 w.heap.size 41 #[.int .i64 client,.string tag,.string query,.int .i64 page,.int .i64 state,.slice a n c,.int .i64 cursor]:=by rw[←hx2];exact(Box.new _ _ _).alloc _
 have o2:Box x2 (w.heap.size+1) 95 #[.int .i64 0,.string ⟨#[]⟩]:=by
  have:=Box.new (w.alloc (Obj.cells #[.int .i64 client,.string tag,.string query,.int .i64 page,.int .i64 state,.slice a n c,.int .i64 cursor] 41)) 95 #[.int .i64 0,.string ⟨#[]⟩]
  rw[Deep.nblk_alloc,hx2] at this
  exact this
 have hb:Below w.heap.size w x2:=by
  rw[←hx2]
  have h1:=(Below.refl w.heap.size w).alloc (leR _) (Obj.cells #[.int .i64 client,.string tag,.string query,.int .i64 page,.int .i64 state,.slice a n c,.int .i64 cursor] 41)
  exact h1.alloc h1.size _
 have d0:x2.cell? ⟨w.heap.size,0,none⟩=some (.int .i64 client):=o1.cell 0 (by simp)
 have d1:x2.cell? ⟨w.heap.size,1,none⟩=some (.string tag):=o1.cell 1 (by simp)
 have z0:x2.cell? ⟨w.heap.size+1,0,none⟩=some (.int .i64 0):=o2.cell 0 (by simp)
 have z1:x2.cell? ⟨w.heap.size+1,1,none⟩=some (.string ⟨#[]⟩):=o2.cell 1 (by simp)
 have f0:=o2.frozen 0
 have f1:=o2.frozen 1
 have zl:=o2.lt
 have HB:=hide (fun x y=>(hb.setCell (p:=⟨w.heap.size+1,0,none⟩) (Nat.le_succ _) x).setCell (p:=⟨w.heap.size+1,1,none⟩) (Nat.le_succ _) y)
 have HX:=hide hx2
 clear o1 o2 hb hx2
 go_enter Tryz.func57,Tryz.ntmps57
 go_upto_region 1 with fail
 (try rw[HX.out])
 go_wp2_with fail
 exact bodyPost_ret (v:=.agg #[.int .i64 client,.string tag]) (by simp[results,Tryz.results57,go_sem,z0,z1,zl]) rfl ⟨rfl,HB.out _ _⟩
set_option maxRecDepth 100000 in
set_option maxHeartbeats 2000000 in
theorem ckey_any (s:Chg) (a:Option Addr) (n c:Nat) (w:World) :
  Calls Tryz.prog 87 #[chgV s (.slice a n c)] w fun e w'=>e=.returned (keyV s.client s.tag)∧Below w.heap.size w w':=by
 obtain⟨kind,client,tag,query,page,rows,n0⟩:=s
 unfold chgV keyV
 dsimp only
 obtain⟨x2,hx2⟩:∃x,(w.alloc (Obj.cells #[.int .i64 kind,.int .i64 client,.string tag,.string query,.int .i64 page,.slice a n c,.int .i64 n0] 28)).alloc (Obj.cells #[.int .i64 0,.string ⟨#[]⟩] 95)=x:=⟨_,rfl⟩
 have o1:Box x2 w.heap.size 28 #[.int .i64 kind,.int .i64 client,.string tag,.string query,.int .i64 page,.slice a n c,.int .i64 n0]:=by rw[←hx2];exact(Box.new _ _ _).alloc _
 have o2:Box x2 (w.heap.size+1) 95 #[.int .i64 0,.string ⟨#[]⟩]:=by
  have:=Box.new (w.alloc (Obj.cells #[.int .i64 kind,.int .i64 client,.string tag,.string query,.int .i64 page,.slice a n c,.int .i64 n0] 28)) 95 #[.int .i64 0,.string ⟨#[]⟩]
  rw[Deep.nblk_alloc,hx2] at this
  exact this
 have hb:Below w.heap.size w x2:=by
  rw[←hx2]
  have h1:=(Below.refl w.heap.size w).alloc (leR _) (Obj.cells #[.int .i64 kind,.int .i64 client,.string tag,.string query,.int .i64 page,.slice a n c,.int .i64 n0] 28)
  exact h1.alloc h1.size _
 have d0:x2.cell? ⟨w.heap.size,1,none⟩=some (.int .i64 client):=o1.cell 1 (by simp)
 have d1:x2.cell? ⟨w.heap.size,2,none⟩=some (.string tag):=o1.cell 2 (by simp)
 have z0:x2.cell? ⟨w.heap.size+1,0,none⟩=some (.int .i64 0):=o2.cell 0 (by simp)
 have z1:x2.cell? ⟨w.heap.size+1,1,none⟩=some (.string ⟨#[]⟩):=o2.cell 1 (by simp)
 have f0:=o2.frozen 0
 have f1:=o2.frozen 1
 have zl:=o2.lt
 have HB:=hide (fun x y=>(hb.setCell (p:=⟨w.heap.size+1,0,none⟩) (Nat.le_succ _) x).setCell (p:=⟨w.heap.size+1,1,none⟩) (Nat.le_succ _) y)
 have HX:=hide hx2
 clear o1 o2 hb hx2
 go_enter Tryz.func87,Tryz.ntmps87
 go_upto_region 1 with fail
 (try rw[HX.out])
 go_wp2_with fail
 exact bodyPost_ret (v:=.agg #[.int .i64 client,.string tag]) (by simp[results,Tryz.results87,go_sem,z0,z1,zl]) rfl ⟨rfl,HB.out _ _⟩
set_option maxHeartbeats 2000000 in
theorem isLive_any (s:Sess) (a:Option Addr) (n c:Nat) (w:World) :
  Calls Tryz.prog 103 #[sessV s (.slice a n c)] w fun e w'=>e=.returned (.bool (liveB s.state))∧Below w.heap.size w w':=by
 obtain⟨client,tag,query,page,state,rows,cursor⟩:=s
 unfold sessV
 dsimp only
 have HB:=hide ((Below.refl w.heap.size w).alloc (leR _) (Obj.cells #[.int .i64 client,.string tag,.string query,.int .i64 page,.int .i64 state,.slice a n c,.int .i64 cursor] 41))
 by_cases h1:state=1
 ·subst h1
  go_enter Tryz.func103,Tryz.ntmps103
  go_wp2_with fail
  go_ret
  exact⟨rfl,HB.out⟩
 ·have h1b:(state == 1)=false:=by simpa using h1
  by_cases h2:state=2
  ·subst h2
   go_enter Tryz.func103,Tryz.ntmps103
   go_wp2_with fail
   go_ret
   exact⟨rfl,HB.out⟩
  ·have h2b:(state == 2)=false:=by simpa using h2
   have HX:Hid (liveB state=false):=by show _=_;unfold liveB;rw[decide_eq_false h1,decide_eq_false h2];rfl
   go_enter Tryz.func103,Tryz.ntmps103
   go_wp2_with fail
   go_ret
   exact⟨ret_bool HX.out.symm,HB.out⟩
theorem tflat_one {xs:List ByteArray}:∀u∈flat tC xs,u.oneCell'=true:=fun u hu=>by
 simp only[flat,List.mem_flatten,List.mem_map] at hu
 obtain⟨l,⟨x,_,rfl⟩,hu⟩:=hu
 rw[List.mem_singleton.1 hu]
 rfl
set_option maxRecDepth 100000 in
theorem appT {w:World} {xs:List ByteArray} {a:Addr} {cap lo:Nat} (hv:StrsAt lo w (.slice (some a) xs.length cap) xs) (hl:xs.length≤100000) (ty:TypeId) :
  ∃v' w',(Builtin.append_ #[26,26] ty #[.slice (some ⟨w.heap.size,0,none⟩) 0 0,.slice (some a) xs.length cap]).run Tryz.prog (w.alloc (.cells #[] 9))=.ok v' w'∧FB tC 1 9 w.heap.size w' v' xs∧Below w.heap.size w w':=by
 obtain⟨i0,hi,hz0,hz1,hz2⟩:=info_parts tinfo
 have hb:Below w.heap.size w (w.alloc (.cells #[] 9)):=alcB _ _
 have hnews:∀j u,(flat tC xs)[j]?=some u→(w.alloc (.cells #[] 9)).cell? (a.add j)=some u:=fun j u hu=>by
  have hj:j<xs.length:=by
   by_cases hj:j<(flat tC xs).length
   ·rw[flat_len (c:=1) (fun _=>rfl)] at hj;omega
   ·rw[List.getElem?_eq_none (by omega)] at hu;cases hu
  obtain⟨_,_,e0,hc⟩:=At.form hv
  injection e0 with e0 _ _
  obtain⟨b,off,e,_,hlt,hel,_⟩:=hc j hj
  rw[←e0] at e
  have e9:=Option.some.inj e
  subst e9
  have h2:=flat_get (C:=tC) (c:=1) (fun _=>rfl) xs j 0 hj (by omega)
  rw[show j * 1+0=j by omega,hu] at h2
  have h2:=Option.some.inj h2
  have e2:((⟨b,off,none⟩:Addr).add j)=⟨b,off+j,none⟩:=by
   simp only[Addr.add]
   by_cases h0:j=0
   ·subst h0;simp
   ·rw[if_neg h0]
  rw[e2,hb.cell (p:=⟨b,off+j,none⟩) hlt,h2]
  simpa [tC] using hel
 obtain⟨v',w',hr,ho,hg,_,_⟩:=run_append_own_at (P:=Tryz.prog) (w:=w.alloc (.cells #[] 9)) w.heap.size 26 ty 9 i0 _ 1 16 Tryz.underlying26 hi hz0 hz1 hz2 rfl (by decide) (.slice (some ⟨w.heap.size,0,none⟩) 0 0) 0 [] (FB.lit tC 1 9 w) a xs.length cap (flat tC xs) (by rw[flat_len (c:=1) (fun _=>rfl)]) hnews tflat_one (by unfold maxLen;omega) (by omega) (by rw[Deep.nblk_alloc];omega)
 refine⟨v',w',hr,?_,hb.trans ⟨hg.os,hg.tape,hg.output,hg.size,fun k hk=>hg.block k (by rw[Deep.nblk_alloc];omega) fun e=>?_⟩⟩
 ·unfold FB
  rw[Nat.zero_add,List.nil_append] at ho
  exact ho
 ·simp[Value.ownBlock] at e
  omega
set_option maxRecDepth 100000 in
set_option maxHeartbeats 2000000 in
theorem cloneT_any (xs:List ByteArray) (v:Value) (w:World) {lo:Nat} (hv:StrsAt lo w v xs) (hl:xs.length≤100000) :
  Calls Tryz.prog 58 #[v] w fun en w'=>∃u,en=.returned u∧FB tC 1 9 w.heap.size w' u xs∧Below w.heap.size w w':=by
 obtain⟨a,cap,rfl,hc⟩:=At.form hv
 cases a with
 | none =>
  have:xs=[]:=by
   cases xs with
   | nil=>rfl
   | cons x l=>obtain⟨b,off,e,_⟩:=hc 0 (by simp);cases e
  subst this
  clear hc hv
  have he:∀w:World,(binOp .eql 26 (.slice none 0 cap) (.slice none 0 0)).run Tryz.prog w=.ok (.bool true) w:=fun _=>rfl
  simp only[List.length_nil]
  go_enter Tryz.func58,Tryz.ntmps58
  go_wp2_with fail
  go_ret
  exact⟨_,rfl,FB.nil _ _ _ _ _,Below.refl _ _⟩
 | some a =>
  obtain⟨v',w',hr,hF,hb⟩:=appT hv hl 26
  have HF:=hide (And.intro hF hb)
  clear hc hv hF hb
  have he:∀w:World,(binOp .eql 26 (.slice (some a) xs.length cap) (.slice none 0 0)).run Tryz.prog w=.ok (.bool false) w:=fun _=>rfl
  go_enter Tryz.func58,Tryz.ntmps58
  go_wp2_with (first|(at_builtin;refine wpList_app rfl _ _ 26 rfl hr (by first|rfl|simp[Act.eval,Act.put]) (by first|rfl|simp[Act.eval,Act.put]) ?_))
  go_ret
  exact⟨_,rfl,HF.out.1,HF.out.2⟩
def pC (b:Nat):List Value:=[.pointer (some ⟨b,0,none⟩)]
def keyF (ps:List (Sess × Value)) (bs:List Nat) (c:Int) (t:ByteArray):Option Nat:=((ps.zip bs).find? fun q=>decide (q.1.1.client=c) && decide (q.1.1.tag=t)).map Prod.snd
theorem keyF_snoc {ps:List (Sess × Value)} {bs:List Nat} (hl:bs.length=ps.length) (p:Sess × Value) (b:Nat) (hn:keyF ps bs p.1.client p.1.tag=none):keyF (ps++[p]) (bs++[b])=fun j t=>if j=p.1.client∧t=p.1.tag then some b else keyF ps bs j t:=by
 funext j t
 unfold keyF at hn ⊢
 rw[List.zip_append (by omega),List.find?_append]
 by_cases h:j=p.1.client∧t=p.1.tag
 ·rw[if_pos h]
  obtain⟨rfl,rfl⟩:=h
  rw[Option.map_eq_none_iff] at hn
  rw[hn]
  simp
 ·rw[if_neg h]
  have e:(List.find? (fun q:(Sess × Value) × Nat=>decide (q.1.1.client=j) && decide (q.1.1.tag=t)) ([p].zip [b]))=none:=by
   rw[List.find?_eq_none]
   intro x hx
   simp at hx
   subst hx
   simp
   intro e1 e2
   exact h ⟨e1.symm,e2.symm⟩
  rw[e,Option.or_none]
theorem pinfo:(Tryz.prog.info? 84).map (fun i=>(i.zero,i.size,i.bytes))=some (some (.pointer none),1,8):=by kernel_rfl
structure BK (base:Nat) (X:World) (K M:Nat) (ov:Value) (n:Nat) (ps:List (Sess × Value)) (bs:List Nat):Prop where
 box:Box X K 83 #[ov,.map (some M)]
 row:FB pC 1 84 base X ov bs
 map:MapF X M n (keyF ps bs)
 len:bs.length=ps.length
 ses:∀i (h1:i<ps.length) (h2:i<bs.length),Box X bs[i] 41 (tsC ps[i]).toArray
 lob:∀b∈bs,base≤b
 nb:bs.Nodup
 els:∀p∈ps,SmS p.1∧FB tC 1 9 base X p.2 p.1.rows
 nd:((ps.map (·.2)).filterMap Value.ownBlock).Nodup
 lows:base≤K∧base≤M
def BIn (K M:Nat) (ov:Value) (ps:List (Sess × Value)) (bs:List Nat) (b:Nat):Prop:=b=K∨b=M∨ov.ownBlock=some b∨b∈bs∨∃p∈ps,p.2.ownBlock=some b
structure Ft (S:Nat→Prop) (w:World) (S':Nat→Prop) (w':World):Prop where
 size:w.heap.size≤w'.heap.size
 out:∀d,d<w.heap.size→¬S d→w'.heap[d]?=w.heap[d]?
 grow:∀d,S' d→S d∨w.heap.size≤d
theorem Ft.below {S:Nat→Prop} {w w':World} (h:Below w.heap.size w w'):Ft S w S w':=⟨h.size,fun d hd _=>h.block d hd,fun _ hd=>.inl hd⟩
theorem Ft.trans {S S1 S2:Nat→Prop} {w w1 w2:World} (h:Ft S w S1 w1) (k:Ft S1 w1 S2 w2):Ft S w S2 w2 :=
 ⟨Nat.le_trans h.size k.size,fun d hd hn=>(k.out d (Nat.lt_of_lt_of_le hd h.size) fun h1=>by
  rcases h.grow d h1 with h2|h2
  ·exact hn h2
  ·omega).trans (h.out d hd hn),fun d hd=>by
  rcases k.grow d hd with h1|h1
  ·exact h.grow d h1
  ·exact .inr (Nat.le_trans h.size h1)⟩
theorem Ft.wide {S T S':Nat→Prop} {w w':World} (h:Ft T w S' w') (hS:∀d,T d→S d∨w.heap.size≤d):Ft S w S' w' :=
 ⟨h.size,fun d hd hn=>h.out d hd fun h1=>by
  rcases hS d h1 with h2|h2
  ·exact hn h2
  ·omega,fun d hd=>by
  rcases h.grow d hd with h1|h1
  ·exact hS d h1
  ·exact .inr h1⟩
section
variable {base:Nat} {X X':World} {K M:Nat} {ov:Value} {n:Nat} {ps:List (Sess × Value)} {bs:List Nat}
theorem BK.keep (h:BK base X K M ov n ps bs) (hb:∀b,BIn K M ov ps bs b→X'.heap[b]?=X.heap[b]?):BK base X' K M ov n ps bs :=
 ⟨h.box.keep (hb K (.inl rfl)),h.row.keep fun b hb'=>hb b (.inr (.inr (.inl (by simpa using hb')))),h.map.keep (hb M (.inr (.inl rfl))),h.len,fun i h1 h2=>(h.ses i h1 h2).keep (hb _ (.inr (.inr (.inr (.inl (List.getElem_mem h2)))))),h.lob,h.nb,fun p hp=>⟨(h.els p hp).1,(h.els p hp).2.keep fun b hb'=>hb b (.inr (.inr (.inr (.inr ⟨p,hp,by simpa using hb'⟩))))⟩,h.nd,h.lows⟩
theorem BK.own (h:BK base X K M ov n ps bs) {b:Nat} (hb:BIn K M ov ps bs b):base≤b∧b<X.heap.size:=by
 rcases hb with rfl|rfl|hb|hb|⟨p,hp,hb⟩
 ·exact⟨h.lows.1,h.box.lt⟩
 ·exact⟨h.lows.2,h.map.lt⟩
 ·exact h.row.own b (by rw[hb];simp)
 ·obtain⟨i,hi,rfl⟩:=List.mem_iff_getElem.1 hb
  exact⟨h.lob _ hb,(h.ses i (by rw[←h.len];exact hi) hi).lt⟩
 ·exact(h.els p hp).2.own b (by rw[hb];simp)
theorem BK.below (h:BK base X K M ov n ps bs) (hb:Below X.heap.size X X'):BK base X' K M ov n ps bs:=h.keep fun b hi=>hb.block b (h.own hi).2
theorem BK.rowBlk (h:BK base X K M ov n ps bs) {b:Nat} (hb:ov.ownBlock=some b):∃cs,X.heap[b]?=some (.cells cs 84 (0,0)):=h.row.blk hb
end
theorem blk_ne {X:World} {a b:Nat} {cs ds:Array Value} {t u:TypeId} (ha:X.heap[a]?=some (.cells cs t (0,0))) (hb:X.heap[b]?=some (.cells ds u (0,0))) (h:t≠u):a≠b:=fun e=>by
 rw[e,hb] at ha
 injection ha with ha
 injection ha with _ ha _
 exact h ha.symm
theorem MapF.neB {w:World} {M n b:Nat} {f:Int→ByteArray→Option Nat} {t:TypeId} {cs:Array Value} (h:MapF w M n f) (hb:w.heap[b]?=some (.cells cs t (0,0))):b≠M:=h.ne (show Box w b t cs from hb)
set_option maxRecDepth 100000 in
set_option maxHeartbeats 16000000 in
theorem add_any {base:Nat} {w:World} {K M:Nat} {ov:Value} {n:Nat} {ps:List (Sess × Value)} {bs:List Nat} (h:BK base w K M ov n ps bs) (s:Sess) (ar:Option Addr) (cr b:Nat) (hB:Box w b 41 (tsC (s,.slice ar s.rows.length cr)).toArray) (hbb:base≤b) (hnb:b ∉ bs) (hs:SmS s) (hF:FB tC 1 9 base w (.slice ar s.rows.length cr) s.rows)
  (hd:∀d,(Value.slice ar s.rows.length cr).ownBlock=some d→∀q∈ps,q.2.ownBlock≠some d) (hk:keyF ps bs s.client s.tag=none) (hcw:(Lit.int .i64 s.client).wf=true) (hbase:base≤w.heap.size) (hn:n≤100000) (hl:bs.length≤1000) :
  Calls Tryz.prog 59 #[.pointer (some ⟨K,0,none⟩),.pointer (some ⟨b,0,none⟩)] w fun e w'=>e=.returned (.tuple #[])∧(∃ov',BK base w' K M ov' (n+1) (ps++[(s,.slice ar s.rows.length cr)]) (bs++[b])∧Ft (fun d=>BIn K M ov ps bs d∨d=b∨(Value.slice ar s.rows.length cr).ownBlock=some d) w (BIn K M ov' (ps++[(s,.slice ar s.rows.length cr)]) (bs++[b])) w')∧Below base w w':=by
 have HH:=hide h
 have HKN:=hide hk
 have HHB:=hide hB
 have HHF:=hide hF
 have HHD:=hide hd
 obtain⟨ao,co,rfl,_⟩:=h.row.form
 obtain⟨m,hm⟩:∃m,bs.length=m:=⟨_,rfl⟩
 have HM:=hide hm
 rw[hm] at HH hl
 obtain⟨a8,c8,w1,hr8',hF8,ho8,hv8⟩:=row_more (C:=pC) (c:=1) (bytes:=8) (e:=84) Tryz.underlying80 pinfo rfl (by decide) HH.out.row b rfl (fun z hz=>by rw[List.mem_singleton.1 hz];rfl) hbase hm (by omega) (by decide)
 have hr8:(Builtin.append_ #[80,80] 80 #[.slice ao m co,.slice (some ⟨w.heap.size,0,none⟩) 1 1]).run Tryz.prog (w.alloc (.cells #[.pointer (some ⟨b,0,none⟩)] 84))=.ok (.slice a8 (m+1) c8) w1:=hr8'
 have HT1:Hid (∀(d:Nat) (cs:Array Value) (t:TypeId),w.heap[d]?=some (Obj.cells cs t (0,0))→t≠84→w1.heap[d]?=w.heap[d]?):=fun d cs t hdd ht=>ho8.block d (by rcases Nat.lt_or_ge d w.heap.size with h'|h';exact h';rw[Array.getElem?_eq_none h'] at hdd;cases hdd) fun hmm=>by
  obtain⟨cs2,e2⟩:=HH.out.rowBlk (b:=d) (by simpa using hmm)
  exact blk_ne hdd e2 ht rfl
 have HM1:Hid (w1.heap[M]?=w.heap[M]?):=ho8.block M HH.out.map.lt fun hmm=>by
  obtain⟨cs2,e2⟩:=HH.out.rowBlk (b:=M) (by simpa using hmm)
  exact HH.out.map.neB e2 rfl
 have hK1:Box w1 K 83 #[.slice ao m co,.map (some M)]:=HH.out.box.keep (HT1.out K _ _ HH.out.box (by decide))
 obtain⟨Y,hY⟩:∃x,w1.setCell ⟨K,0,none⟩ (.slice a8 (m+1) c8)=x:=⟨_,rfl⟩
 have hKY:Box Y K 83 #[.slice a8 (m+1) c8,.map (some M)]:=by rw[←hY];have:=hK1.set 0 (.slice a8 (m+1) c8);simpa using this
 have HTY:Hid (∀d,d≠K→Y.heap[d]?=w1.heap[d]?):=fun d hdd=>by rw[←hY];exact Deep.blk_setCell_other _ ⟨K,0,none⟩ _ d (by dsimp only;exact hdd)
 have HKN2:Hid (∀(d:Nat) (cs:Array Value) (t:TypeId),w.heap[d]?=some (Obj.cells cs t (0,0))→t≠83→d≠K):=fun d cs t hdd ht=>blk_ne hdd HH.out.box ht
 have HSY:Hid (Y.heap.size=w1.heap.size):=by rw[←hY];exact Deep.nblk_setCell _ _ _
 have HMY:Hid (Y.heap[M]?=w.heap[M]?):=(HTY.out M (fun e=>HH.out.map.ne HH.out.box e.symm)).trans HM1.out
 have HFY:Hid (FB pC 1 84 base Y (.slice a8 (m+1) c8) (bs++[b])):=hF8.keep fun d hdd=>HTY.out d (by
  obtain⟨cs2,e2⟩:=hF8.blk (b:=d) (by simpa using hdd)
  exact blk_ne e2 hK1 (by decide))
 have HBL1:Hid (Below base w Y):=by
  have h1:Below base w w1:=(Below.refl base w).trans (ho8.below hbase fun d hdd=>(HH.out.row.own d hdd).1)
  rw[←hY]
  exact h1.setCell (p:=⟨K,0,none⟩) HH.out.lows.1 _
 have HBY:Hid (Box Y b 41 (tsC (s,.slice ar s.rows.length cr)).toArray):=HHB.out.keep ((HTY.out b (HKN2.out b _ _ HHB.out (by decide))).trans (HT1.out b _ _ HHB.out (by decide)))
 have HKY:=hide hKY
 have k0:w.cell? ⟨K,0,none⟩=some (.slice ao m co):=HH.out.box.cell 0 (by simp)
 have k1:w1.cell? ⟨K,0,none⟩=some (.slice ao m co):=hK1.cell 0 (by simp)
 have kf:w1.frozen? ⟨K,0,none⟩=false:=hK1.frozen 0
 have kl:K<w1.heap.size:=hK1.lt
 have HS1:Hid (w.heap.size≤w1.heap.size):=ho8.size
 have HYE:=hide hY
 have HO8:=hide ho8
 have HV8:=hide hv8
 clear h hB hF hd hk hm hr8' hF8 ho8 hv8 hK1 hKY hY
 go_enter Tryz.func59,Tryz.ntmps59
 go_upto_region 1 with(first|(at_builtin;refine wpList_app rfl _ _ 80 rfl hr8 (by first|rfl|simp[Act.eval,Act.put]) (by first|rfl|simp[Act.eval,Act.put]) ?_))
 (try rw[HYE.out])
 clear k0 k1 kf kl hr8
 obtain⟨client,tag,query,page,state,rows,cursor⟩:=s
 dsimp only at HKN hcw
 obtain⟨nr,hnr⟩:∃q,rows.length=q:=⟨_,rfl⟩
 have HNR:=hide hnr
 have KS:Hid (∀U,Below Y.heap.size Y U→(fun U:World=>U.cell? ⟨K,1,none⟩=some (.map (some M))∧U.cell? ⟨b,0,none⟩=some (.int .i64 client)∧U.cell? ⟨b,1,none⟩=some (.string tag)∧U.cell? ⟨b,2,none⟩=some (.string query)∧U.cell? ⟨b,3,none⟩=some (.int .i64 page)∧U.cell? ⟨b,4,none⟩=some (.int .i64 state)∧U.cell? ⟨b,5,none⟩=some (.slice ar nr cr)∧U.cell? ⟨b,6,none⟩=some (.int .i64 cursor)) U):=fun U hU=>by
  have o1:=HKY.out.below hU
  have o2:=HBY.out.below hU
  dsimp only at o2
  rw[HNR.out] at o2
  exact⟨o1.cell 1 (by simp),o2.cell 0 (by simp[tsC]),o2.cell 1 (by simp[tsC]),o2.cell 2 (by simp[tsC]),o2.cell 3 (by simp[tsC]),o2.cell 4 (by simp[tsC]),o2.cell 5 (by simp[tsC]),o2.cell 6 (by simp[tsC])⟩
 obtain⟨D,hDe⟩:∃D,Y.drew=D:=⟨_,rfl⟩
 have hD:Below Y.heap.size Y D:=by rw[←hDe];exact(Below.refl _ _).drew
 have hSd:(fun U:World=>U.cell? ⟨K,1,none⟩=some (.map (some M))∧U.cell? ⟨b,0,none⟩=some (.int .i64 client)∧U.cell? ⟨b,1,none⟩=some (.string tag)∧U.cell? ⟨b,2,none⟩=some (.string query)∧U.cell? ⟨b,3,none⟩=some (.int .i64 page)∧U.cell? ⟨b,4,none⟩=some (.int .i64 state)∧U.cell? ⟨b,5,none⟩=some (.slice ar nr cr)∧U.cell? ⟨b,6,none⟩=some (.int .i64 cursor)) D:=KS.out D hD
 have HKEY:=hide (skey_any ⟨client,tag,query,page,state,rows,cursor⟩ ar nr cr D)
 unfold sessV keyV at HKEY
 dsimp only at HKEY
 have HMF:Hid (∀U,Below Y.heap.size Y U→MapF U M n (keyF ps bs)):=fun U hU=>HH.out.map.keep ((hU.block M (by have:=HH.out.map.lt;have:=HS1.out;have:=HSY.out;omega)).trans HMY.out)
 refine wp_region_two (fun U:World=>U.cell? ⟨K,1,none⟩=some (.map (some M))∧U.cell? ⟨b,0,none⟩=some (.int .i64 client)∧U.cell? ⟨b,1,none⟩=some (.string tag)∧U.cell? ⟨b,2,none⟩=some (.string query)∧U.cell? ⟨b,3,none⟩=some (.int .i64 page)∧U.cell? ⟨b,4,none⟩=some (.int .i64 state)∧U.cell? ⟨b,5,none⟩=some (.slice ar nr cr)∧U.cell? ⟨b,6,none⟩=some (.int .i64 cursor)) 9 (by kernel_rfl) ?_
 rw[hDe]
 clear hDe
 refine wpTwo_take (i:=0) (some 14) (v:=?v0_1) rfl rfl (by kernel_rfl) (by kernel_rfl) (by kernel_rfl) (by kernel_rfl) (fun _ _ _ h=>h) hSd (Or.inl ⟨by rfl,?hy0_1⟩) ?rest0_1
 case hy0_1=>(intro w hSw;(try dsimp only at hSw);go_simp;try with_reducible rfl)
 try simp only[Act.put,List.setIfInBounds_toArray,List.set_cons_zero,List.set_cons_succ]
 refine wpTwo_take (i:=1) (some 15) (v:=?v1_1) rfl rfl (by kernel_rfl) (by kernel_rfl) (by kernel_rfl) (by kernel_rfl) (fun _ _ _ h=>h) hSd (Or.inl ⟨by rfl,?hy1_1⟩) ?rest1_1
 case hy1_1=>(intro w hSw;(try dsimp only at hSw);go_simp;try with_reducible rfl)
 try simp only[Act.put,List.setIfInBounds_toArray,List.set_cons_zero,List.set_cons_succ]
 refine wpTwo_take (i:=2) (some 16) (v:=?v2_1) rfl rfl (by kernel_rfl) (by kernel_rfl) (by kernel_rfl) (by kernel_rfl) (fun _ _ _ h=>h) hSd (Or.inl ⟨by rfl,?hy2_1⟩) ?rest2_1
 case hy2_1=>(intro w hSw;(try dsimp only at hSw);go_simp;try with_reducible rfl)
 try simp only[Act.put,List.setIfInBounds_toArray,List.set_cons_zero,List.set_cons_succ]
 refine wpTwo_take (i:=3) (some 17) (v:=?v3_1) rfl rfl (by kernel_rfl) (by kernel_rfl) (by kernel_rfl) (by kernel_rfl) (fun _ _ _ h=>h) hSd (Or.inl ⟨by rfl,?hy3_1⟩) ?rest3_1
 case hy3_1=>(intro w hSw;(try dsimp only at hSw);go_simp;try with_reducible rfl)
 try simp only[Act.put,List.setIfInBounds_toArray,List.set_cons_zero,List.set_cons_succ]
 refine wpTwo_take (i:=4) (some 18) (v:=?v4_1) rfl rfl (by kernel_rfl) (by kernel_rfl) (by kernel_rfl) (by kernel_rfl) (fun _ _ _ h=>h) hSd (Or.inl ⟨by rfl,?hy4_1⟩) ?rest4_1
 case hy4_1=>(intro w hSw;(try dsimp only at hSw);go_simp;try with_reducible rfl)
 try simp only[Act.put,List.setIfInBounds_toArray,List.set_cons_zero,List.set_cons_succ]
 refine wpTwo_take (i:=5) (some 19) (v:=?v5_1) rfl rfl (by kernel_rfl) (by kernel_rfl) (by kernel_rfl) (by kernel_rfl) (fun _ _ _ h=>h) hSd (Or.inl ⟨by rfl,?hy5_1⟩) ?rest5_1
 case hy5_1=>(intro w hSw;(try dsimp only at hSw);go_simp;try with_reducible rfl)
 try simp only[Act.put,List.setIfInBounds_toArray,List.set_cons_zero,List.set_cons_succ]
 refine wpTwo_take (i:=6) (some 20) (v:=?v6_1) rfl rfl (by kernel_rfl) (by kernel_rfl) (by kernel_rfl) (by kernel_rfl) (fun _ _ _ h=>h) hSd (Or.inl ⟨by rfl,?hy6_1⟩) ?rest6_1
 case hy6_1=>(intro w hSw;(try dsimp only at hSw);go_simp;try with_reducible rfl)
 try simp only[Act.put,List.setIfInBounds_toArray,List.set_cons_zero,List.set_cons_succ]
 refine wpTwo_take (i:=8) (some 22) (v:=?v8_1) rfl rfl (by kernel_rfl) (by kernel_rfl) (by kernel_rfl) (by kernel_rfl) (fun _ _ _ h=>h) hSd (Or.inl ⟨by rfl,?hy8_1⟩) ?rest8_1
 case hy8_1=>(intro w hSw;(try dsimp only at hSw);go_simp;try with_reducible rfl)
 try simp only[Act.put,List.setIfInBounds_toArray,List.set_cons_zero,List.set_cons_succ]
 refine wpTwo_one (j:=7) (by kernel_rfl) rfl (fun K2 hK=>?_)
 go_simp
 refine HKEY.out.mono ?_
 rintro e U ⟨rfl,hbU⟩
 dsimp only
 have hUY:Below Y.heap.size Y U:=bjoin hbU hD
 refine hK.out _ _ (fun _=>KS.out _ hUY) ?_
 clear hK K2
 try simp only[Act.put,List.setIfInBounds_toArray,List.set_cons_zero,List.set_cons_succ]
 obtain⟨w9,hr9,hm9,ho9⟩:=(HMF.out U hUY).puts (by omega) client tag b hcw hs.1
 have hmU:=HMF.out U hUY
 refine wpTwo_one (j:=9) (by kernel_rfl) rfl (fun K2 hK=>?_)
 go_simp
 refine hK.out _ _ (fun h=>absurd h (by decide)) ?_
 clear hK K2
 refine wpTwo_done (by kernel_rfl) ?_ _
 have HT9:Hid (∀(d:Nat) (cs:Array Value) (t:TypeId),w.heap[d]?=some (Obj.cells cs t (0,0))→t≠84→t≠83→w9.heap[d]?=w.heap[d]?):=fun d cs t hdd h1 h2=>by
  have hdl:d<w.heap.size:=by rcases Nat.lt_or_ge d w.heap.size with h'|h';exact h';rw[Array.getElem?_eq_none h'] at hdd;cases hdd
  have e1:Y.heap[d]?=w.heap[d]?:=(HTY.out d (HKN2.out d _ _ hdd h2)).trans (HT1.out d _ _ hdd h1)
  have hdY:d<Y.heap.size:=by have:=HS1.out;have:=HSY.out;omega
  have e2:U.heap[d]?=w.heap[d]?:=(hUY.block d hdY).trans e1
  rw[ho9.block d (Nat.lt_of_lt_of_le hdY hUY.size) (by simp;exact hmU.neB (by rw[e2];exact hdd)),e2]
 have HFIN:Hid ((∃ov',BK base w9 K M ov' (n+1) (ps++[(⟨client,tag,query,page,state,rows,cursor⟩,.slice ar rows.length cr)]) (bs++[b])∧Ft (fun d=>BIn K M (.slice ao bs.length co) ps bs d∨d=b∨(Value.slice ar rows.length cr).ownBlock=some d) w (BIn K M ov' (ps++[(⟨client,tag,query,page,state,rows,cursor⟩,.slice ar rows.length cr)]) (bs++[b])) w9)∧Below base w w9):=by
  have hbl:Below base w w9:=by
   have h1:Below base w U:=HBL1.out.trans (hUY.mono (by have:=HBL1.out.size;omega))
   exact h1.trans (ho9.below (by have:=h1.size;omega) fun d hdd=>by rw[List.mem_singleton.1 hdd];exact HH.out.lows.2)
  have hKU:=HKY.out.below hUY
  have hFU:=HFY.out.below hUY
  have hft:Ft (fun d=>BIn K M (.slice ao bs.length co) ps bs d∨d=b∨(Value.slice ar rows.length cr).ownBlock=some d) w (BIn K M (.slice a8 (m+1) c8) (ps++[(⟨client,tag,query,page,state,rows,cursor⟩,.slice ar rows.length cr)]) (bs++[b])) w9:=by
   refine⟨hbl.size,fun d hd hn=>?_,fun d hd=>?_⟩
   ·have e0:w1.heap[d]?=w.heap[d]?:=HO8.out.block d hd fun hm=>hn (.inl (.inr (.inr (.inl (by rw[HM.out];exact Option.mem_toList.1 hm)))))
    have e1:Y.heap[d]?=w.heap[d]?:=(HTY.out d fun e=>hn (.inl (.inl e))).trans e0
    have hdY:d<Y.heap.size:=by have:=HS1.out;have:=HSY.out;omega
    rw[ho9.block d (Nat.lt_of_lt_of_le hdY hUY.size) (by simp;exact fun e=>hn (.inl (.inr (.inl e)))),hUY.block d hdY,e1]
   ·rcases hd with hd|hd|hd|hd|⟨p,hp,hd⟩
    ·exact .inl (.inl (.inl hd))
    ·exact .inl (.inl (.inr (.inl hd)))
    ·rcases HV8.out d hd with h1|h1
     ·exact .inl (.inl (.inr (.inr (.inl (by rw[HM.out];exact h1)))))
     ·exact .inr h1
    ·rcases List.mem_append.1 hd with hd|hd
     ·exact .inl (.inl (.inr (.inr (.inr (.inl hd)))))
     ·exact .inl (.inr (.inl (List.mem_singleton.1 hd)))
    ·rcases List.mem_append.1 hp with hp|hp
     ·exact .inl (.inl (.inr (.inr (.inr (.inr ⟨p,hp,hd⟩)))))
     ·rw[List.mem_singleton.1 hp] at hd
      exact .inl (.inr (.inr hd))
  refine⟨⟨.slice a8 (m+1) c8,?_,hft⟩,hbl⟩
  refine⟨hKU.only ho9 (by simp;exact hmU.ne hKU),hFU.only ho9 (fun d hdd hmm=>?_),?_,by rw[List.length_append,List.length_append,HH.out.len];rfl,fun i h1 h2=>?_,fun d hdd=>?_,?_,fun p hp=>?_,nd_snoc HH.out.nd HHD.out,HH.out.lows⟩
  ·obtain⟨cs2,e2⟩:=hFU.blk (b:=d) (by simpa using hdd)
   exact hmU.neB e2 (List.mem_singleton.1 hmm)
  ·rw[keyF_snoc HH.out.len _ b HKN.out]
   exact hm9
  ·by_cases hi:i<ps.length
   ·have hi2:i<bs.length:=by rw[HH.out.len];exact hi
    rw[List.getElem_append_left hi2,List.getElem_append_left hi]
    have hb0:=HH.out.ses i hi hi2
    exact hb0.keep (HT9.out _ _ _ hb0 (by decide) (by decide))
   ·have e1:i=ps.length:=by rw[List.length_append,List.length_singleton] at h1;omega
    subst e1
    rw[List.getElem_append_right (by rw[HH.out.len];exact leR _),List.getElem_append_right (leR _)]
    simp only[HH.out.len,Nat.sub_self,List.getElem_cons_zero]
    exact HHB.out.keep (HT9.out _ _ _ HHB.out (by decide) (by decide))
  ·rcases List.mem_append.1 hdd with hdd|hdd
   ·exact HH.out.lob d hdd
   ·rw[List.mem_singleton.1 hdd];exact hbb
  ·refine List.nodup_append.2 ⟨HH.out.nb,by simp,fun x hx y hy e=>?_⟩
   rw[List.mem_singleton.1 hy] at e
   exact hnb (e ▸ hx)
  ·rcases List.mem_append.1 hp with hp|hp
   ·refine⟨(HH.out.els p hp).1,(HH.out.els p hp).2.keep fun d hdd=>?_⟩
    obtain⟨cs2,e2⟩:=(HH.out.els p hp).2.blk (b:=d) (by simpa using hdd)
    exact HT9.out d _ _ e2 (by decide) (by decide)
   ·rw[List.mem_singleton.1 hp]
    refine⟨hs,HHF.out.keep fun d hdd=>?_⟩
    obtain⟨cs2,e2⟩:=HHF.out.blk (b:=d) (by simpa using hdd)
    exact HT9.out d _ _ e2 (by decide) (by decide)
 clear hSd hD hr9 hm9 ho9 hmU hUY hbU
 have hres:∀(tmps:Array Value) (W:World),(results Tryz.f59 tmps).run Tryz.prog W=.ok (.tuple #[]) W:=fun tmps W=>by simp[results,Tryz.results59,go_sem]
 first
 | exact bodyPost_end (hres _ _) rfl ⟨rfl,HFIN.out.1,HFIN.out.2⟩
 | (go_wp2_with fail;exact bodyPost_end (hres _ _) rfl ⟨rfl,HFIN.out.1,HFIN.out.2⟩)
end Go.Proofs.YtglcdcekkglmiaaGreatDoor.Msg
