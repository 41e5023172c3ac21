import Derived.Test.YtglcdcekkglmiaaGreatDoorG18
import Derived.Test.YtglcdcekkglmiaaGreatDoorG11
import Derived.WalkSmall
import Derived.Lib.AtoiErrMem
import Derived.Lib.AppendIntMem
namespace Go.Proofs.YtglcdcekkglmiaaGreatDoor.Msg
open Go.ChangeShapes Go.WideShapes Go.ChangeAt Go.RowKit
set_option linter.unusedVariables false
set_option linter.unusedSimpArgs false
def sess0:Sess:=⟨0,⟨#[]⟩,⟨#[]⟩,0,0,[],0⟩
def newS (c:Chg):Sess:=⟨c.client,c.tag,c.query,c.page,1,[],0⟩
def deadB (s:Sess):Bool:=!liveB s.state
def roomP (xs:List Sess):List Sess:=if xs.length<16 then xs else match xs.findIdx? deadB with
 | some i=>xs.eraseIdx i
 | none=>xs
def openFin (xs ys:List Sess) (c:Chg):List Sess × Int:=if 16≤(roomP ys).length then (xs,2) else (roomP ys++[newS c],0)
def openP (xs:List Sess) (c:Chg):List Sess × Int:=match xs.findIdx? (keyB c.client c.tag) with
 | some i=>if liveB (xs.getD i sess0).state then (xs,1) else openFin xs (xs.eraseIdx i) c
 | none=>openFin xs xs c
theorem place_some {xs:List Sess} {c:Int} {t:ByteArray} {i:Nat} (h:xs.findIdx? (keyB c t)=some i):placeOf xs c t=(i:Int)∧i<xs.length:=by
 refine⟨by unfold placeOf;rw[h],?_⟩
 rw[List.findIdx?_eq_some_iff_getElem] at h
 exact h.1
theorem place_no {xs:List Sess} {c:Int} {t:ByteArray} (h:xs.findIdx? (keyB c t)=none):placeOf xs c t = -1:=by unfold placeOf;rw[h]
def RoomAt (ys qs:List Sess) (k:Nat):Prop:=(qs=ys∧∀i (h:i<ys.length),i<k→deadB ys[i]=false)∨(qs.length<16∧qs=roomP ys)
theorem room_start (ys:List Sess):RoomAt ys ys 0:=.inl ⟨rfl,fun _ _ h=>absurd h (by omega)⟩
theorem room_end {ys qs:List Sess} {k:Nat} (h:RoomAt ys qs k) (hl:¬(k<qs.length∧16≤qs.length)):qs=roomP ys:=by
 rcases h with⟨rfl,h⟩|⟨_,h⟩
 ·by_cases hs:qs.length<16
  ·unfold roomP;rw[if_pos hs]
  ·have hn:qs.findIdx? deadB=none:=by
    rw[List.findIdx?_eq_none_iff]
    intro x hx
    obtain⟨i,hi,rfl⟩:=List.getElem_of_mem hx
    exact h i hi (by omega)
   unfold roomP
   rw[if_neg hs,hn]
 ·exact h
theorem room_live {ys qs:List Sess} {k:Nat} (h:RoomAt ys qs k) (hk:k<qs.length) (h16:16≤qs.length) (hd:deadB (qs.getD k sess0)=false):RoomAt ys qs (k+1):=by
 rcases h with⟨rfl,h⟩|⟨h1,_⟩
 ·refine .inl ⟨rfl,fun i hi hik=>?_⟩
  by_cases e:i=k
  ·subst e
   rw[List.getD_eq_getElem?_getD,List.getElem?_eq_getElem hi] at hd
   exact hd
  ·exact h i hi (by omega)
 ·omega
theorem room_dead {ys qs:List Sess} {k:Nat} (h:RoomAt ys qs k) (hk:k<qs.length) (h16:16≤qs.length) (hm:ys.length≤16) (hd:deadB (qs.getD k sess0)=true):RoomAt ys (qs.eraseIdx k) (k+1):=by
 rcases h with⟨rfl,h⟩|⟨h1,_⟩
 ·have hs:qs.findIdx? deadB=some k:=by
   rw[List.findIdx?_eq_some_iff_getElem]
   rw[List.getD_eq_getElem?_getD,List.getElem?_eq_getElem hk] at hd
   exact⟨hk,hd,fun j hj=>by simp[h j (by omega) hj]⟩
  refine .inr ⟨by rw[List.length_eraseIdx,if_pos hk];omega,?_⟩
  unfold roomP
  rw[if_neg (by omega),hs]
 ·omega
theorem room_len (ys:List Sess) (hm:ys.length≤16):(roomP ys).length≤16:=by
 unfold roomP
 split
 ·omega
 ·split
  ·have:=List.length_eraseIdx_le ys (by assumption);omega
  ·exact hm
structure OB (w:World) (B:Nat) (v t:Value) (cv:Array Value) (X:World):Prop where
 arg:Box X w.heap.size 25 #[v]
 chg:Box X (w.heap.size+1) 28 cv
 res:Box X (w.heap.size+2) 25 #[.slice none 0 0]
 out:Box X B 25 #[t]
 bel:Below w.heap.size w X
 lt:w.heap.size+2<B
theorem OB.below {w:World} {B:Nat} {v t:Value} {cv:Array Value} {X Y:World} (h:OB w B v t cv X) (hb:Below X.heap.size X Y):OB w B v t cv Y:=⟨h.arg.below hb,h.chg.below hb,h.res.below hb,h.out.below hb,bjoin hb h.bel,h.lt⟩
theorem OB.set {w:World} {B:Nat} {v t:Value} {cv:Array Value} {X:World} (h:OB w B v t cv X) (t':Value):OB w B v t' cv (X.setCell ⟨B,0,none⟩ t'):=by
 have hl:=h.lt
 exact⟨h.arg.other (by simp;omega) _,h.chg.other (by simp;omega) _,h.res.other (by simp;omega) _,by have:=h.out.set 0 t';simpa using this,h.bel.setCell (p:=⟨B,0,none⟩) (by dsimp only;omega) _,hl⟩
theorem OB.only {w:World} {B:Nat} {v t:Value} {cv:Array Value} {X Y:World} {bs:List Nat} (h:OB w B v t cv X) (ho:Only bs X Y) (hb:∀b∈bs,w.heap.size+3≤b∧b≠B):OB w B v t cv Y :=
 ⟨h.arg.only ho fun hm=>by have:=hb _ hm;omega,h.chg.only ho fun hm=>by have:=hb _ hm;omega,h.res.only ho fun hm=>by have:=hb _ hm;omega,h.out.only ho fun hm=>(hb _ hm).2 rfl,h.bel.trans (ho.below h.bel.size fun d hd=>by have:=hb d hd;omega),h.lt⟩
theorem OB.cells {w:World} {B:Nat} {v t:Value} {cv:Array Value} {X:World} (h:OB w B v t cv X):X.cell? ⟨w.heap.size,0,none⟩=some v∧X.cell? ⟨B,0,none⟩=some t∧X.frozen? ⟨B,0,none⟩=false∧B<X.heap.size∧X.cell? ⟨w.heap.size+2,0,none⟩=some (.slice none 0 0)∧X.frozen? ⟨w.heap.size+2,0,none⟩=false∧w.heap.size+2<X.heap.size :=
 ⟨h.arg.cell 0 (by simp),h.out.cell 0 (by simp),h.out.frozen 0,h.out.lt,h.res.cell 0 (by simp),h.res.frozen 0,h.res.lt⟩
theorem TE.new {base n:Nat} {X:World} {v:Value} {ps:List (Sess × Value)} (h:TE base X v ps) (s:Sess) (hs:SmS s) (h0:s.rows=[]) (hb:base≤X.heap.size) (hn:ps.length=n) (hl:n≤100000) :
  ∃a' c' w',(Builtin.append_ #[23,23] 23 #[v,.slice (some ⟨X.heap.size,0,none⟩) 1 1]).run Tryz.prog (X.alloc (.cells #[.int .i64 s.client,.string s.tag,.string s.query,.int .i64 s.page,.int .i64 s.state,.slice none 0 0,.int .i64 s.cursor] 41))=.ok (.slice a' (n+1) c') w' ∧
   TE base w' (.slice a' (n+1) c') (ps++[(s,.slice none 0 0)])∧Only v.ownBlock.toList X w':=by
 obtain⟨a',c',w',hr,hF,ho,hv⟩:=row_more (C:=tsC) (c:=7) (bytes:=88) (e:=41) Tryz.underlying23 info_Sess rfl (by decide) h.row (s,.slice none 0 0) rfl (fun z hz=>by
  have hz':z=.int .i64 s.client∨z=.string s.tag∨z=.string s.query∨z=.int .i64 s.page∨z=.int .i64 s.state∨z=.slice none 0 0∨z=.int .i64 s.cursor:=by simpa [tsC] using hz
  rcases hz' with rfl|rfl|rfl|rfl|rfl|rfl|rfl <;> rfl) hb hn hl (by decide)
 refine⟨a',c',w',hr,⟨hF,fun p hp=>?_,nd_snoc h.nd fun b hb'=>by simp[Value.ownBlock] at hb'⟩,ho⟩
 rcases List.mem_append.1 hp with hp|hp
 ·refine⟨(h.els p hp).1,(h.els p hp).2.only ho fun b hb' hm=>?_⟩
  obtain⟨c1,e1⟩:=(h.els p hp).2.blk (b:=b) (by simpa using hb')
  obtain⟨c2,e2⟩:=h.row.blk (b:=b) (by simpa using hm)
  rw[e1] at e2
  injection e2 with e2
  injection e2 with _ e2 _
  exact absurd e2 (by decide)
 ·rw[List.mem_singleton.1 hp]
  refine⟨hs,?_⟩
  rw[h0]
  exact FB.nil _ _ _ _ _
def put7 (w:World) (g p:Nat) (s:Sess) (u:Value):World:=((((((w.setCell ⟨g,p,none⟩ (.int .i64 s.client)).setCell ⟨g,p+1,none⟩ (.string s.tag)).setCell ⟨g,p+2,none⟩ (.string s.query)).setCell ⟨g,p+3,none⟩ (.int .i64 s.page)).setCell ⟨g,p+4,none⟩ (.int .i64 s.state)).setCell ⟨g,p+5,none⟩ (u)).setCell ⟨g,p+6,none⟩ (.int .i64 s.cursor)
theorem put7_only (w:World) (g p:Nat) (s:Sess) (u:Value):Only [g] w (put7 w g p s u):=((((((((Only.refl _ _).setCell (by simp) _).setCell (by simp) _).setCell (by simp) _).setCell (by simp) _).setCell (by simp) _).setCell (by simp) _).setCell (by simp) _)
theorem FB.put7 {base:Nat} {w:World} {g n cap:Nat} {ys:List (Sess × Value)} (h:FB tsC 7 41 base w (.slice (some ⟨g,0,none⟩) n cap) ys) {i:Nat} (hi:i<ys.length) (s:Sess) (u:Value) {p:Nat} (hp:i * 7=p) :
  FB tsC 7 41 base (put7 w g p s u) (.slice (some ⟨g,0,none⟩) n cap) (ys.set i (s,u)):=by
 subst hp
 obtain⟨hlen,⟨e,h0⟩|⟨g',cap',cur,e,hg,hs,hcap,hm,hsz,htk⟩⟩:=h
 ·cases e
 ·injection e with e1 e2 e3
  injection e1 with e1
  injection e1 with e1 _ _
  subst e1 e3
  have hB:Box w g 41 cur:=hs
  have h4:=(((((((hB.set (i * 7) (.int .i64 s.client)).set (i * 7+1) (.string s.tag)).set (i * 7+2) (.string s.query)).set (i * 7+3) (.int .i64 s.page)).set (i * 7+4) (.int .i64 s.state)).set (i * 7+5) u).set (i * 7+6) (.int .i64 s.cursor))
  refine⟨by rw[flat_len tsC_len],.inr ⟨g,cap,_,by rw[List.length_set,←e2],hg,h4,by rw[List.length_set];exact hcap,hm,by simp[hsz],?_⟩⟩
  rw[List.length_set]
  have hi4:(i+1) * 7≤ys.length * 7:=Nat.mul_le_mul_right 7 hi
  apply List.ext_getElem?
  intro m
  by_cases hmn:m<ys.length * 7
  ·have hq:m / 7<ys.length:=(Nat.div_lt_iff_lt_mul (by omega)).2 hmn
   have hr:m % 7<7:=Nat.mod_lt _ (by omega)
   have em:m / 7 * 7+m % 7=m:=Nat.div_add_mod' m 7
   have hold:=flat_get tsC_len ys (m / 7) (m % 7) hq hr
   rw[em,←htk,List.getElem?_take,if_pos hmn,Array.getElem?_toList] at hold
   have hnew:=flat_get tsC_len (ys.set i (s,u)) (m / 7) (m % 7) (by rw[List.length_set];exact hq) hr
   rw[em] at hnew
   rw[hnew,List.getElem?_take,if_pos hmn,Array.getElem?_toList]
   have hms:m<cur.size:=by rw[hsz];omega
   simp only[Array.getElem?_setIfInBounds,Array.size_setIfInBounds]
   by_cases hmi:m / 7=i
   ·have e5:(ys.set i (s,u))[m / 7]'(by rw[List.length_set];exact hq)=(s,u):=by simp[hmi]
    simp only[e5]
    rcases(show m % 7=0∨m % 7=1∨m % 7=2∨m % 7=3∨m % 7=4∨m % 7=5∨m % 7=6 by omega) with h|h|h|h|h|h|h
    ·have hm':m=i * 7:=by omega
     simp[hm',tsC]
     omega
    ·have hm':m=i * 7+1:=by omega
     simp[hm',tsC,show (i * 7+1) % 7=1 by omega]
     omega
    ·have hm':m=i * 7+2:=by omega
     simp[hm',tsC,show (i * 7+2) % 7=2 by omega]
     omega
    ·have hm':m=i * 7+3:=by omega
     simp[hm',tsC,show (i * 7+3) % 7=3 by omega]
     omega
    ·have hm':m=i * 7+4:=by omega
     simp[hm',tsC,show (i * 7+4) % 7=4 by omega]
     omega
    ·have hm':m=i * 7+5:=by omega
     simp[hm',tsC,show (i * 7+5) % 7=5 by omega]
     omega
    ·have hm':m=i * 7+6:=by omega
     simp[hm',tsC,show (i * 7+6) % 7=6 by omega]
     omega
   ·have e5:(ys.set i (s,u))[m / 7]'(by rw[List.length_set];exact hq)=ys[m / 7]:=by rw[List.getElem_set_ne (Ne.symm hmi)]
    simp only[e5]
    rw[if_neg (by omega),if_neg (by omega),if_neg (by omega),if_neg (by omega),if_neg (by omega),if_neg (by omega),if_neg (by omega)]
    exact hold
  ·rw[List.getElem?_eq_none (by simp;omega),List.getElem?_eq_none (by rw[flat_len tsC_len,List.length_set];omega)]
theorem FB.off0 {α:Type} {C:α→List Value} {c:Nat} {e:TypeId} {base:Nat} {w:World} {b off n cap:Nat} {xs:List α} (h:FB C c e base w (.slice (some ⟨b,off,none⟩) n cap) xs):off=0:=by
 obtain⟨_,⟨e1,_⟩|⟨g,cap',cur,e1,_⟩⟩:=h
 ·cases e1
 ·injection e1 with e1 _ _
  injection e1 with e1
  injection e1 with _ e1 _
theorem nd_set {ps:List (Sess × Value)} (h:((ps.map (·.2)).filterMap Value.ownBlock).Nodup) {i:Nat} (hi:i<ps.length) (p:Sess × Value) (hn:∀b,p.2.ownBlock=some b→∀j (hj:j<ps.length),j≠i→ps[j].2.ownBlock≠some b):(((ps.set i p).map (·.2)).filterMap Value.ownBlock).Nodup:=by
 have e1:ps.set i p=ps.take i++p :: ps.drop (i+1):=by rw[List.set_eq_take_append_cons_drop,if_pos hi]
 have e2:ps=ps.take i++ps[i] :: ps.drop (i+1):=by rw[List.getElem_cons_drop,List.take_append_drop]
 have ht:∀q∈ps.take i,∃j,∃hj:j<ps.length,j≠i∧ps[j]=q:=fun q hq=>by
  obtain⟨j,hj,rfl⟩:=List.mem_iff_getElem.1 hq
  rw[List.length_take] at hj
  exact⟨j,by omega,by omega,by rw[List.getElem_take]⟩
 have hd:∀q∈ps.drop (i+1),∃j,∃hj:j<ps.length,j≠i∧ps[j]=q:=fun q hq=>by
  obtain⟨j,hj,rfl⟩:=List.mem_iff_getElem.1 hq
  rw[List.length_drop] at hj
  exact⟨i+1+j,by omega,by omega,by rw[List.getElem_drop]⟩
 rw[e2,List.map_append,List.filterMap_append,List.map_cons] at h
 rw[e1,List.map_append,List.filterMap_append,List.map_cons]
 obtain⟨h1,h2,h3⟩:=List.nodup_append.1 h
 have h2':(((ps.drop (i+1)).map (·.2)).filterMap Value.ownBlock).Nodup:=by
  rw[List.filterMap_cons] at h2
  split at h2
  ·exact h2
  ·exact(List.nodup_cons.1 h2).2
 have h3':∀a∈((ps.take i).map (·.2)).filterMap Value.ownBlock,∀b∈((ps.drop (i+1)).map (·.2)).filterMap Value.ownBlock,a≠b:=fun a ha b hb=>h3 a ha b (by
  rw[List.filterMap_cons]
  split
  ·exact hb
  ·exact List.mem_cons_of_mem _ hb)
 cases hp:p.2.ownBlock with
 | none =>
  rw[List.filterMap_cons_none hp]
  exact List.nodup_append.2 ⟨h1,h2',h3'⟩
 | some b =>
  rw[List.filterMap_cons_some hp]
  refine List.nodup_append.2 ⟨h1,List.nodup_cons.2 ⟨fun hm=>?_,h2'⟩,fun a ha c hc=>?_⟩
  ·obtain⟨x,hx,e⟩:=List.mem_filterMap.1 hm
   obtain⟨q,hq,rfl⟩:=List.mem_map.1 hx
   obtain⟨j,hj,hne,rfl⟩:=hd q hq
   exact hn b hp j hj hne e
  ·rcases List.mem_cons.1 hc with rfl|hc
   ·rintro rfl
    obtain⟨x,hx,e⟩:=List.mem_filterMap.1 ha
    obtain⟨q,hq,rfl⟩:=List.mem_map.1 hx
    obtain⟨j,hj,hne,rfl⟩:=ht q hq
    exact hn _ hp j hj hne e
   ·exact h3' a ha c hc
theorem nd_at {ps:List (Sess × Value)} (h:((ps.map (·.2)).filterMap Value.ownBlock).Nodup) {i j:Nat} (hi:i<ps.length) (hj:j<ps.length) (hne:j≠i) {b:Nat} (hb:ps[i].2.ownBlock=some b):ps[j].2.ownBlock≠some b:=by
 intro e
 have key:∀(i j:Nat) (hi:i<ps.length) (hj:j<ps.length),j<i→ps[i].2.ownBlock=some b→ps[j].2.ownBlock=some b→False:=fun i j hi hj hlt h1 h2=>by
  have e2:ps=ps.take i++ps[i] :: ps.drop (i+1):=by rw[List.getElem_cons_drop,List.take_append_drop]
  rw[e2,List.map_append,List.filterMap_append,List.map_cons,List.filterMap_cons_some h1] at h
  refine(List.nodup_append.1 h).2.2 b (List.mem_filterMap.2 ⟨ps[j].2,List.mem_map.2 ⟨ps[j],?_,rfl⟩,h2⟩) b (List.mem_cons_self ..) rfl
  rw[List.mem_take_iff_getElem]
  exact⟨j,by omega,rfl⟩
 rcases Nat.lt_or_ge j i with hlt|hge
 ·exact key i j hi hj hlt hb e
 ·exact key j i hj hi (by omega) e hb
theorem TE.put {base:Nat} {X Y:World} {g n cap:Nat} {ps:List (Sess × Value)} (h:TE base X (.slice (some ⟨g,0,none⟩) n cap) ps) {i:Nat} (hi:i<ps.length) (s:Sess) (u:Value) (hs:SmS s) (hs0:X.heap.size≤Y.heap.size)
  (hY:∀b,b<X.heap.size→ps[i].2.ownBlock≠some b→Y.heap[b]?=X.heap[b]?) (hF:FB tC 1 9 base Y u s.rows) (hu:∀b,u.ownBlock=some b→ps[i].2.ownBlock=some b∨X.heap.size≤b) {p:Nat} (hp:i * 7=p) :
  TE base (Msg.put7 Y g p s u) (.slice (some ⟨g,0,none⟩) n cap) (ps.set i (s,u)):=by
 have hg:=h.row.own g (by simp[Value.ownBlock])
 have hgb:=h.row.blk (b:=g) (by simp[Value.ownBlock])
 have hng:∀p∈ps,p.2.ownBlock≠some g:=fun p hp e=>by
  obtain⟨c1,e1⟩:=hgb
  obtain⟨c2,e2⟩:=(h.els p hp).2.blk e
  rw[e1] at e2
  injection e2 with e2
  injection e2 with _ e2 _
  exact absurd e2 (by decide)
 have hrow:FB tsC 7 41 base Y (.slice (some ⟨g,0,none⟩) n cap) ps:=h.row.keep fun b hb=>by
  have e:b=g:=by simpa [Value.ownBlock,eq_comm] using hb
  rw[e]
  exact hY g hg.2 (hng _ (List.getElem_mem hi))
 have hput:=put7_only Y g p s u
 have hug:u.ownBlock≠some g:=fun e=>by
  rcases hu g e with h1|h1
  ·exact hng _ (List.getElem_mem hi) h1
  ·omega
 refine⟨hrow.put7 hi s u hp,fun q hq=>?_,nd_set h.nd hi (s,u) fun b hb j hj hne e=>?_⟩
 ·obtain⟨j,hj,rfl⟩:=List.mem_iff_getElem.1 hq
  rw[List.length_set] at hj
  by_cases hji:j=i
  ·subst hji
   rw[List.getElem_set_self]
   exact⟨hs,hF.only hput fun b hb hm=>hug (by rw[List.mem_singleton.1 hm] at hb;simpa using hb)⟩
  ·rw[List.getElem_set_ne (Ne.symm hji)]
   have he:=h.els ps[j] (List.getElem_mem hj)
   refine⟨he.1,(he.2.keep fun b hb=>hY b (he.2.own b hb).2 fun e=>nd_at h.nd hi hj hji e (by simpa using hb)).only hput fun b hb hm=>hng _ (List.getElem_mem hj) (by rw[List.mem_singleton.1 hm] at hb;simpa using hb)⟩
 ·rcases hu b hb with h1|h1
  ·exact nd_at h.nd hi hj hne h1 e
  ·have:=((h.els ps[j] (List.getElem_mem hj)).2.own b (by rw[e];simp)).2
   omega
theorem TE.more {base n:Nat} {X:World} {v:Value} {ps:List (Sess × Value)} (h:TE base X v ps) (s:Sess) (u:Value) (hs:SmS s) (hu:FB tC 1 9 base X u s.rows) (hd:∀b,u.ownBlock=some b→∀q∈ps,q.2.ownBlock≠some b) (hb:base≤X.heap.size) (hn:ps.length=n) (hl:n≤100000) :
  ∃a' c' w',(Builtin.append_ #[23,23] 23 #[v,.slice (some ⟨X.heap.size,0,none⟩) 1 1]).run Tryz.prog (X.alloc (.cells #[.int .i64 s.client,.string s.tag,.string s.query,.int .i64 s.page,.int .i64 s.state,u,.int .i64 s.cursor] 41))=.ok (.slice a' (n+1) c') w' ∧
   TE base w' (.slice a' (n+1) c') (ps++[(s,u)])∧Only v.ownBlock.toList X w':=by
 obtain⟨a',c',w',hr,hF,ho,hv⟩:=row_more (C:=tsC) (c:=7) (bytes:=88) (e:=41) Tryz.underlying23 info_Sess rfl (by decide) h.row (s,u) rfl (fun z hz=>by
  obtain⟨a,c,e,_⟩:=hu.form
  have hz':z=.int .i64 s.client∨z=.string s.tag∨z=.string s.query∨z=.int .i64 s.page∨z=.int .i64 s.state∨z=u∨z=.int .i64 s.cursor:=by simpa [tsC] using hz
  rcases hz' with rfl|rfl|rfl|rfl|rfl|rfl|rfl
  all_goals first|rfl|(rw[e];rfl)) hb hn hl (by decide)
 have key:∀(q:Value) (xs:List ByteArray),FB tC 1 9 base X q xs→FB tC 1 9 base w' q xs:=fun q xs hq=>hq.only ho fun b hb' hm=>by
  obtain⟨c1,e1⟩:=hq.blk (b:=b) (by simpa using hb')
  obtain⟨c2,e2⟩:=h.row.blk (b:=b) (by simpa using hm)
  rw[e1] at e2
  injection e2 with e2
  injection e2 with _ e2 _
  exact absurd e2 (by decide)
 refine⟨a',c',w',hr,⟨hF,fun p hp=>?_,nd_snoc h.nd hd⟩,ho⟩
 rcases List.mem_append.1 hp with hp|hp
 ·exact⟨(h.els p hp).1,key _ _ (h.els p hp).2⟩
 ·rw[List.mem_singleton.1 hp]
  exact⟨hs,key _ _ hu⟩
structure Env (w:World):Prop where
 tab:Lib.TabIs Tryz.prog w "internal/strconv.uint64pow10" .u64 Lib.pow10Tab
 syn:∃ev,w.cell? ⟨2,0,none⟩=some ev∧(ev=.nilIface∨∃te pe,ev=.iface te pe)
 rng:∃ev,w.cell? ⟨3,0,none⟩=some ev∧(ev=.nilIface∨∃te pe,ev=.iface te pe)
theorem lt_of_cell {w:World} {b o:Nat} {v:Value} (h:w.cell? ⟨b,o,none⟩=some v):b<w.heap.size:=by
 rcases Nat.lt_or_ge b w.heap.size with h'|h'
 ·exact h'
 ·simp[World.cell?,Array.getElem?_eq_none h'] at h
theorem tabG:Tryz.prog.globalNamed "internal/strconv.uint64pow10"=some 0:=by kernel_rfl
theorem tab_kept {w w':World} (h:Below w.heap.size w w') (hv:Lib.TabIs Tryz.prog w "internal/strconv.uint64pow10" .u64 Lib.pow10Tab):Lib.TabIs Tryz.prog w' "internal/strconv.uint64pow10" .u64 Lib.pow10Tab:=by
 have hc:w.cell? ⟨0,0,none⟩=some (.int .u64 1):=by simpa [Lib.pow10Tab] using World.var?_cell tabG hv 0
 exact var?_below h tabG (lt_of_cell hc) hv
theorem Env.kept {w w':World} (h:Env w) (hb:Below w.heap.size w w'):Env w':=by
 obtain⟨h1,⟨e2,c2,d2⟩,⟨e3,c3,d3⟩⟩:=h
 exact⟨tab_kept hb h1,⟨e2,by rw[hb.cell (p:=⟨2,0,none⟩) (lt_of_cell c2)];exact c2,d2⟩,⟨e3,by rw[hb.cell (p:=⟨3,0,none⟩) (lt_of_cell c3)];exact c3,d3⟩⟩
theorem itoaT (v:Int) (s:ByteArray):((⟨(Lib.itoa v).toArray⟩:ByteArray).toList == s.toList)=(Lib.itoa v == s.data.toList):=by
 rw[ByteArray.toList_eq,ByteArray.toList_eq]
set_option maxRecDepth 100000 in
set_option maxHeartbeats 1000000 in
theorem numberOf_any (s:ByteArray) (w:World) (hs:s.size≤1048576) (hE:Env w) :
  Calls Tryz.prog 71 #[.string s] w fun e w'=>e=.returned (.int .i64 (numI s.data.toList))∧Below w.heap.size w w':=by
 have HE:=hide hE
 clear hE
 have HN:Hid (numI s.data.toList=match Lib.atoiAll s.data.toList with
  | .ok v=>if Lib.itoa v == s.data.toList then v else 0
  | _=>0):=rfl
 cases ha:Lib.atoiAll s.data.toList with
 | ok v =>
  have HB:=hide (Lib.atoiAll_bounds ha)
  have HA:=hide ha
  have HI:=hide (itoaT v s)
  have HAT:Hid (∀W,Calls Tryz.prog 90 #[.string s] W fun e w'=>e=.returned (.tuple #[.int .i64 v,.nilIface])∧Below W.heap.size W w'):=fun W=>(Tryz.strconv_Atoi_ok s (by omega) v HA.out W).mono fun e w' ⟨h1,h2⟩=>⟨h1,by
   rcases h2 with rfl|⟨t,rfl⟩
   ·exact Below.refl _ _
   ·exact Lib.bytesWorld_below _ _ _⟩
  have HIT:Hid (∀W,Env W→Calls Tryz.prog 35 #[.int .i64 v] W fun e w'=>e=.returned (.string ⟨(Lib.itoa v).toArray⟩)∧Below W.heap.size W w'):=fun W hW=>(Tryz.strconv_Itoa v HB.out.1 HB.out.2 W hW.tab).mono fun e w' ⟨h1,k,os,h2⟩=>⟨h1,by subst h2;exact Lib.below_grow _ _ (leR _) _ _⟩
  obtain⟨z,hz⟩:∃z:ByteArray,(⟨(Lib.itoa v).toArray⟩:ByteArray)=z:=⟨_,rfl⟩
  rw[hz] at HI HIT
  clear hz ha
  cases he:(z.toList == s.toList)
  ·have HX:Hid (numI s.data.toList=0):=by rw[HN.out,HA.out];show (if _ then _ else _)=_;rw[←HI.out,he];rfl
   go_enter Tryz.func71,Tryz.ntmps71
   go_wp2_with fail
   refine(HAT.out _).mono ?_
   rintro e w1 ⟨rfl,hb1⟩
   have HE1:=hide (HE.out.kept hb1)
   go_wp2_with (go_at_call 35;refine(HIT.out _ HE1.out).mono ?_;rintro e w2 ⟨rfl,hb2⟩)
   go_ret
   exact⟨ret_int HX.out.symm,bjoin hb2 hb1⟩
  ·have HX:Hid (numI s.data.toList=v):=by rw[HN.out,HA.out];show (if _ then _ else _)=_;rw[←HI.out,he];rfl
   go_enter Tryz.func71,Tryz.ntmps71
   go_wp2_with fail
   refine(HAT.out _).mono ?_
   rintro e w1 ⟨rfl,hb1⟩
   have HE1:=hide (HE.out.kept hb1)
   go_wp2_with (go_at_call 35;refine(HIT.out _ HE1.out).mono ?_;rintro e w2 ⟨rfl,hb2⟩)
   go_ret
   exact⟨ret_int HX.out.symm,bjoin hb2 hb1⟩
 | «syntax» =>
  have HX:Hid (numI s.data.toList=0):=by rw[HN.out,ha];trivial
  obtain⟨ev,hv,hev⟩:=HE.out.syn
  have HAT:=hide (Tryz.strconv_Atoi_syntax s (by omega) ha ev w hv hev)
  clear ha hv hev
  go_enter Tryz.func71,Tryz.ntmps71
  go_wp2_with fail
  refine HAT.out.mono ?_
  rintro e w1 ⟨N,rfl,_,_,hb1⟩
  go_wp2_with fail
  go_ret
  exact⟨ret_int HX.out.symm,hb1⟩
 | range =>
  have HX:Hid (numI s.data.toList=0):=by rw[HN.out,ha];trivial
  obtain⟨ev,hv,hev⟩:=HE.out.rng
  have HAT:=hide (Tryz.strconv_Atoi_range s (by omega) ha ev w hv hev)
  clear ha hv hev
  go_enter Tryz.func71,Tryz.ntmps71
  go_wp2_with fail
  refine HAT.out.mono ?_
  rintro e w1 ⟨N,rfl,_,_,hb1⟩
  go_wp2_with fail
  go_ret
  exact⟨ret_int HX.out.symm,hb1⟩
end Go.Proofs.YtglcdcekkglmiaaGreatDoor.Msg
