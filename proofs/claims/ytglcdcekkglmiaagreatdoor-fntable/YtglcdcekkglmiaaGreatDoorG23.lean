import Derived.Test.YtglcdcekkglmiaaGreatDoorG9
import Derived.Test.YtglcdcekkglmiaaGreatDoorG22
namespace Go.Proofs.YtglcdcekkglmiaaGreatDoor.Msg
open Go.ChangeShapes Go.WideShapes Go.ChangeAt Go.RowKit
set_option linter.unusedVariables false
set_option linter.unusedSimpArgs false
def keyS (s:Sess):Int × List UInt8:=(s.client,s.tag.toList)
theorem sameB_key (x y:Sess):sameB x y=false ↔ keyS x≠keyS y:=by
 unfold sameB keyS
 rw[Bool.and_eq_false_iff]
 constructor
 ·rintro(h|h) e
  ·injection e with e1 e2
   rw[decide_eq_true e1] at h
   cases h
  ·injection e with e1 e2
   rw[e2] at h
   simp at h
 ·intro h
  by_cases e1:x.client=y.client
  ·right
   cases e:(x.tag.toList == y.tag.toList)
   ·rfl
   ·exact absurd (by rw[e1,eq_of_beq e]) h
  ·left
   exact decide_eq_false e1
theorem tblB_iff (xs:List Sess):tblB xs=true ↔ xs.length≤16∧(∀s∈xs,sessB s=true)∧(xs.map keyS).Pairwise (fun a b=>a≠b):=by
 unfold tblB
 rw[Bool.and_eq_true,decide_eq_true_eq,decide_eq_true_eq,List.pairwise_map]
 constructor
 ·rintro⟨h1,h2⟩
  refine⟨h1,fun s hs=>?_,?_⟩
  ·obtain⟨i,hi,rfl⟩:=List.mem_iff_getElem.1 hs
   exact(h2 i hi).1
  ·rw[List.pairwise_iff_getElem]
   intro i j hi hj hij
   exact fun e=>(sameB_key _ _).1 ((h2 j hj).2 i hij) e.symm
 ·rintro⟨h1,h2,h3⟩
  refine⟨h1,fun i hi=>⟨h2 _ (List.getElem_mem hi),fun j hj=>(sameB_key _ _).2 fun e=>?_⟩⟩
  exact List.pairwise_iff_getElem.1 h3 j i (by omega) hi hj e.symm
theorem tblB_nil:tblB []=true:=(tblB_iff []).2 ⟨by simp,by simp,by simp⟩
theorem tbl_sub {xs ys:List Sess} (h:tblB xs=true) (hs:ys.Sublist xs):tblB ys=true:=by
 obtain⟨h1,h2,h3⟩:=(tblB_iff xs).1 h
 exact(tblB_iff ys).2 ⟨Nat.le_trans hs.length_le h1,fun s hm=>h2 s (hs.subset hm),h3.sublist (hs.map keyS)⟩
theorem tbl_set {xs:List Sess} (h:tblB xs=true) {i:Nat} (hi:i<xs.length) {s:Sess} (hs:sessB s=true) (hc:s.client=xs[i].client) (ht:s.tag=xs[i].tag):tblB (xs.set i s)=true:=by
 obtain⟨h1,h2,h3⟩:=(tblB_iff xs).1 h
 have hk:(xs.set i s).map keyS=xs.map keyS:=by
  apply List.ext_getElem
  ·simp
  ·intro j g1 g2
   rw[List.getElem_map,List.getElem_map]
   by_cases e:j=i
   ·subst e
    rw[List.getElem_set_self]
    unfold keyS
    rw[hc,ht]
   ·rw[List.getElem_set_ne (Ne.symm e)]
 refine(tblB_iff _).2 ⟨by rw[List.length_set];exact h1,fun x hx=>?_,by rw[hk];exact h3⟩
 rcases List.mem_or_eq_of_mem_set hx with hx|rfl
 ·exact h2 x hx
 ·exact hs
theorem tbl_snoc {xs:List Sess} (h:tblB xs=true) (hl:xs.length<16) {s:Sess} (hs:sessB s=true) (hk:∀x∈xs,keyS x≠keyS s):tblB (xs++[s])=true:=by
 obtain⟨h1,h2,h3⟩:=(tblB_iff xs).1 h
 refine(tblB_iff _).2 ⟨by simp;omega,fun x hx=>?_,?_⟩
 ·rcases List.mem_append.1 hx with hx|hx
  ·exact h2 x hx
  ·rw[List.mem_singleton.1 hx];exact hs
 ·rw[List.map_append,List.pairwise_append]
  refine⟨h3,by simp,fun a ha b hb=>?_⟩
  obtain⟨x,hx,rfl⟩:=List.mem_map.1 ha
  simp at hb
  subst hb
  exact hk x hx
theorem room_sub (ys:List Sess):(roomP ys).Sublist ys:=by
 unfold roomP
 split
 ·exact List.Sublist.refl _
 ·split
  ·exact List.eraseIdx_sublist _ _
  ·exact List.Sublist.refl _
theorem keyB_key (c:Int) (t:ByteArray) (s:Sess):keyB c t s=true ↔ keyS s=(c,t.toList):=by
 unfold keyB keyS
 constructor
 ·intro h
  simp only[Bool.and_eq_true,decide_eq_true_eq,beq_iff_eq] at h
  rw[h.1,h.2]
 ·intro h
  injection h with h1 h2
  simp[h1,h2]
theorem newS_ok {c:Chg} (h:chgB c=true) (hk:c.kind=1):sessB (newS c)=true:=by
 unfold chgB at h
 simp only[Bool.and_eq_true] at h
 obtain⟨⟨h1,h2⟩,h3⟩:=h
 unfold kindB at h3
 rw[if_pos hk] at h3
 simp only[Bool.and_eq_true] at h3
 unfold sessB newS stateB
 simp only[Bool.and_eq_true]
 exact⟨⟨h1,h2,h3.1.1,h3.1.2,by decide⟩,by simp⟩
theorem openFin_tbl {xs ys:List Sess} {c:Chg} (hx:tblB xs=true) (hy:tblB ys=true) (hc:chgB c=true) (hk:c.kind=1) (hn:∀s∈ys,keyB c.client c.tag s=false):tblB (openFin xs ys c).1=true:=by
 unfold openFin
 split
 ·exact hx
 ·rename_i hl
  refine tbl_snoc (tbl_sub hy (room_sub ys)) (by omega) (newS_ok hc hk) fun x hx2 e=>?_
  have h1:=hn x ((room_sub ys).subset hx2)
  have h2:=(keyB_key c.client c.tag x).2 (by rw[e];rfl)
  rw[h1] at h2
  cases h2
theorem erase_key {xs:List Sess} (h:tblB xs=true) {c:Int} {t:ByteArray} {i:Nat} (hi:i<xs.length) (hk:keyB c t xs[i]=true):∀s∈xs.eraseIdx i,keyB c t s=false:=by
 obtain⟨_,_,h3⟩:=(tblB_iff xs).1 h
 intro s hs
 rw[List.mem_eraseIdx_iff_getElem] at hs
 obtain⟨j,hj,hne,rfl⟩:=hs
 cases e:keyB c t xs[j]
 ·rfl
 ·exfalso
  have e1:=(keyB_key _ _ _).1 hk
  have e2:=(keyB_key _ _ _).1 e
  rw[List.pairwise_map,List.pairwise_iff_getElem] at h3
  rcases Nat.lt_or_gt_of_ne hne with hl|hl
  ·exact h3 j i hj hi hl (e2.trans e1.symm)
  ·exact h3 i j hi hj hl (e1.trans e2.symm)
theorem openP_tbl {xs:List Sess} {c:Chg} (hx:tblB xs=true) (hc:chgB c=true) (hk:c.kind=1):tblB (openP xs c).1=true:=by
 unfold openP
 cases e:xs.findIdx? (keyB c.client c.tag) with
 | none =>
  rw[List.findIdx?_eq_none_iff] at e
  exact openFin_tbl hx hx hc hk e
 | some i =>
  dsimp only
  split
  ·exact hx
  ·rw[List.findIdx?_eq_some_iff_getElem] at e
   obtain⟨hi,h1,_⟩:=e
   exact openFin_tbl hx (tbl_sub hx (List.eraseIdx_sublist _ _)) hc hk (erase_key hx hi h1)
theorem stepS_ok {s s':Sess} {c:Chg} (hs:sessB s=true) (hc:chgB c=true) (h:stepS s c=.ok s'):sessB s'=true∧s'.client=s.client∧s'.tag=s.tag:=by
 have hs0:=hs
 unfold sessB at hs
 simp only[Bool.and_eq_true] at hs
 obtain⟨⟨a1,a2,a3,a4,a5⟩,a6⟩:=hs
 unfold stepS at h
 split at h
 ·rename_i k2
  split at h
  ·rename_i st
   split at h
   ·cases h
   ·rename_i hl
    injection h with h
    subst h
    refine⟨?_,rfl,rfl⟩
    have hr:rowsB c.rows 200=true:=by
     unfold chgB kindB at hc
     rw[if_neg (by omega),if_pos k2] at hc
     simp only[Bool.and_eq_true] at hc
     exact hc.2.1
    unfold sessB
    simp only[Bool.and_eq_true]
    refine⟨⟨a1,a2,a3,a4,?_⟩,?_⟩
    ·unfold rowsB at a5 hr ⊢
     simp only[Bool.and_eq_true,decide_eq_true_eq,List.all_eq_true] at a5 hr ⊢
     refine⟨by rw[List.length_append];omega,fun r hr2=>?_⟩
     rcases List.mem_append.1 hr2 with hr2|hr2
     ·exact a5.2 r hr2
     ·exact hr.2 r hr2
    ·unfold stateB at a6 ⊢
     rw[if_pos st] at a6
     dsimp only
     rw[if_pos st]
     exact a6
  ·cases h
 split at h
 ·split at h
  ·rename_i st
   injection h with h
   subst h
   refine⟨?_,rfl,rfl⟩
   unfold sessB
   simp only[Bool.and_eq_true]
   refine⟨⟨a1,a2,a3,a4,a5⟩,?_⟩
   unfold stateB at a6 ⊢
   rw[if_pos st] at a6
   simp only[decide_eq_true_eq] at a6
   dsimp only
   rw[a6]
   simp
  ·cases h
 split at h
 ·rename_i k4
  split at h
  ·rename_i st
   split at h
   ·cases h
   ·rename_i hl
    injection h with h
    subst h
    refine⟨?_,rfl,rfl⟩
    have hn:0≤c.n:=by
     unfold chgB kindB at hc
     rw[if_neg (by omega),if_neg (by omega),if_pos k4] at hc
     simp only[Bool.and_eq_true,cursorB,decide_eq_true_eq] at hc
     exact hc.2.1.1
    unfold sessB
    simp only[Bool.and_eq_true]
    refine⟨⟨a1,a2,a3,a4,a5⟩,?_⟩
    unfold stateB
    dsimp only
    rw[if_neg (by omega),if_pos st]
    simp only[Bool.and_eq_true,decide_eq_true_eq]
    exact⟨hn,by omega⟩
  ·cases h
 split at h
 ·split at h
  ·injection h with h
   subst h
   refine⟨?_,rfl,rfl⟩
   unfold sessB stateB
   simp only[Bool.and_eq_true]
   exact⟨⟨a1,a2,a3,a4,by decide⟩,by simp⟩
  ·cases h
 ·split at h
  ·injection h with h
   subst h
   refine⟨?_,rfl,rfl⟩
   unfold sessB stateB
   simp only[Bool.and_eq_true]
   exact⟨⟨a1,a2,a3,a4,by decide⟩,by simp⟩
  ·cases h
theorem atP_tbl {xs:List Sess} {c:Chg} (hx:tblB xs=true) (hc:chgB c=true) {i:Nat} (hi:i<xs.length):tblB (atP xs i (stepS xs[i] c)).1=true:=by
 cases e:stepS xs[i] c with
 | error k=>exact hx
 | ok s =>
  have h1:=stepS_ok (((tblB_iff xs).1 hx).2.1 _ (List.getElem_mem hi)) hc e
  exact tbl_set hx hi h1.1 h1.2.1 h1.2.2
theorem applyP_tbl (xs:List Sess) (c:Chg):tblB (applyP xs c).1=true:=by
 unfold applyP
 split
 ·rename_i h
  split
  ·exact openP_tbl h.1 h.2 (by assumption)
  ·split
   ·rename_i i e
    have hi:i<xs.length:=by rw[List.findIdx?_eq_some_iff_getElem] at e;exact e.1
    have hg:xs.getD i sess0=xs[i]:=by rw[List.getD_eq_getElem?_getD,List.getElem?_eq_getElem hi];rfl
    rw[hg]
    exact atP_tbl h.1 h.2 hi
   ·exact h.1
 ·exact tblB_nil
theorem decS_ok {t:ByteArray} {c:Chg} (h:decS t=some c):chgB c=true:=by
 rw[←dec_same] at h
 unfold decI at h
 split at h
 ·cases h
 ·rename_i h0
  split at h
  ·rename_i h1
   injection h with h
   subst h
   exact(encB_ok h1 (fun e=>h0 (.inl e))).1
  ·cases h
def stepR (xs:List Sess) (t:ByteArray):Option (List Sess):=match decS t with
 | none=>none
 | some c=>if (applyP xs c).2=0 then some (applyP xs c).1 else none
def runF (xs:List Sess):List ByteArray→Option (List Sess)
 | []=>some xs
 | t :: ts=>match stepR xs t with
  | some ys=>runF ys ts
  | none=>none
def recF (xs:List Sess):List ByteArray→List Sess
 | []=>xs
 | t :: ts=>match stepR xs t with
  | some ys=>recF ys ts
  | none=>xs
theorem runF_snoc:∀(ts:List ByteArray) (xs ys:List Sess) (t:ByteArray),runF xs ts=some ys→runF xs (ts++[t])=stepR ys t
 | [],xs,ys,t,h=>by
  injection h with h
  subst h
  show (match stepR xs t with|some ys=>some ys|none=>none)=_
  cases stepR xs t <;> rfl
 | u :: ts,xs,ys,t,h=>by
  unfold runF at h
  show (match stepR xs u with|some ys=>runF ys (ts++[t])|none=>none)=_
  cases e:stepR xs u with
  | none=>rw[e] at h;cases h
  | some zs=>rw[e] at h;exact runF_snoc ts zs ys t h
theorem recF_run:∀(ts us:List ByteArray) (xs ys:List Sess),runF xs ts=some ys→recF xs (ts++us)=recF ys us
 | [],us,xs,ys,h=>by
  injection h with h
  subst h
  rfl
 | u :: ts,us,xs,ys,h=>by
  unfold runF at h
  show (match stepR xs u with|some ys=>recF ys (ts++us)|none=>xs)=_
  cases e:stepR xs u with
  | none=>rw[e] at h;cases h
  | some zs=>rw[e] at h;exact recF_run ts us zs ys h
theorem recF_stop {ts us:List ByteArray} {xs ys:List Sess} {t:ByteArray} (h:runF xs ts=some ys) (hn:stepR ys t=none):recF xs (ts++t :: us)=ys:=by
 rw[recF_run ts (t :: us) xs ys h]
 unfold recF
 rw[hn]
theorem recF_all {ts:List ByteArray} {xs ys:List Sess} (h:runF xs ts=some ys):recF xs ts=ys:=by
 have:=recF_run ts [] xs ys h
 rw[List.append_nil] at this
 exact this
theorem stepR_tbl {xs ys:List Sess} {t:ByteArray} (h:stepR xs t=some ys):tblB ys=true:=by
 unfold stepR at h
 split at h
 ·cases h
 ·split at h
  ·injection h with h
   rw[←h]
   exact applyP_tbl _ _
  ·cases h
theorem runF_tbl:∀(ts:List ByteArray) (xs ys:List Sess),tblB xs=true→runF xs ts=some ys→tblB ys=true
 | [],xs,ys,hx,h=>by
  injection h with h
  rw[←h]
  exact hx
 | u :: ts,xs,ys,hx,h=>by
  unfold runF at h
  cases e:stepR xs u with
  | none=>rw[e] at h;cases h
  | some zs=>rw[e] at h;exact runF_tbl ts zs ys (stepR_tbl e) h
theorem recF_tbl:∀(ts:List ByteArray) (xs:List Sess),tblB xs=true→tblB (recF xs ts)=true
 | [],xs,hx=>hx
 | u :: ts,xs,hx=>by
  show tblB (match stepR xs u with|some ys=>recF ys ts|none=>xs)=true
  cases e:stepR xs u with
  | none=>exact hx
  | some zs=>exact recF_tbl ts zs (stepR_tbl e)
theorem stepR_no {xs:List Sess} {t:ByteArray} (h:decS t=none):stepR xs t=none:=by unfold stepR;rw[h]
theorem stepR_bad {xs:List Sess} {t:ByteArray} {c:Chg} (h:decS t=some c) (hn:(applyP xs c).2≠0):stepR xs t=none:=by unfold stepR;rw[h];exact if_neg hn
theorem stepR_good {xs:List Sess} {t:ByteArray} {c:Chg} (h:decS t=some c) (hn:(applyP xs c).2=0):stepR xs t=some (applyP xs c).1:=by unfold stepR;rw[h];exact if_pos hn
def failS (s:Sess):Sess:=if s.state=1 then ⟨s.client,s.tag,s.query,s.page,3,[],0⟩ else s
def failT (xs:List Sess):List Sess:=xs.map failS
def failK (xs:List Sess) (k:Nat):List Sess:=(xs.take k).map failS++xs.drop k
def failC (s:Sess):Chg:=⟨5,s.client,s.tag,⟨#[]⟩,0,[],0⟩
theorem failK_zero (xs:List Sess):failK xs 0=xs:=by simp[failK]
theorem failK_len (xs:List Sess) (k:Nat):(failK xs k).length=xs.length:=by
 unfold failK
 rw[List.length_append,List.length_map,List.length_take,List.length_drop]
 omega
theorem failK_all (xs:List Sess):failK xs xs.length=failT xs:=by simp[failK,failT]
theorem failK_at (xs:List Sess) (k:Nat) (h:k<xs.length):(failK xs k)[k]'(by rw[failK_len];exact h)=xs[k]:=by
 unfold failK
 rw[List.getElem_append_right (by simp;omega)]
 simp[List.getElem_drop,Nat.min_eq_left (Nat.le_of_lt h)]
theorem failK_succ (xs:List Sess) (k:Nat) (h:k<xs.length):failK xs (k+1)=(failK xs k).set k (failS xs[k]):=by
 unfold failK
 rw[List.take_succ_eq_append_getElem h,List.map_append,List.set_append]
 rw[if_neg (by simp;omega)]
 have e:k - ((xs.take k).map failS).length=0:=by simp;omega
 rw[e,List.append_assoc]
 congr 1
 rw[List.drop_eq_getElem_cons h]
 rfl
theorem failK_keep (xs:List Sess) (k:Nat) (h:k<xs.length) (hs:xs[k].state≠1):failK xs (k+1)=failK xs k:=by
 rw[failK_succ xs k h]
 have e:failS xs[k]=xs[k]:=if_neg hs
 rw[e]
 have e2:=failK_at xs k h
 conv=>lhs;rw[←e2]
 exact List.set_getElem_self _
theorem failC_ok {s:Sess} (h:sessB s=true):chgB (failC s)=true:=by
 unfold sessB at h
 simp only[Bool.and_eq_true] at h
 unfold chgB failC kindB
 simp only[Bool.and_eq_true]
 exact⟨⟨h.1.1,h.1.2.1⟩,by first|rfl|decide⟩
theorem fail_step {xs:List Sess} {k:Nat} (hx:tblB (failK xs k)=true) (h:k<xs.length) (hs:xs[k].state=1):applyP (failK xs k) (failC xs[k])=(failK xs (k+1),0):=by
 have hl:k<(failK xs k).length:=by rw[failK_len];exact h
 have hat:=failK_at xs k h
 have hsB:sessB xs[k]=true:=by rw[←hat];exact((tblB_iff _).1 hx).2.1 _ (List.getElem_mem hl)
 have hf:(failK xs k).findIdx? (keyB xs[k].client xs[k].tag)=some k:=by
  rw[List.findIdx?_eq_some_iff_getElem]
  refine⟨hl,(keyB_key _ _ _).2 (by rw[hat];rfl),fun j hj=>?_⟩
  have hj2:j<(failK xs k).length:=by omega
  have h3:=((tblB_iff _).1 hx).2.2
  rw[List.pairwise_map,List.pairwise_iff_getElem] at h3
  have h4:=h3 j k hj2 hl hj
  cases e:keyB xs[k].client xs[k].tag (failK xs k)[j]
  ·simp
  ·exfalso
   apply h4
   rw[(keyB_key _ _ _).1 e,hat]
   rfl
 unfold applyP
 rw[if_pos ⟨hx,failC_ok hsB⟩,if_neg (show ¬(failC xs[k]).kind=1 from (show ¬(5:Int)=1 by decide))]
 show (match (failK xs k).findIdx? (keyB xs[k].client xs[k].tag) with|some i=>atP (failK xs k) i (stepS ((failK xs k).getD i sess0) (failC xs[k]))|none=>(failK xs k,3))=_
 rw[hf]
 dsimp only
 have hg:(failK xs k).getD k sess0=xs[k]:=by rw[List.getD_eq_getElem?_getD,List.getElem?_eq_getElem hl,hat];rfl
 rw[hg]
 have hst:stepS xs[k] (failC xs[k])=.ok (failS xs[k]):=by
  unfold stepS failC failS
  dsimp only
  rw[if_neg (by decide),if_neg (by decide),if_neg (by decide),if_pos rfl,if_pos hs,if_pos hs]
 rw[hst,failK_succ xs k h]
 rfl
theorem failK_tbl {xs:List Sess} (hx:tblB xs=true):∀k,k≤xs.length→tblB (failK xs k)=true
 | 0,_=>by rw[failK_zero];exact hx
 | k+1,h=>by
  have ih:=failK_tbl hx k (by omega)
  by_cases hs:(xs[k]'(by omega)).state=1
  ·have e:=fail_step ih (by omega) hs
   have:=applyP_tbl (failK xs k) (failC (xs[k]'(by omega)))
   rw[e] at this
   exact this
  ·rw[failK_keep xs k (by omega) hs]
   exact ih
theorem failT_tbl {xs:List Sess} (hx:tblB xs=true):tblB (failT xs)=true:=by
 rw[←failK_all]
 exact failK_tbl hx _ (leR _)
theorem recsK_pre (img:ByteArray) (k:Nat):∀j,recsK img k <+: recsK img (k+j)
 | 0=>List.prefix_refl _
 | j+1=>by
  refine(recsK_pre img k j).trans ?_
  show _ <+: recsK img (k+j+1)
  conv=>rhs;unfold recsK
  split
  ·exact List.prefix_append _ _
  ·exact List.prefix_refl _
theorem recsK_still (img:ByteArray):∀k,(recsK img k).length<k→∀m,recsK img (k+m)=recsK img k
 | 0,h,_=>absurd h (by omega)
 | k+1,h,m=>by
  cases e:firstB (img.extract (endOf (recsK img k)) img.size) with
  | none =>
   have h1:=recsK_no e 1
   have h2:=recsK_no e (m+1)
   rw[show k+1+m=k+(m+1) by omega,h2,h1]
  | some p =>
   have h1:=recsK_yes (t:=p.1) (n:=p.2) e
   rw[h1,List.length_append,List.length_singleton] at h
   have h2:=recsK_still img k (by omega) 1
   rw[h1] at h2
   exact absurd (congrArg List.length h2) (by simp)
theorem recsA_pre (img:ByteArray) (k:Nat):recsK img k <+: recsA img:=by
 unfold recsA
 by_cases hk:k≤img.size
 ·have:=recsK_pre img k (img.size - k)
  rwa [show k+(img.size - k)=img.size by omega] at this
 ·have hl:=recsK_len img img.size
  by_cases h0:img.size=0
  ·have h1:=recsK_len img k
   have:recsK img k=[]:=List.eq_nil_of_length_eq_zero (by omega)
   rw[this]
   exact List.nil_prefix
  ·have:=recsK_still img img.size (by omega) (k - img.size)
   rw[show img.size+(k - img.size)=k by omega] at this
   rw[this]
   exact List.prefix_refl _
def recovP (img:ByteArray):List Sess:=failT (recF [] ((recsA img).map (·.1)))
theorem TE.reads {base:Nat} {X:World} {v:Value} {ps:List (Sess × Value)} {xs:List Sess} (h:TE base X v ps) (he:ps.map Prod.fst=xs) (hl:xs.length≤100000):SesssAt base X v xs:=by
 have hl2:ps.length=xs.length:=by rw[←he,List.length_map]
 have:=h.sesss (by omega)
 rw[he] at this
 exact this
def chO (s:Sess):Chg:=⟨1,s.client,s.tag,s.query,s.page,[],0⟩
def chR (s:Sess):Chg:=⟨2,s.client,s.tag,⟨#[]⟩,0,s.rows,0⟩
def chC (s:Sess):Chg:=⟨4,s.client,s.tag,⟨#[]⟩,0,[],s.cursor⟩
def ch0 (k:Int) (s:Sess):Chg:=⟨k,s.client,s.tag,⟨#[]⟩,0,[],0⟩
def pS0 (s:Sess):List Chg:=[chO s]
def pS1 (s:Sess):List Chg:=if 0<s.rows.length then pS0 s++[chR s] else pS0 s
def pS2 (s:Sess):List Chg:=if s.state=2 then pS1 s++[ch0 3 s] else pS1 s
def pS3 (s:Sess):List Chg:=if s.cursor≠0 then pS2 s++[chC s] else pS2 s
def pS4 (s:Sess):List Chg:=if s.state=3 then pS3 s++[ch0 5 s] else pS3 s
def pastS (s:Sess):List Chg:=if s.state=4 then pS4 s++[ch0 6 s] else pS4 s
def pI2 (s:Sess):List Chg:=if s.state=2 then pS1 s++[ch0 3 s] else if s.state=3 then pS1 s++[ch0 5 s] else if s.state=4 then pS1 s++[ch0 6 s] else pS1 s
def pastI (s:Sess):List Chg:=if s.cursor≠0 then pI2 s++[chC s] else pI2 s
theorem past_same {s:Sess} (h:sessB s=true):pastI s=pastS s:=by
 unfold sessB at h
 rw[Bool.and_eq_true] at h
 have h:=h.2
 unfold stateB at h
 unfold pastI pastS pS4 pS3 pS2 pI2
 split at h
 ·rename_i e
  rw[e]
  simp
 split at h
 ·rename_i e
  rw[e]
  simp
 split at h
 ·rename_i e
  simp only[Bool.and_eq_true,decide_eq_true_eq] at h
  rcases e with e|e <;> rw[e,h.1] <;> simp
 ·cases h
theorem pS0_len (s:Sess):(pS0 s).length≤1:=leR _
theorem pS1_len (s:Sess):(pS1 s).length≤2:=by unfold pS1 pS0;split <;> simp
theorem pS2_len (s:Sess):(pS2 s).length≤3:=by have:=pS1_len s;unfold pS2;split <;> simp <;> omega
theorem pS3_len (s:Sess):(pS3 s).length≤4:=by have:=pS2_len s;unfold pS3;split <;> simp <;> omega
theorem pS4_len (s:Sess):(pS4 s).length≤5:=by have:=pS3_len s;unfold pS4;split <;> simp <;> omega
theorem pastS_len (s:Sess):(pastS s).length≤6:=by have:=pS4_len s;unfold pastS;split <;> simp <;> omega
theorem pI2_len (s:Sess):(pI2 s).length≤3:=by have:=pS1_len s;unfold pI2;split <;> (try split) <;> (try split) <;> simp <;> omega
theorem pastI_len (s:Sess):(pastI s).length≤4:=by have:=pI2_len s;unfold pastI;split <;> simp <;> omega
def OfS (s:Sess) (c:Chg):Prop:=c.tag=s.tag∧(c.query=s.query∨c.query=⟨#[]⟩)∧(c.kind=2∧c.rows=s.rows∨c.kind≠2∧c.rows=[])
theorem ofS_O (s:Sess):OfS s (chO s):=⟨rfl,.inl rfl,.inr ⟨(show (1:Int)≠2 by decide),rfl⟩⟩
theorem ofS_R (s:Sess):OfS s (chR s):=⟨rfl,.inr rfl,.inl ⟨rfl,rfl⟩⟩
theorem ofS_C (s:Sess):OfS s (chC s):=⟨rfl,.inr rfl,.inr ⟨(show (4:Int)≠2 by decide),rfl⟩⟩
theorem ofS_0 (s:Sess) (k:Int) (h:k≠2):OfS s (ch0 k s):=⟨rfl,.inr rfl,.inr ⟨h,rfl⟩⟩
theorem ofS_pS1 (s:Sess):∀c∈pS1 s,OfS s c:=by
 unfold pS1 pS0
 split
 ·intro c hc
  simp at hc
  rcases hc with rfl|rfl
  ·exact ofS_O s
  ·exact ofS_R s
 ·intro c hc
  simp at hc
  subst hc
  exact ofS_O s
theorem ofS_snoc {s:Sess} {l:List Chg} {c:Chg} (h:∀x∈l,OfS s x) (hc:OfS s c):∀x∈l++[c],OfS s x:=by
 intro x hx
 rcases List.mem_append.1 hx with hx|hx
 ·exact h x hx
 ·rw[List.mem_singleton.1 hx];exact hc
theorem ofS_past (s:Sess):∀c∈pastS s,OfS s c:=by
 have h1:=ofS_pS1 s
 have h2:∀c∈pS2 s,OfS s c:=by unfold pS2;split;exact ofS_snoc h1 (ofS_0 s 3 (by decide));exact h1
 have h3:∀c∈pS3 s,OfS s c:=by unfold pS3;split;exact ofS_snoc h2 (ofS_C s);exact h2
 have h4:∀c∈pS4 s,OfS s c:=by unfold pS4;split;exact ofS_snoc h3 (ofS_0 s 5 (by decide));exact h3
 unfold pastS;split;exact ofS_snoc h4 (ofS_0 s 6 (by decide));exact h4
def recC (c:Chg):List UInt8:=(recB (encB c)).data.toList
def snapL (cs:List Chg):List UInt8:=(cs.map recC).flatten
def outL (xs:List Sess):List UInt8:=(xs.map fun s=>snapL (pastS s)).flatten
def snapB (xs:List Sess):ByteArray:=if tblB xs then ⟨(outL xs).toArray⟩ else ⟨#[]⟩
theorem encB_size (c:Chg):(encB c).size≤60000:=by
 unfold encB
 split
 ·have:=encL_short (by assumption)
  show (encL c).toArray.size≤60000
  simpa using this
 ·exact zrL _
theorem recC_len (c:Chg):(recC c).length≤61952∧(recB (encB c)).size≤61952:=by
 have h:=recB_size (encB_size c)
 have h2:=encB_size c
 have h3:(recB (encB c)).size≤61952:=by rw[h];unfold sectN;omega
 refine⟨?_,h3⟩
 unfold recC
 simpa using h3
theorem snapL_len:∀cs:List Chg,(snapL cs).length≤cs.length * 61952
 | []=>by simp[snapL]
 | c :: t=>by
  have h:=snapL_len t
  have h2:=(recC_len c).1
  unfold snapL at *
  simp only[List.map_cons,List.flatten_cons,List.length_append,List.length_cons,Nat.add_mul]
  omega
theorem outL_len:∀xs:List Sess,(outL xs).length≤xs.length * 371712
 | []=>by simp[outL]
 | s :: t=>by
  have h:=outL_len t
  have h2:=snapL_len (pastS s)
  have h3:=pastS_len s
  unfold outL at *
  simp only[List.map_cons,List.flatten_cons,List.length_append,List.length_cons,Nat.add_mul]
  omega
theorem snapL_step (cs:List Chg) (k:Nat) (h:k<cs.length):snapL (cs.take (k+1))=snapL (cs.take k)++recC cs[k]:=by
 unfold snapL
 rw[List.take_succ_eq_append_getElem h,List.map_append,List.flatten_append]
 simp
theorem outL_step (xs:List Sess) (k:Nat) (h:k<xs.length):outL (xs.take (k+1))=outL (xs.take k)++snapL (pastS xs[k]):=by
 unfold outL
 rw[List.take_succ_eq_append_getElem h,List.map_append,List.flatten_append]
 simp
theorem tblB_sess {xs:List Sess} (h:tblB xs=true):xs.length≤16∧∀i (hi:i<xs.length),sessB xs[i]=true:=by
 unfold tblB at h
 rw[Bool.and_eq_true,decide_eq_true_eq,decide_eq_true_eq] at h
 exact⟨h.1,fun i hi=>(h.2 i hi).1⟩
theorem sessB_small {s:Sess} (h:sessB s=true):s.tag.size≤16∧s.query.size≤200∧s.rows.length≤200:=by
 unfold sessB at h
 simp only[Bool.and_eq_true] at h
 exact⟨tagB_size h.1.2.1,textB_size h.1.2.2.1,(rowsB_size h.1.2.2.2.2).1⟩
theorem ofS_small {s:Sess} {c:Chg} (h:sessB s=true) (hc:OfS s c):c.tag.size≤1048576∧c.query.size≤1048576:=by
 obtain⟨h1,h2,_⟩:=sessB_small h
 obtain⟨e1,e2,_⟩:=hc
 refine⟨by rw[e1];omega,?_⟩
 rcases e2 with e|e
 ·rw[e];omega
 ·rw[e];decide
def cgR (rv:Value) (c:Chg):Value:=if c.kind=2 then rv else .slice none 0 0
def snC (rv:Value) (c:Chg):List Value:=[.int .i64 c.kind,.int .i64 c.client,.string c.tag,.string c.query,.int .i64 c.page,cgR rv c,.int .i64 c.n]
theorem cgC_len (rv:Value) (c:Chg):(snC rv c).length=7:=rfl
theorem info_Chg:(Tryz.prog.info? 28).map (fun i=>(i.zero,i.size,i.bytes))=some (some (.agg #[.int .i64 0,.int .i64 0,.string ByteArray.empty,.string ByteArray.empty,.int .i64 0,.slice none 0 0,.int .i64 0]),7,88):=by kernel_rfl
theorem cgC_one (a:Option Addr) (n cap:Nat) (c:Chg):∀u∈snC (.slice a n cap) c,u.oneCell'=true:=by
 intro u hu
 simp only[snC,cgR,List.mem_cons,List.not_mem_nil,or_false] at hu
 rcases hu with rfl|rfl|rfl|rfl|rfl|rfl|rfl
 all_goals first|rfl|(split <;> rfl)
theorem FB.lit1 {α:Type} {C:α→List Value} {c:Nat} (hC:∀x,(C x).length=c) (e:TypeId) (w:World) (x:α):FB C c e w.heap.size (w.alloc (.cells (C x).toArray e)) (.slice (some ⟨w.heap.size,0,none⟩) 1 1) [x]:=by
 have h:=World.ownsRow_lit (base:=w.heap.size) (e:=e) (size:=c) w (C x).toArray 1 (leR _) (by unfold maxLen;omega) (by simp[hC])
 unfold FB
 have e2:flat C [x]=C x:=by simp[flat]
 rw[e2]
 simpa using h
theorem cg_cells {rv:Value} {base:Nat} {X:World} {a:Option Addr} {n cap:Nat} {cs:List Chg} (h:FB (snC rv) 7 28 base X (.slice a n cap) cs) (hz:cs.length≤1000) (k:Nat) (hk:k<cs.length) :
  ∃b off,a=some ⟨b,off,none⟩∧b<X.heap.size∧X.cell? ⟨b,off+k * 7,none⟩=some (.int .i64 cs[k].kind)∧X.cell? ⟨b,off+k * 7+1,none⟩=some (.int .i64 cs[k].client)∧X.cell? ⟨b,off+k * 7+2,none⟩=some (.string cs[k].tag)∧X.cell? ⟨b,off+k * 7+3,none⟩=some (.string cs[k].query)∧X.cell? ⟨b,off+k * 7+4,none⟩=some (.int .i64 cs[k].page)∧X.cell? ⟨b,off+k * 7+5,none⟩=some (cgR rv cs[k])∧X.cell? ⟨b,off+k * 7+6,none⟩=some (.int .i64 cs[k].n):=by
 obtain⟨h0,hA⟩:=FB.at (C:=snC rv) (c:=7) (Z:=fun _=>True) (cgC_len rv) h (by omega) (fun _ _=>trivial)
 rcases hA with⟨a9,c9,e9,e2⟩|⟨b,off,c9,e9,hbb,hA⟩
 ·rw[e2] at hk;simp at hk
 ·injection e9 with e1 _ _
  have g:=fun j hj=>(hA k hk).1 j hj
  have c0:=g 0 (by simp[snC])
  have c1:=g 1 (by simp[snC])
  have c2:=g 2 (by simp[snC])
  have c3:=g 3 (by simp[snC])
  have c4:=g 4 (by simp[snC])
  have c5:=g 5 (by simp[snC])
  have c6:=g 6 (by simp[snC])
  exact⟨b,off,e1,hbb.2,by simpa [snC] using c0,by simpa [snC] using c1,by simpa [snC] using c2,by simpa [snC] using c3,by simpa [snC] using c4,by simpa [snC] using c5,by simpa [snC] using c6⟩
theorem cg_rows {s:Sess} {c:Chg} (hc:OfS s c) {lo:Nat} {X:World} {rv:Value} (h:StrsAt lo X rv s.rows):StrsAt lo X (cgR rv c) c.rows:=by
 unfold cgR
 rcases hc.2.2 with⟨e1,e2⟩|⟨e1,e2⟩
 ·rw[if_pos e1,e2];exact h
 ·rw[if_neg e1,e2];exact⟨by simp,.inl ⟨_,_,rfl,rfl⟩⟩
theorem Buf.blk {base:Nat} {w:World} {v:Value} {bs:List UInt8} (h:Buf base w v bs) {b:Nat} (hb:v.ownBlock=some b):∃cs,w.heap[b]?=some (.cells cs 5 (0,0)):=by
 obtain⟨_,⟨rfl,h0⟩|⟨g,cap,cur,rfl,hg,hs,_⟩⟩:=h
 ·simp[Value.ownBlock] at hb
 ·simp[Value.ownBlock] at hb
  subst hb
  exact⟨cur,hs⟩
theorem Grew.fb {α:Type} {C:α→List Value} {c:Nat} {e:TypeId} {base b0:Nat} {w w':World} {v u vc:Value} {bs:List UInt8} {xs:List α} (hg:Grew w v w' u) (hB:Buf b0 w v bs) (h:FB C c e base w vc xs) (he:e≠5):FB C c e base w' vc xs :=
 h.keep fun b hb=>hg.block (h.own b hb).2 fun e1=>by
  obtain⟨c1,h1⟩:=hB.blk e1
  obtain⟨c2,h2⟩:=h.blk (Option.mem_toList.1 hb)
  rw[h1] at h2
  injection h2 with h2
  injection h2 with _ h2 _
  exact he h2.symm
end Go.Proofs.YtglcdcekkglmiaaGreatDoor.Msg
