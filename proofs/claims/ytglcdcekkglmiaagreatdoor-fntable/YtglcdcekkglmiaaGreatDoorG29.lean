import Derived.Test.YtglcdcekkglmiaaGreatDoorG28
namespace Go.Proofs.YtglcdcekkglmiaaGreatDoor.Msg
open Go.ChangeShapes Go.WideShapes Go.ChangeAt Go.RowKit
set_option linter.unusedVariables false
set_option linter.unusedSimpArgs false
def endedI (xs:List Sess):Int:=match xs.findIdx? deadB with
 | some i=>(i:Int)
 | none=>-1
theorem endedI_hit {xs:List Sess} {k:Nat} (h:k<xs.length) (h1:∀i (hi:i<xs.length),i<k→deadB xs[i]=false) (h2:deadB xs[k]=true):endedI xs=(k:Int):=by
 unfold endedI
 have:xs.findIdx? deadB=some k:=by
  rw[List.findIdx?_eq_some_iff_getElem]
  exact⟨h,h2,fun j hj=>by simp[h1 j (by omega) hj]⟩
 rw[this]
theorem endedI_no {xs:List Sess} (h1:∀i (hi:i<xs.length),deadB xs[i]=false):endedI xs = -1:=by
 unfold endedI
 have:xs.findIdx? deadB=none:=by
  rw[List.findIdx?_eq_none_iff]
  intro z hz
  obtain⟨i,hi,rfl⟩:=List.getElem_of_mem hz
  exact h1 i hi
 rw[this]
set_option maxRecDepth 100000 in
set_option maxHeartbeats 4000000 in
theorem dead_any (b:Nat) (s:Sess) (a:Option Addr) (n c:Nat) (w:World) (hB:Box w b 41 (tsC (s,.slice a n c)).toArray) :
  Calls Tryz.prog 102 #[.pointer (some ⟨b,0,none⟩)] w fun e w'=>e=.returned (.bool (deadB s))∧Below w.heap.size w w':=by
 have HL:=hide (isLive_any s a n c w)
 obtain⟨client,tag,query,page,state,rows,cursor⟩:=s
 have g0:w.cell? ⟨b,0,none⟩=some (.int .i64 client):=hB.cell 0 (by simp[tsC])
 have g1:w.cell? ⟨b,1,none⟩=some (.string tag):=hB.cell 1 (by simp[tsC])
 have g2:w.cell? ⟨b,2,none⟩=some (.string query):=hB.cell 2 (by simp[tsC])
 have g3:w.cell? ⟨b,3,none⟩=some (.int .i64 page):=hB.cell 3 (by simp[tsC])
 have g4:w.cell? ⟨b,4,none⟩=some (.int .i64 state):=hB.cell 4 (by simp[tsC])
 have g5:w.cell? ⟨b,5,none⟩=some (.slice a n c):=hB.cell 5 (by simp[tsC])
 have g6:w.cell? ⟨b,6,none⟩=some (.int .i64 cursor):=hB.cell 6 (by simp[tsC])
 unfold sessV at HL
 dsimp only at HL
 clear hB
 unfold deadB
 dsimp only
 go_enter Tryz.func102,Tryz.ntmps102
 go_wp2_with fail
 refine HL.out.mono ?_
 rintro e W ⟨rfl,hb⟩
 have HB:=hide hb
 clear hb
 go_wp2_with fail
 go_ret
 exact⟨rfl,HB.out⟩
set_option maxRecDepth 100000 in
set_option maxHeartbeats 4000000 in
theorem indexE_any (ps:List (Sess × Value)) (bs:List Nat) (g n c:Nat) (w:World) (hv:∀j (h:j<bs.length),w.cell? ⟨g,j,none⟩=some (.pointer (some ⟨bs[j],0,none⟩))) (hgl:g<w.heap.size) (hs:∀i (h1:i<ps.length) (h2:i<bs.length),∃a m k,ps[i].2=.slice a m k∧Box w bs[i] 41 (tsC ps[i]).toArray) (hn:bs.length=n) (hp:ps.length=n) (hl:n≤1000) :
  Calls Tryz.prog 101 #[.slice (some ⟨g,0,none⟩) n c,.func (.func 102) #[] #[]] w fun e w'=>e=.returned (.int .i64 (endedI (ps.map Prod.fst)))∧Below w.heap.size w w':=by
 have HV:=hide hv
 have HN:=hide hn
 have HP:=hide hp
 have HS:=hide hs
 obtain⟨r,hr⟩:∃r,endedI (ps.map Prod.fst)=r:=⟨_,rfl⟩
 have HR:=hide hr
 rw[hr]
 clear hv hn hs hp hr
 go_enter Tryz.func101,Tryz.ntmps101
 go_wp2_with fail
 go_loopg [8] n (fun q v wr=>∃k:Nat,k≤n∧q=n - k∧v=.int .i64 (k:Int)∧(∀j (hj:j<ps.length),j<k→deadB ps[j].1=false)∧Below w.heap.size w wr)
 case atStart=>exact⟨0,zrL _,rfl,rfl,fun j _ h=>absurd h (by omega),Below.refl _ _⟩
 case round =>
  obtain⟨k,hk,rfl,rfl,hno,hb⟩:=hrel
  have HNO:=hide hno
  have HB:=hide hb
  by_cases hlt:k<n
  ·have hki:(k:Int)<(n:Int):=by omega
   have hk0:(0:Int)≤(k:Int):=by omega
   have hkl:k<bs.length:=by rw[HN.out];exact hlt
   have hkp:k<ps.length:=by rw[HP.out];exact hlt
   obtain⟨z,hz⟩:∃z,bs[k]=z:=⟨_,rfl⟩
   have m0:wr.cell? ⟨g,k,none⟩=some (.pointer (some ⟨z,0,none⟩)):=by rw[hb.cell (p:=⟨g,k,none⟩) hgl,←hz];exact HV.out k hkl
   obtain⟨a,m,c',hu,hBx⟩:=HS.out k hkp hkl
   rw[hz] at hBx
   obtain⟨⟨s,u⟩,hpk⟩:∃p,ps[k]=p:=⟨_,rfl⟩
   rw[hpk] at hu hBx
   dsimp only at hu
   subst hu
   have HD:=hide (dead_any z s a m c' wr (hBx.below hb))
   have HPK:=hide hpk
   clear hno hb hz hBx hpk
   cases hd:deadB s with
   | true =>
    rw[hd] at HD
    have HX:Hid (r=(k:Int)):=by
     rw[←HR.out]
     refine endedI_hit (by rw[List.length_map];exact hkp) (fun i hi hik=>?_) ?_
     ·rw[List.getElem_map];exact HNO.out i (by rw[List.length_map] at hi;exact hi) hik
     ·rw[List.getElem_map,HPK.out];exact hd
    clear hd
    go_wp2_with (go_at_call 102;refine HD.out.mono ?_;rintro en W2 ⟨rfl,hb2⟩)
    go_ret
    exact⟨ret_int HX.out.symm,bjoin hb2 HB.out⟩
   | false =>
    rw[hd] at HD
    have HX:Hid (∀j (hj:j<ps.length),j<k+1→deadB ps[j].1=false):=fun j hj hjk=>by
     by_cases e:j=k
     ·subst e;rw[HPK.out];exact hd
     ·exact HNO.out j hj (by omega)
    clear hd
    go_wp2_with (go_at_call 102;refine HD.out.mono ?_;rintro en W2 ⟨rfl,hb2⟩)
    go_roundg (n - (k+1))
    case measure=>omega
    case rel=>exact⟨k+1,by omega,rfl,by go_num,HX.out,bjoin hb2 HB.out⟩
  ·have hki:¬(k:Int)<(n:Int):=by omega
   obtain rfl:k=n:=by omega
   have HX:Hid (r = -1):=by
    rw[←HR.out]
    refine endedI_no fun i hi=>?_
    rw[List.getElem_map]
    rw[List.length_map] at hi
    exact HNO.out i hi (by rw[←HP.out];exact hi)
   clear hno hb
   go_wp2_with fail
   go_ret
   exact⟨ret_int HX.out.symm,HB.out⟩
set_option maxHeartbeats 4000000 in
theorem ended_any {base:Nat} {w:World} {K M:Nat} {ov:Value} {nm:Nat} {ps:List (Sess × Value)} {bs:List Nat} (h:BK base w K M ov nm ps bs) (hl:bs.length≤1000) (h0:0<bs.length) :
  Calls Tryz.prog 89 #[.pointer (some ⟨K,0,none⟩)] w fun e w'=>e=.returned (.int .i64 (endedI (ps.map Prod.fst)))∧Below w.heap.size w w':=by
 obtain⟨g,cap,hov⟩:∃g cap,ov=.slice (some ⟨g,0,none⟩) bs.length cap:=by
  obtain⟨_,⟨e,h0⟩|⟨g,cap,cur,e,_⟩⟩:=id h.row
  ·omega
  ·exact⟨g,cap,e⟩
 subst hov
 have HX:=hide (indexE_any ps bs g bs.length cap w (fun j hj=>h.row.rowCell j hj) (h.row.own g (by simp[Value.ownBlock])).2 (fun i h1 h2=>by
  obtain⟨a,c,e,_⟩:=(h.els _ (List.getElem_mem h1)).2.form
  exact⟨a,_,c,e,h.ses i h1 h2⟩) rfl h.len.symm hl)
 obtain⟨r,hr⟩:∃r,endedI (ps.map Prod.fst)=r:=⟨_,rfl⟩
 have k0:w.cell? ⟨K,0,none⟩=some (.slice (some ⟨g,0,none⟩) bs.length cap):=h.box.cell 0 (by simp)
 obtain⟨n,hn⟩:∃n,bs.length=n:=⟨_,rfl⟩
 rw[hr,hn] at HX
 rw[hn] at k0
 rw[hr]
 clear h hl h0 hr hn
 go_enter Tryz.func89,Tryz.ntmps89
 go_wp2_with fail
 refine HX.out.mono ?_
 rintro e W ⟨rfl,hb⟩
 have HB:=hide hb
 clear hb
 go_wp2_with fail
 go_ret
 exact⟨rfl,HB.out⟩
structure TV (ps:List (Sess × Value)):Prop where
 ku:KU ps
 cw:∀p∈ps,(Lit.int .i64 p.1.client).wf=true
 st:∀p∈ps,p.1.state=1∨p.1.state=2∨p.1.state=3∨p.1.state=4
 len:ps.length≤16
set_option maxRecDepth 100000 in
set_option maxHeartbeats 16000000 in
theorem open_dup {base:Nat} {w:World} {K M:Nat} {ov:Value} {nm:Nat} {ps:List (Sess × Value)} {bs:List Nat} (h:BK base w K M ov nm ps bs) (hbase:base≤w.heap.size) (hV:TV ps) (hnm:nm≤100000) (c:Chg) (hk:c.kind=1) (hc:(Lit.int .i64 c.client).wf=true) (ht:c.tag.size≤9223372036854775807) (hq:c.query.size≤9223372036854775807) (au:Option Addr) (nu cu:Nat) (b:Nat) (hf:foundB ps bs c.client c.tag [1,2]=some b) (hR1:openP (ps.map Prod.fst) c=(ps.map Prod.fst,1)) :
  Calls Tryz.prog 65 #[.pointer (some ⟨K,0,none⟩),chgV c (.slice au nu cu)] w (StPost base w K M nm (BIn K M ov ps bs) (openP (ps.map Prod.fst) c)):=by
 have HH:=hide h
 have HV:=hide hV
 have HNM:=hide hnm
 obtain⟨R,hR⟩:∃R,openP (ps.map Prod.fst) c=R:=⟨_,rfl⟩
 have HR:=hide hR
 rw[hR]
 obtain⟨x1,hx1⟩:∃x,w.alloc (Obj.cells #[.int .i64 c.kind,.int .i64 c.client,.string c.tag,.string c.query,.int .i64 c.page,.slice au nu cu,.int .i64 c.n] 28)=x:=⟨_,rfl⟩
 have b1:Below w.heap.size w x1:=by rw[←hx1];exact alcB _ _
 have HO1:Hid (Box x1 w.heap.size 28 #[.int .i64 c.kind,.int .i64 c.client,.string c.tag,.string c.query,.int .i64 c.page,.slice au nu cu,.int .i64 c.n]):=by rw[←hx1];exact Box.new _ _ _
 obtain⟨kind,client,tag,query,page,rows,n0⟩:=c
 unfold chgV
 dsimp only at hk HR hx1 HO1 hc ht hq hf hR1 ⊢
 subst hk
 have HB1:=hide b1
 have HBX1:=hide (HH.out.below b1)
 have HX1:=hide hx1
 have HCW:=hide hc
 have HTG:=hide ht
 have HQ:=hide hq
 have HLEN:Hid (bs.length≤16):=by show _≤_;rw[HH.out.len];exact HV.out.len
 have HF:=hide hf
 have HRE:Hid (R=(ps.map Prod.fst,1)):=HR.out.symm.trans hR1
 clear hf hR1
 clear h hR hx1 b1 hc ht hq hV hnm
 go_enter Tryz.func65,Tryz.ntmps65
 go_upto_region 1 with fail
 (try rw[HX1.out])
 have q20:x1.cell? ⟨w.heap.size,0,none⟩=some (.int .i64 1):=HO1.out.cell 0 (by simp)
 have q21:x1.cell? ⟨w.heap.size,1,none⟩=some (.int .i64 client):=HO1.out.cell 1 (by simp)
 have q22:x1.cell? ⟨w.heap.size,2,none⟩=some (.string tag):=HO1.out.cell 2 (by simp)
 have q23:x1.cell? ⟨w.heap.size,3,none⟩=some (.string query):=HO1.out.cell 3 (by simp)
 have q24:x1.cell? ⟨w.heap.size,4,none⟩=some (.int .i64 page):=HO1.out.cell 4 (by simp)
 have q25:x1.cell? ⟨w.heap.size,5,none⟩=some (.slice au nu cu):=HO1.out.cell 5 (by simp)
 have q26:x1.cell? ⟨w.heap.size,6,none⟩=some (.int .i64 n0):=HO1.out.cell 6 (by simp)
 have HCK2:=hide (ckey_any ⟨1,client,tag,query,page,rows,n0⟩ au nu cu x1)
 unfold chgV at HCK2
 dsimp only at HCK2
 go_wp2_with fail
 refine HCK2.out.mono ?_
 rintro e V2 ⟨rfl,hv2⟩
 obtain⟨X2,hX2⟩:∃x,V2.alloc (Obj.cells #[.int .i64 1,.int .i64 2] 3)=x:=⟨_,rfl⟩
 have b2:Below V2.heap.size V2 X2:=by rw[←hX2];exact alcB _ _
 have oX2:Box X2 V2.heap.size 3 #[.int .i64 1,.int .i64 2]:=by rw[←hX2];exact Box.new _ _ _
 have hbX2:=bjoin b2 hv2
 have HBK2:=hide (HBX1.out.below hbX2)
 have HB2:=hide (bjoin hbX2 HB1.out)
 have HO2:=hide (HO1.out.below hbX2)
 have hz2:IntsIn X2 V2.heap.size [1,2]:=fun i hi=>by
  have hi':i<2:=hi
  match i,hi' with
  | 0,_=>exact oX2.cell 0 (by simp)
  | 1,_=>exact oX2.cell 1 (by simp)
 have HFD2:=hide (find_any HBK2.out client tag HCW.out HTG.out [1,2] V2.heap.size 2 hz2 oX2.lt (by decide))
 unfold keyV at HFD2
 have HX2:=hide hX2
 clear hv2 b2 oX2 hbX2 hz2 q20 q21 q22 q23 q24 q25 q26 hX2
 unfold keyV
 go_wp2_with fail
 (try rw[HX2.out])
 refine HFD2.out.mono ?_
 rintro e Z2 ⟨rfl,hb2⟩
 have HBZ2:=hide (HBK2.out.below hb2)
 have HBW2:=hide (bjoin hb2 HB2.out)
 have HOZ2:=hide (HO2.out.below hb2)
 clear hb2
 rw[HF.out]
 have HFIN:Hid (StPost base w K M nm (BIn K M ov ps bs) R (.returned (.int .i64 1)) Z2):=⟨1,rfl,⟨ov,nm,ps,bs,HBZ2.out,HRE.out.symm,Nat.le_succ _,Ft.below HBW2.out⟩,HBW2.out.mono hbase⟩
 unfold outV
 go_wp2_with fail
 go_ret
 exact HFIN.out
end Go.Proofs.YtglcdcekkglmiaaGreatDoor.Msg
