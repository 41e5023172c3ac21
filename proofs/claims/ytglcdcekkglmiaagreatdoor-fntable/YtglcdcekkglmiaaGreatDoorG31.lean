import Derived.Test.YtglcdcekkglmiaaGreatDoorG29
namespace Go.Proofs.YtglcdcekkglmiaaGreatDoor.Msg
open Go.ChangeShapes Go.WideShapes Go.ChangeAt Go.RowKit
set_option linter.unusedVariables false
set_option linter.unusedSimpArgs false
set_option maxRecDepth 100000 in
set_option maxHeartbeats 16000000 in
theorem open_full {base:Nat} {w:World} {K M:Nat} {ov:Value} {nm:Nat} {ps:List (Sess × Value)} {bs:List Nat} (h:BK base w K M ov nm ps bs) (hbase:base≤w.heap.size) (hV:TV ps) (hnm:nm≤100000) (c:Chg) (hk:c.kind=1) (hc:(Lit.int .i64 c.client).wf=true) (ht:c.tag.size≤9223372036854775807) (hq:c.query.size≤9223372036854775807) (au:Option Addr) (nu cu:Nat) (hf1:foundB ps bs c.client c.tag [1,2]=none) (hf:foundB ps bs c.client c.tag [3,4]=none) (hlt:bs.length=16) (hno:endedI (ps.map Prod.fst) = -1) (hR1:openP (ps.map Prod.fst) c=(ps.map Prod.fst,2)) :
  Calls Tryz.prog 65 #[.pointer (some ⟨K,0,none⟩),chgV c (.slice au nu cu)] w (StPost base w K M nm (BIn K M ov ps bs) (openP (ps.map Prod.fst) c)):=by
 have HH:=hide h
 have HV:=hide hV
 have HNM:=hide hnm
 obtain⟨R,hR⟩:∃R,openP (ps.map Prod.fst) c=R:=⟨_,rfl⟩
 have HR:=hide hR
 rw[hR]
 obtain⟨x1,hx1⟩:∃x,w.alloc (Obj.cells #[.int .i64 c.kind,.int .i64 c.client,.string c.tag,.string c.query,.int .i64 c.page,.slice au nu cu,.int .i64 c.n] 28)=x:=⟨_,rfl⟩
 have b1:Below w.heap.size w x1:=by rw[←hx1];exact alcB _ _
 have HO1:Hid (Box x1 w.heap.size 28 #[.int .i64 c.kind,.int .i64 c.client,.string c.tag,.string c.query,.int .i64 c.page,.slice au nu cu,.int .i64 c.n]):=by rw[←hx1];exact Box.new _ _ _
 obtain⟨kind,client,tag,query,page,rows,n0⟩:=c
 unfold chgV
 dsimp only at hk HR hx1 HO1 hc ht hq hf1 hf hR1 ⊢
 subst hk
 have HB1:=hide b1
 have HBX1:=hide (HH.out.below b1)
 have HX1:=hide hx1
 have HCW:=hide hc
 have HTG:=hide ht
 have HQ:=hide hq
 have HLEN:Hid (bs.length≤16):=by show _≤_;rw[HH.out.len];exact HV.out.len
 have HF1:=hide hf1
 have HF:=hide hf
 have HLT:=hide hlt
 have HNO:=hide hno
 have HRE:Hid (R=(ps.map Prod.fst,2)):=HR.out.symm.trans hR1
 clear hf1 hf hno hR1 hlt
 clear h hR hx1 b1 hc ht hq hV hnm
 go_enter Tryz.func65,Tryz.ntmps65
 go_upto_region 1 with fail
 (try rw[HX1.out])
 have q20:x1.cell? ⟨w.heap.size,0,none⟩=some (.int .i64 1):=HO1.out.cell 0 (by simp)
 have q21:x1.cell? ⟨w.heap.size,1,none⟩=some (.int .i64 client):=HO1.out.cell 1 (by simp)
 have q22:x1.cell? ⟨w.heap.size,2,none⟩=some (.string tag):=HO1.out.cell 2 (by simp)
 have q23:x1.cell? ⟨w.heap.size,3,none⟩=some (.string query):=HO1.out.cell 3 (by simp)
 have q24:x1.cell? ⟨w.heap.size,4,none⟩=some (.int .i64 page):=HO1.out.cell 4 (by simp)
 have q25:x1.cell? ⟨w.heap.size,5,none⟩=some (.slice au nu cu):=HO1.out.cell 5 (by simp)
 have q26:x1.cell? ⟨w.heap.size,6,none⟩=some (.int .i64 n0):=HO1.out.cell 6 (by simp)
 have HCK2:=hide (ckey_any ⟨1,client,tag,query,page,rows,n0⟩ au nu cu x1)
 unfold chgV at HCK2
 dsimp only at HCK2
 go_wp2_with fail
 refine HCK2.out.mono ?_
 rintro e V2 ⟨rfl,hv2⟩
 obtain⟨X2,hX2⟩:∃x,V2.alloc (Obj.cells #[.int .i64 1,.int .i64 2] 3)=x:=⟨_,rfl⟩
 have b2:Below V2.heap.size V2 X2:=by rw[←hX2];exact alcB _ _
 have oX2:Box X2 V2.heap.size 3 #[.int .i64 1,.int .i64 2]:=by rw[←hX2];exact Box.new _ _ _
 have hbX2:=bjoin b2 hv2
 have HBK2:=hide (HBX1.out.below hbX2)
 have HB2:=hide (bjoin hbX2 HB1.out)
 have HO2:=hide (HO1.out.below hbX2)
 have hz2:IntsIn X2 V2.heap.size [1,2]:=fun i hi=>by
  have hi':i<2:=hi
  match i,hi' with
  | 0,_=>exact oX2.cell 0 (by simp)
  | 1,_=>exact oX2.cell 1 (by simp)
 have HFD2:=hide (find_any HBK2.out client tag HCW.out HTG.out [1,2] V2.heap.size 2 hz2 oX2.lt (by decide))
 unfold keyV at HFD2
 have HX2:=hide hX2
 clear hv2 b2 oX2 hbX2 hz2 q20 q21 q22 q23 q24 q25 q26 hX2
 unfold keyV
 go_wp2_with fail
 (try rw[HX2.out])
 refine HFD2.out.mono ?_
 rintro e Z2 ⟨rfl,hb2⟩
 have HBZ2:=hide (HBK2.out.below hb2)
 have HBW2:=hide (bjoin hb2 HB2.out)
 have HOZ2:=hide (HO2.out.below hb2)
 clear hb2
 rw[HF1.out]
 unfold outV
 have q30:Z2.cell? ⟨w.heap.size,0,none⟩=some (.int .i64 1):=HOZ2.out.cell 0 (by simp)
 have q31:Z2.cell? ⟨w.heap.size,1,none⟩=some (.int .i64 client):=HOZ2.out.cell 1 (by simp)
 have q32:Z2.cell? ⟨w.heap.size,2,none⟩=some (.string tag):=HOZ2.out.cell 2 (by simp)
 have q33:Z2.cell? ⟨w.heap.size,3,none⟩=some (.string query):=HOZ2.out.cell 3 (by simp)
 have q34:Z2.cell? ⟨w.heap.size,4,none⟩=some (.int .i64 page):=HOZ2.out.cell 4 (by simp)
 have q35:Z2.cell? ⟨w.heap.size,5,none⟩=some (.slice au nu cu):=HOZ2.out.cell 5 (by simp)
 have q36:Z2.cell? ⟨w.heap.size,6,none⟩=some (.int .i64 n0):=HOZ2.out.cell 6 (by simp)
 have HCK3:=hide (ckey_any ⟨1,client,tag,query,page,rows,n0⟩ au nu cu Z2)
 unfold chgV at HCK3
 dsimp only at HCK3
 go_wp2_with fail
 refine HCK3.out.mono ?_
 rintro e V3 ⟨rfl,hv3⟩
 obtain⟨X3,hX3⟩:∃x,V3.alloc (Obj.cells #[.int .i64 3,.int .i64 4] 3)=x:=⟨_,rfl⟩
 have b3:Below V3.heap.size V3 X3:=by rw[←hX3];exact alcB _ _
 have oX3:Box X3 V3.heap.size 3 #[.int .i64 3,.int .i64 4]:=by rw[←hX3];exact Box.new _ _ _
 have hbX3:=bjoin b3 hv3
 have HBK3:=hide (HBZ2.out.below hbX3)
 have HB3:=hide (bjoin hbX3 HBW2.out)
 have HO3:=hide (HOZ2.out.below hbX3)
 have hz3:IntsIn X3 V3.heap.size [3,4]:=fun i hi=>by
  have hi':i<2:=hi
  match i,hi' with
  | 0,_=>exact oX3.cell 0 (by simp)
  | 1,_=>exact oX3.cell 1 (by simp)
 have HFD3:=hide (find_any HBK3.out client tag HCW.out HTG.out [3,4] V3.heap.size 2 hz3 oX3.lt (by decide))
 unfold keyV at HFD3
 have HX3:=hide hX3
 clear hv3 b3 oX3 hbX3 hz3 q30 q31 q32 q33 q34 q35 q36 hX3
 unfold keyV
 go_wp2_with fail
 (try rw[HX3.out])
 refine HFD3.out.mono ?_
 rintro e Z3 ⟨rfl,hb3⟩
 have HBZ3:=hide (HBK3.out.below hb3)
 have HBW3:=hide (bjoin hb3 HB3.out)
 have HOZ3:=hide (HO3.out.below hb3)
 clear hb3
 rw[HF.out]
 unfold outV
 have HBB3:Hid (Below base w Z3):=HBW3.out.mono hbase
 obtain⟨al5,cl5,hl5,_⟩:=HBZ3.out.row.form
 have hk5:Z3.cell? ⟨K,0,none⟩=some (.slice al5 16 cl5):=by have:=HBZ3.out.box.cell 0 (by simp);rw[hl5,HLT.out] at this;exact this
 have HEN:=hide (ended_any HBZ3.out (by have:=HLT.out;omega) (by have:=HLT.out;omega))
 rw[HNO.out] at HEN
 go_wp2_with fail
 refine HEN.out.mono ?_
 rintro e E5 ⟨rfl,hb5⟩
 have HFIN:Hid (StPost base w K M nm (BIn K M ov ps bs) R (.returned (.int .i64 2)) E5):=⟨2,rfl,⟨ov,nm,ps,bs,HBZ3.out.below hb5,HRE.out.symm,Nat.le_succ _,Ft.below (bjoin hb5 HBW3.out)⟩,HBB3.out.trans (hb5.mono (by have:=HBB3.out.size;omega))⟩
 clear hb5
 go_wp2_with fail
 go_ret
 exact HFIN.out
set_option maxRecDepth 100000 in
set_option maxHeartbeats 16000000 in
theorem open_room {base:Nat} {w:World} {K M:Nat} {ov:Value} {nm:Nat} {ps:List (Sess × Value)} {bs:List Nat} (h:BK base w K M ov nm ps bs) (hbase:base≤w.heap.size) (hV:TV ps) (hnm:nm≤100000) (c:Chg) (hk:c.kind=1) (hc:(Lit.int .i64 c.client).wf=true) (ht:c.tag.size≤9223372036854775807) (hq:c.query.size≤9223372036854775807) (au:Option Addr) (nu cu:Nat) (i:Nat) (hib:i<bs.length) (b:Nat) (hb:bs[i]=b) (hf1:foundB ps bs c.client c.tag [1,2]=none) (hf:foundB ps bs c.client c.tag [3,4]=none) (hlt:bs.length=16) (hyes:endedI (ps.map Prod.fst)=(i:Int)) (hkn:keyF (ps.eraseIdx i) (bs.eraseIdx i) c.client c.tag=none) (hR1:openP (ps.map Prod.fst) c=((ps.eraseIdx i).map Prod.fst++[newS c],0)) :
  Calls Tryz.prog 65 #[.pointer (some ⟨K,0,none⟩),chgV c (.slice au nu cu)] w (StPost base w K M nm (BIn K M ov ps bs) (openP (ps.map Prod.fst) c)):=by
 have HH:=hide h
 have HV:=hide hV
 have HNM:=hide hnm
 obtain⟨R,hR⟩:∃R,openP (ps.map Prod.fst) c=R:=⟨_,rfl⟩
 have HR:=hide hR
 rw[hR]
 obtain⟨x1,hx1⟩:∃x,w.alloc (Obj.cells #[.int .i64 c.kind,.int .i64 c.client,.string c.tag,.string c.query,.int .i64 c.page,.slice au nu cu,.int .i64 c.n] 28)=x:=⟨_,rfl⟩
 have b1:Below w.heap.size w x1:=by rw[←hx1];exact alcB _ _
 have HO1:Hid (Box x1 w.heap.size 28 #[.int .i64 c.kind,.int .i64 c.client,.string c.tag,.string c.query,.int .i64 c.page,.slice au nu cu,.int .i64 c.n]):=by rw[←hx1];exact Box.new _ _ _
 obtain⟨kind,client,tag,query,page,rows,n0⟩:=c
 unfold chgV
 dsimp only at hk HR hx1 HO1 hc ht hq hf1 hf hkn hR1 ⊢
 subst hk
 have HB1:=hide b1
 have HBX1:=hide (HH.out.below b1)
 have HX1:=hide hx1
 have HCW:=hide hc
 have HTG:=hide ht
 have HQ:=hide hq
 have HLEN:Hid (bs.length≤16):=by show _≤_;rw[HH.out.len];exact HV.out.len
 have HF1:=hide hf1
 have HF:=hide hf
 have HIB:=hide hib
 have HE2:Hid (bs[i]'HIB.out=b):=hb
 have HLT:=hide hlt
 have HYES:=hide hyes
 have HKN:=hide hkn
 have HRE:Hid (R=((ps.eraseIdx i).map Prod.fst++[newS ⟨1,client,tag,query,page,rows,n0⟩],0)):=HR.out.symm.trans hR1
 have hi16:i<16:=by omega
 clear hf1 hf hb hkn hR1 hyes hlt hib
 clear h hR hx1 b1 hc ht hq hV hnm
 go_enter Tryz.func65,Tryz.ntmps65
 go_upto_region 1 with fail
 (try rw[HX1.out])
 have q20:x1.cell? ⟨w.heap.size,0,none⟩=some (.int .i64 1):=HO1.out.cell 0 (by simp)
 have q21:x1.cell? ⟨w.heap.size,1,none⟩=some (.int .i64 client):=HO1.out.cell 1 (by simp)
 have q22:x1.cell? ⟨w.heap.size,2,none⟩=some (.string tag):=HO1.out.cell 2 (by simp)
 have q23:x1.cell? ⟨w.heap.size,3,none⟩=some (.string query):=HO1.out.cell 3 (by simp)
 have q24:x1.cell? ⟨w.heap.size,4,none⟩=some (.int .i64 page):=HO1.out.cell 4 (by simp)
 have q25:x1.cell? ⟨w.heap.size,5,none⟩=some (.slice au nu cu):=HO1.out.cell 5 (by simp)
 have q26:x1.cell? ⟨w.heap.size,6,none⟩=some (.int .i64 n0):=HO1.out.cell 6 (by simp)
 have HCK2:=hide (ckey_any ⟨1,client,tag,query,page,rows,n0⟩ au nu cu x1)
 unfold chgV at HCK2
 dsimp only at HCK2
 go_wp2_with fail
 refine HCK2.out.mono ?_
 rintro e V2 ⟨rfl,hv2⟩
 obtain⟨X2,hX2⟩:∃x,V2.alloc (Obj.cells #[.int .i64 1,.int .i64 2] 3)=x:=⟨_,rfl⟩
 have b2:Below V2.heap.size V2 X2:=by rw[←hX2];exact alcB _ _
 have oX2:Box X2 V2.heap.size 3 #[.int .i64 1,.int .i64 2]:=by rw[←hX2];exact Box.new _ _ _
 have hbX2:=bjoin b2 hv2
 have HBK2:=hide (HBX1.out.below hbX2)
 have HB2:=hide (bjoin hbX2 HB1.out)
 have HO2:=hide (HO1.out.below hbX2)
 have hz2:IntsIn X2 V2.heap.size [1,2]:=fun i hi=>by
  have hi':i<2:=hi
  match i,hi' with
  | 0,_=>exact oX2.cell 0 (by simp)
  | 1,_=>exact oX2.cell 1 (by simp)
 have HFD2:=hide (find_any HBK2.out client tag HCW.out HTG.out [1,2] V2.heap.size 2 hz2 oX2.lt (by decide))
 unfold keyV at HFD2
 have HX2:=hide hX2
 clear hv2 b2 oX2 hbX2 hz2 q20 q21 q22 q23 q24 q25 q26 hX2
 unfold keyV
 go_wp2_with fail
 (try rw[HX2.out])
 refine HFD2.out.mono ?_
 rintro e Z2 ⟨rfl,hb2⟩
 have HBZ2:=hide (HBK2.out.below hb2)
 have HBW2:=hide (bjoin hb2 HB2.out)
 have HOZ2:=hide (HO2.out.below hb2)
 clear hb2
 rw[HF1.out]
 unfold outV
 have q30:Z2.cell? ⟨w.heap.size,0,none⟩=some (.int .i64 1):=HOZ2.out.cell 0 (by simp)
 have q31:Z2.cell? ⟨w.heap.size,1,none⟩=some (.int .i64 client):=HOZ2.out.cell 1 (by simp)
 have q32:Z2.cell? ⟨w.heap.size,2,none⟩=some (.string tag):=HOZ2.out.cell 2 (by simp)
 have q33:Z2.cell? ⟨w.heap.size,3,none⟩=some (.string query):=HOZ2.out.cell 3 (by simp)
 have q34:Z2.cell? ⟨w.heap.size,4,none⟩=some (.int .i64 page):=HOZ2.out.cell 4 (by simp)
 have q35:Z2.cell? ⟨w.heap.size,5,none⟩=some (.slice au nu cu):=HOZ2.out.cell 5 (by simp)
 have q36:Z2.cell? ⟨w.heap.size,6,none⟩=some (.int .i64 n0):=HOZ2.out.cell 6 (by simp)
 have HCK3:=hide (ckey_any ⟨1,client,tag,query,page,rows,n0⟩ au nu cu Z2)
 unfold chgV at HCK3
 dsimp only at HCK3
 go_wp2_with fail
 refine HCK3.out.mono ?_
 rintro e V3 ⟨rfl,hv3⟩
 obtain⟨X3,hX3⟩:∃x,V3.alloc (Obj.cells #[.int .i64 3,.int .i64 4] 3)=x:=⟨_,rfl⟩
 have b3:Below V3.heap.size V3 X3:=by rw[←hX3];exact alcB _ _
 have oX3:Box X3 V3.heap.size 3 #[.int .i64 3,.int .i64 4]:=by rw[←hX3];exact Box.new _ _ _
 have hbX3:=bjoin b3 hv3
 have HBK3:=hide (HBZ2.out.below hbX3)
 have HB3:=hide (bjoin hbX3 HBW2.out)
 have HO3:=hide (HOZ2.out.below hbX3)
 have hz3:IntsIn X3 V3.heap.size [3,4]:=fun i hi=>by
  have hi':i<2:=hi
  match i,hi' with
  | 0,_=>exact oX3.cell 0 (by simp)
  | 1,_=>exact oX3.cell 1 (by simp)
 have HFD3:=hide (find_any HBK3.out client tag HCW.out HTG.out [3,4] V3.heap.size 2 hz3 oX3.lt (by decide))
 unfold keyV at HFD3
 have HX3:=hide hX3
 clear hv3 b3 oX3 hbX3 hz3 q30 q31 q32 q33 q34 q35 q36 hX3
 unfold keyV
 go_wp2_with fail
 (try rw[HX3.out])
 refine HFD3.out.mono ?_
 rintro e Z3 ⟨rfl,hb3⟩
 have HBZ3:=hide (HBK3.out.below hb3)
 have HBW3:=hide (bjoin hb3 HB3.out)
 have HOZ3:=hide (HO3.out.below hb3)
 clear hb3
 rw[HF.out]
 unfold outV
 have HBB3:Hid (Below base w Z3):=HBW3.out.mono hbase
 obtain⟨g,cap,hov⟩:∃g cap,ov=.slice (some ⟨g,0,none⟩) 16 cap:=by
  obtain⟨_,⟨e,h0⟩|⟨g,cap,cur,e,_⟩⟩:=id HBZ3.out.row
  ·have:=HLT.out;omega
  ·exact⟨g,cap,by rw[e,HLT.out]⟩
 subst hov
 have hk5:Z3.cell? ⟨K,0,none⟩=some (.slice (some ⟨g,0,none⟩) 16 cap):=HBZ3.out.box.cell 0 (by simp)
 have HEN:=hide (ended_any HBZ3.out (by have:=HLT.out;omega) (by have:=HLT.out;omega))
 rw[HYES.out] at HEN
 go_wp2_with fail
 refine HEN.out.mono ?_
 rintro e E5 ⟨rfl,hb5⟩
 have HBE:=hide (HBZ3.out.below hb5)
 have HB5X:=hide hb5
 have HBB5:Hid (Below base w E5):=HBB3.out.trans (hb5.mono (by have:=HBB3.out.size;omega))
 have HOE:=hide (HOZ3.out.below hb5)
 have hk6:E5.cell? ⟨K,0,none⟩=some (.slice (some ⟨g,0,none⟩) 16 cap):=HBE.out.box.cell 0 (by simp)
 have hc6:E5.cell? ⟨g,i,none⟩=some (.pointer (some ⟨b,0,none⟩)):=by rw[←HE2.out];exact HBE.out.row.rowCell i HIB.out
 have hi0:¬((i:Int)<0):=by omega
 have hi1:(i:Int)<16:=by omega
 clear hb5 hk5
 have HTO4:=hide (takeOut_any HBE.out (by have:=HBB5.out.size;omega) (by have:=HLEN.out;omega) HV.out.ku HV.out.cw HIB.out HE2.out)
 go_wp2_with fail
 refine HTO4.out.mono ?_
 rintro e T4 ⟨rfl,⟨ov4,hbk4,hft4⟩,hbl4,hty4⟩
 have HBT4:=hide hbk4
 have HBB4:Hid (Below base w T4):=HBB5.out.trans hbl4
 have HOT4:Hid (Box T4 w.heap.size 28 #[.int .i64 1,.int .i64 client,.string tag,.string query,.int .i64 page,.slice au nu cu,.int .i64 n0]):=HOE.out.keep (hty4 _ _ _ HOE.out (by decide) (by decide))
 have HFT4:=hide ((Ft.below (bjoin HB5X.out HBW3.out)).trans hft4)
 clear hbk4 hbl4 hty4 hft4
 have HL4:Hid ((bs.eraseIdx i).length<16):=by show _<_;rw[List.length_eraseIdx,if_pos HIB.out];have:=HLT.out;omega
 have q60:T4.cell? ⟨w.heap.size,0,none⟩=some (.int .i64 1):=HOT4.out.cell 0 (by simp)
 have q61:T4.cell? ⟨w.heap.size,1,none⟩=some (.int .i64 client):=HOT4.out.cell 1 (by simp)
 have q62:T4.cell? ⟨w.heap.size,2,none⟩=some (.string tag):=HOT4.out.cell 2 (by simp)
 have q63:T4.cell? ⟨w.heap.size,3,none⟩=some (.string query):=HOT4.out.cell 3 (by simp)
 have q64:T4.cell? ⟨w.heap.size,4,none⟩=some (.int .i64 page):=HOT4.out.cell 4 (by simp)
 have q65:T4.cell? ⟨w.heap.size,5,none⟩=some (.slice au nu cu):=HOT4.out.cell 5 (by simp)
 have q66:T4.cell? ⟨w.heap.size,6,none⟩=some (.int .i64 n0):=HOT4.out.cell 6 (by simp)
 obtain⟨A6,hA6⟩:∃x,T4.alloc (Obj.cells #[.int .i64 client,.string tag,.string query,.int .i64 page,.int .i64 1,.slice none 0 0,.int .i64 0] 41)=x:=⟨_,rfl⟩
 have ba6:Below T4.heap.size T4 A6:=by rw[←hA6];exact alcB _ _
 have oa6:Box A6 T4.heap.size 41 #[.int .i64 client,.string tag,.string query,.int .i64 page,.int .i64 1,.slice none 0 0,.int .i64 0]:=by rw[←hA6];exact Box.new _ _ _
 have hbA6:base≤T4.heap.size:=by have:=HBB4.out.size;omega
 have HAD6:=hide (add_any (HBT4.out.below ba6) (newS ⟨1,client,tag,query,page,rows,n0⟩) none 0 T4.heap.size oa6 hbA6 (fun hm=>by have:=(HBT4.out.own (.inr (.inr (.inr (.inl hm))))).2;omega) ⟨HTG.out,HQ.out,by simp[newS],by simp[newS]⟩ (FB.nil _ _ _ _ _) (fun d hd=>by simp[Value.ownBlock] at hd) HKN.out HCW.out (by have:=ba6.size;omega) HNM.out (by have:=HL4.out;omega))
 have HBA6:Hid (Below base w A6):=HBB4.out.trans (ba6.mono hbA6)
 have HBA6X:=hide ba6
 have HAE6:=hide hA6
 clear ba6 oa6 hbA6 hA6
 go_wp2_with fail
 (try rw[HAE6.out])
 refine HAD6.out.mono ?_
 rintro e U6 ⟨rfl,⟨ou6,hbu6,hft6⟩,hbl6⟩
 have HFIN:Hid (StPost base w K M nm (BIn K M (.slice (some ⟨g,0,none⟩) 16 cap) ps bs) R (.returned (.int .i64 0)) U6):=⟨0,rfl,⟨ou6,_,_,_,hbu6,by rw[HRE.out,List.map_append];rfl,leR _,(HFT4.out).trans (((Ft.below HBA6X.out).trans hft6).wide (fun d hd=>hd.elim (fun h=>.inl h) fun h=>h.elim (fun h=>.inr (Nat.le_of_eq h.symm)) fun h=>absurd h (by simp[Value.ownBlock])))⟩,HBA6.out.trans hbl6⟩
 clear hbu6 hbl6 hft6
 go_wp2_with fail
 go_ret
 exact HFIN.out
end Go.Proofs.YtglcdcekkglmiaaGreatDoor.Msg
