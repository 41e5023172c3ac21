import Derived.Test.YtfdihjnlgdiioaaGreatDoorG3
import Derived.Deep.LoopGhost
import Derived.Deep.DeepCutAuto
namespace Go.Proofs.YtfdihjnlgdiioaaGreatDoor.dB
open Go.ChangeShapes Go.WideShapes Go.ChangeAt Go.RowKit
set_option linter.unusedVariables false
set_option linter.unusedSimpArgs false
theorem Buf.empty (base:Nat) (w:World) (hb:base≤w.heap.size):Buf base (w.alloc (.cells #[] 5)) (.slice (some ⟨w.heap.size,0,none⟩) 0 0) []:=by
 have:=World.ownsRow_lit (base:=base) (e:=5) (size:=1) w #[] 0 hb (by unfold maxLen;omega) rfl
 exact this
theorem Buf.lt {base:Nat} {w:World} {v:Value} {bs:List UInt8} (h:Buf base w v bs) {b:Nat} (hb:w.heap.size≤b):v.ownBlock≠some b:=by
 obtain⟨_,⟨rfl,_⟩|⟨g,cap,cur,rfl,hg,hs,_⟩⟩:=h
 ·simp[Value.ownBlock]
 ·have:g<w.heap.size:=by
   rw[Array.getElem?_eq_some_iff] at hs
   exact hs.1
  simp only[Value.ownBlock,ne_eq,Option.some.injEq]
  omega
def dl (k:Nat):List UInt8:=if k=0 then [124,94,126,92,38] else []
theorem ML (l:List UInt8):l.length≤(dR l).length:=by
 induction l with
 | nil=>simp[dR]
 | cons c l ih =>
  have h:1≤(esc c).length:=by
   unfold esc
   repeat (split;· decide)
   simp
  simp only[dR,List.flatMap_cons,List.length_append,List.length_cons] at ih ⊢
  omega
theorem Buf.zG {base:Nat} {w wr w':World} {v0 v v':Value} {bs:List UInt8} (c:UInt8) (z:Int) (hz:(c.toNat:Int)=z) (o:Obj) (hb:fQ w v0 wr v)
  {n:Nat} (hl:n=bs.length) (h:w'.ownsRow base 5 1 v' (n+1) (Qh bs++[.int .u8 z])) (hg:(wr.alloc o).grownBy w' v.ownBlock) (hat:v'.ownBlock=v.ownBlock∨v'.ownBlock=some (wr.heap.size+1)) :
  Buf base w' v' (bs++[c])∧fQ w v0 w' v':=by
 subst hz
 exact Buf.snoc c o hb hl h hg hat
def sp (c:UInt8) (k:Nat):List UInt8:=if k=0 then [] else [c]
theorem QC (c:UInt8) (k:Nat):(sp c k).length=if k=0 then 0 else 1:=by unfold sp;split <;> rfl
set_option maxRecDepth 100000 in
set_option maxHeartbeats 8000000 in
theorem H7 (xs:List Seg) (v:Value) (w:World) (hsz:aT xs≤1048576) {lo:Nat} (hv:aX lo w v xs) :
  Calls Tryz.prog 71 #[.agg #[v]] w fun e w'=>∃u,e=.returned u∧Buf (w.heap.size+1) w' u (iq xs)∧Below w.heap.size w w':=by
 obtain⟨i0,hi,hz0,hz1,hz2⟩:=oD
 have hmw:(iq xs).length≤6291456:=by have:=MI xs;omega
 have hlx:xs.length≤1048576:=by unfold aT aH at hsz;omega
 obtain⟨a,cap,rfl,hc⟩:=hv.form
 have HC:=hide hc
 clear hc hv
 go_enter Tryz.func71,Tryz.ntmps71
 go_wp2
 go_loopg [3,4] xs.length (fun n v3 i wr=>∃k:Nat,k≤xs.length∧n=xs.length - k∧i=.int .i64 k∧Buf (w.heap.size+1) wr v3 (iq (xs.take k))∧Below (w.heap.size+1) (w.alloc (.cells #[.slice a xs.length cap] 28)) wr)
 case atStart=>exact⟨0,eH _,by simp,rfl,by simpa [iq] using Buf.empty (w.heap.size+1) (w.alloc (.cells #[.slice a xs.length cap] 28)) (by simp),(Below.refl _ _).alloc (by simp) _⟩
 case round =>
  obtain⟨k,hk,rfl,rfl,hbuf,hb⟩:=hrel
  obtain⟨W1,rfl⟩:∃x,x=wr:=⟨_,rfl⟩
  obtain⟨V1,rfl⟩:∃x,x=u3:=⟨_,rfl⟩
  have hm:W1.cell? ⟨w.heap.size,0,none⟩=some (.slice a xs.length cap):=by rw[hb.cell (p:=⟨w.heap.size,0,none⟩) (by simp)];simp
  by_cases hlt:k<xs.length
  ·obtain⟨b,off,rfl,_,hbl,hc0,hns,ve,hc1,hel⟩:=HC.out k hlt
   have hbw:Below w.heap.size w W1:=((Below.refl w.heap.size w).alloc (aS _) _).trans (hb.mono (by omega))
   have g0:W1.cell? ⟨b,off+k * 2,none⟩=some (.string xs[k].name):=by rw[hbw.cell (p:=⟨b,off+k * 2,none⟩) hbl];exact hc0
   have g1:W1.cell? ⟨b,off+k * 2+1,none⟩=some ve:=by rw[hbw.cell (p:=⟨b,off+k * 2+1,none⟩) hbl];exact hc1
   have hroom:=Ez xs k hlt
   have HS:Hid (iq (xs.take (k+1))=iq (xs.take k)++xs[k].name.data.toList++dl k++bT xs[k].fields++[13]):=by
    rw[yS xs k hlt];unfold qD dl;simp only[List.append_assoc];trivial
   clear hc0 hc1
   obtain⟨a2,cap2,rfl,hcf⟩:=hel.form
   have HF:=hide hcf
   have hls:(qD k xs[k]).length=xs[k].name.size+(dl k).length+(bT xs[k].fields).length+1:=by
    unfold qD dl;simp only[List.length_append];split <;> simp
   have hlf:xs[k].fields.length≤9223372036854775807:=hel.1
   clear hcf hel
   have hz:w.heap.size+1≤W1.heap.size:=by have:=hb.size;simp at this;omega
   have hne:=hbuf.lt (aS _)
   have hop:=hbuf.own
   have FR:Hid (∀wX vX,fQ (W1.alloc (.cells #[.string xs[k].name,.slice a2 xs[k].fields.length cap2] 54)) V1 wX vX →
     Below (w.heap.size+1) (w.alloc (.cells #[.slice (some ⟨b,off,none⟩) xs.length cap] 28)) wX∧Below w.heap.size w wX∧wX.cell? ⟨W1.heap.size,1,none⟩=some (.slice a2 xs[k].fields.length cap2)∧W1.heap.size<wX.heap.size):=fun wX vX hg=>by
    have h1:=((hb.alloc hz _).trans (hg.below hop (by simp;omega)))
    refine⟨h1,((Below.refl w.heap.size w).alloc (aS _) _).trans (h1.mono (by omega)),?_,?_⟩
    ·rw[World.cell?_of_block (hg.block (b:=W1.heap.size) (by simp) hne)];simp
    ·have:=hg.1.size;simp at this;omega
   go_wp2_with fail
   refine(q8 (w.heap.size+1) (iq (xs.take k)) xs[k].name _ _ (hbuf.alloc _) (by simp;omega) (by omega)).mono ?_
   rintro e w2 ⟨u,rfl,hu,hg⟩
   go_upto_if 28 with fail
   go_cut [3] (fun s3 wx=>Buf (w.heap.size+1) wx s3 (iq (xs.take k)++xs[k].name.data.toList++dl k)∧fQ (W1.alloc (.cells #[.string xs[k].name,.slice a2 xs[k].fields.length cap2] 54)) V1 wx s3)
   case first =>
    by_cases hk0:k=0
    ·have hk':((k:Int) == 0)=true:=by simp;omega
     have hd:dl k=[124,94,126,92,38]:=if_pos hk0
     have HD:=hide hd
     have hf2:=FR.out _ _ hg
     have hz2:w.heap.size+1≤w2.heap.size:=by omega
     clear hd hf2 hk0
     go_wp2_with fail
     refine(q8 (w.heap.size+1) (iq (xs.take k)++xs[k].name.data.toList) ⟨#[124,94,126,92,38]⟩ _ _ hu hz2 (by have:(⟨#[124,94,126,92,38]⟩:ByteArray).size=5:=rfl;simp;omega)).mono ?_
     rintro e w3 ⟨u2,rfl,hu2,hg2⟩
     go_wp2_with fail
     go_meet
     case rel=>exact⟨by rw[HD.out];exact hu2,hg.trans hg2⟩
    ·have hk':((k:Int) == 0)=false:=by simp;omega
     have hd:dl k=[]:=if_neg hk0
     have HD:=hide hd
     clear hd hk0
     go_wp2_with fail
     go_meet
     case rel=>exact⟨by rw[HD.out,List.append_nil];exact hu,hg⟩
   case rest =>
    clear hu hg
    have hP:(iq (xs.take k)++xs[k].name.data.toList++dl k).length+(bT xs[k].fields).length+1≤6291456:=by
     rw[List.length_append,List.length_append]
     have:xs[k].name.data.toList.length=xs[k].name.size:=by simp
     omega
    clear hroom hls
    generalize iq (xs.take k)++xs[k].name.data.toList++dl k=P at *
    go_wp2_with fail
    go_loopg [3,6] xs[k].fields.length (fun n v3 j wr=>∃q:Nat,q≤xs[k].fields.length∧n=xs[k].fields.length - q∧j=.int .i64 q∧Buf (w.heap.size+1) wr v3 (P++bT (xs[k].fields.take q)) ∧
     fQ (W1.alloc (.cells #[.string xs[k].name,.slice a2 xs[k].fields.length cap2] 54)) V1 wr v3)
    case atStart=>exact⟨0,eH _,by simp,rfl,by simpa [bT] using hcut.1,hcut.2⟩
    case round =>
     clear hcut
     obtain⟨q,hq,rfl,rfl,H8,hg2⟩:=hrel
     obtain⟨W2,rfl⟩:∃x,x=wr:=⟨_,rfl⟩
     obtain⟨V2,rfl⟩:∃x,x=u3:=⟨_,rfl⟩
     obtain⟨_,hbw2,hs2,hsz2⟩:=FR.out _ _ hg2
     by_cases hq2:q<xs[k].fields.length
     ·obtain⟨b2,off2,rfl,_,Kn,vf,hcf,Bh⟩:=HF.out q hq2
      have UN:w.cell? ⟨b2,off2+q,none⟩=some vf:=by simpa using hcf
      have Yr:=xB xs[k].fields q hq2
      have HS2:=hide (rA xs[k].fields q hq2)
      obtain⟨a3,Af,rfl,hcr⟩:=Bh.form
      have HR:=hide hcr
      have hlr:xs[k].fields[q].length≤9223372036854775807:=Bh.1
      have HCF:=hide UN
      have agw:(P++bT (xs[k].fields.take q)).length+(1+(iE xs[k].fields[q]).length)≤6291456:=by rw[List.length_append];omega
      have D7:Hid (∀d,d=124 :: iE xs[k].fields[q]→P++bT (xs[k].fields.take q)++d=P++bT (xs[k].fields.take (q+1))):=fun d hd=>by rw[HS2.out,hd,List.append_assoc]
      clear hcf UN hcr Bh Yr HS2
      generalize P++bT (xs[k].fields.take q)=P2 at *
      go_wp2_with (first
       | (at_builtin;refine wpList_append_own_at _ rfl _ _ 22 rfl (w.heap.size+1) 5 i0 (.int .u8 0) 1 1 Tryz.underlying22 hi hz0 hz1 hz2 rfl (by decide) _ _ _ rfl (World.ownsRow.alloc H8 _) ⟨W2.heap.size,0,none⟩ 1 1 [.int .u8 124] rfl rfl ?c1 ?c2 ?c3 ?c4 ?c5 ?_)
       | fail)
      case c1=>exact gH _ _ _
      case c2=>exact oF _
      case c3=>unfold maxLen;omega
      case c4=>omega
      case c5=>simp;omega
      intro v' w' hown' hgrow hnil hat
      have R:=Buf.zG (bs:=P2) 124 124 (by decide) _ hg2 (by first|rfl|simp|(simp;omega)) hown' hgrow hat
      clear hown' hgrow hnil hat
      obtain⟨zH,hR2⟩:=R
      clear H8 hg2 hbw2 hs2 hsz2
      go_wp2_with fail
      go_loopg [3,7] xs[k].fields[q].length (fun n v3 j wr=>∃p:Nat,p≤xs[k].fields[q].length∧n=xs[k].fields[q].length - p∧j=.int .i64 p∧Buf (w.heap.size+1) wr v3 (P2++[124]++joined 126 iY (xs[k].fields[q].take p)) ∧
       fQ (W1.alloc (.cells #[.string xs[k].name,.slice (some ⟨b2,off2,none⟩) xs[k].fields.length cap2] 54)) V1 wr v3)
      case atStart=>exact⟨0,eH _,by simp,rfl,by simpa [joined] using zH,hR2⟩
      case round =>
       clear zH hR2
       obtain⟨p,hp,rfl,rfl,vK,hg3⟩:=hrel
       obtain⟨W3,rfl⟩:∃x,x=wr:=⟨_,rfl⟩
       obtain⟨V3,rfl⟩:∃x,x=u3:=⟨_,rfl⟩
       obtain⟨_,NU,hs3,abb⟩:=FR.out _ _ hg3
       have hf3:W3.cell? ⟨b2,off2+q,none⟩=some (.slice a3 xs[k].fields[q].length Af):=by rw[NU.cell (p:=⟨b2,off2+q,none⟩) Kn];exact HCF.out
       by_cases hp2:p<xs[k].fields[q].length
       ·obtain⟨b3,mq,rfl,_,Ny,vr,hcr,yM⟩:=HR.out p hp2
        have abd:w.cell? ⟨b3,mq+p,none⟩=some vr:=by simpa using hcr
        have Yt:=tJ 126 iY xs[k].fields[q] p hp2
        have HS3:=hide (nu 126 iY xs[k].fields[q] p hp2)
        obtain⟨a4,cap4,rfl,hcc⟩:=yM.form
        have Ko:=hide hcc
        have hlc:xs[k].fields[q][p].length≤9223372036854775807:=yM.1
        have HCR:=hide abd
        have hfl:(iE xs[k].fields[q]).length=(joined 126 iY xs[k].fields[q]).length:=rfl
        have Yu:(P2++[124]++joined 126 iY (xs[k].fields[q].take p)).length+((if p=0 then 0 else 1)+(iY xs[k].fields[q][p]).length)≤6291456:=by rw[List.length_append,List.length_append,List.length_singleton];omega
        have Kg:Hid (∀d,d=sp 126 p++iY xs[k].fields[q][p]→P2++[124]++joined 126 iY (xs[k].fields[q].take p)++d=P2++[124]++joined 126 iY (xs[k].fields[q].take (p+1))):=fun d hd=>by rw[HS3.out,hd];unfold sp;simp only[List.append_assoc]
        clear hcr abd hcc yM Yt HS3 hfl
        generalize P2++[124]++joined 126 iY (xs[k].fields[q].take p)=P3 at *
        go_upto_if 53 with fail
        go_cut [3] (fun s3 wx=>Buf (w.heap.size+1) wx s3 (P3++sp 126 p)∧fQ (W1.alloc (.cells #[.string xs[k].name,.slice (some ⟨b2,off2,none⟩) xs[k].fields.length cap2] 54)) V1 wx s3)
        case first =>
         by_cases hp0:p=0
         ·have hp':¬(0:Int)<(p:Int):=by omega
          have hd:sp 126 p=[]:=if_pos hp0
          have HD:=hide hd
          clear hd hp0 Yu
          go_wp2_with fail
          go_meet
          case rel=>exact⟨by rw[HD.out,List.append_nil];exact vK,hg3⟩
         ·have hp':(0:Int)<(p:Int):=by omega
          have hd:sp 126 p=[126]:=if_neg hp0
          have HD:=hide hd
          rw[if_neg hp0] at Yu
          clear hd hp0
          go_wp2_with (first
           | (at_builtin;refine wpList_append_own_at _ rfl _ _ 22 rfl (w.heap.size+1) 5 i0 (.int .u8 0) 1 1 Tryz.underlying22 hi hz0 hz1 hz2 rfl (by decide) _ _ _ rfl (World.ownsRow.alloc vK _) ⟨W3.heap.size,0,none⟩ 1 1 [.int .u8 126] rfl rfl ?c1 ?c2 ?c3 ?c4 ?c5 ?_)
           | fail)
          case c1=>exact gH _ _ _
          case c2=>exact oF _
          case c3=>unfold maxLen;omega
          case c4=>omega
          case c5=>simp;omega
          intro v' w' hown' hgrow hnil hat
          have R:=Buf.zG (bs:=P3) 126 126 (by decide) _ hg3 (by first|rfl|simp|(simp;omega)) hown' hgrow hat
          clear hown' hgrow hnil hat
          obtain⟨zH,hR2⟩:=R
          go_wp2_with fail
          go_meet
          case rel=>exact⟨by rw[HD.out];exact zH,hR2⟩
        case rest =>
         clear vK hg3 NU hs3 abb hf3
         obtain⟨vK,hg3⟩:=hcut
         obtain⟨Wc,rfl⟩:∃x,x=wc:=⟨_,rfl⟩
         obtain⟨_,NU,hs3,abb⟩:=FR.out _ _ hg3
         have hf3:Wc.cell? ⟨b2,off2+q,none⟩=some (.slice (some ⟨b3,mq,none⟩) xs[k].fields[q].length Af):=by rw[NU.cell (p:=⟨b2,off2+q,none⟩) Kn];exact HCF.out
         have hr3:Wc.cell? ⟨b3,mq+p,none⟩=some (.slice a4 xs[k].fields[q][p].length cap4):=by rw[NU.cell (p:=⟨b3,mq+p,none⟩) Ny];exact HCR.out
         have agx:(P3++sp 126 p).length+(iY xs[k].fields[q][p]).length≤6291456:=by rw[List.length_append,QC];omega
         have HP4:Hid (∀d,d=iY xs[k].fields[q][p]→P3++sp 126 p++d=P2++[124]++joined 126 iY (xs[k].fields[q].take (p+1))):=fun d hd=>by rw[List.append_assoc];exact Kg.out _ (by rw[hd])
         clear Yu Kg
         generalize P3++sp 126 p=P4 at *
         go_wp2_with fail
         clear hs3 hf3 hr3
         go_loopg [3,9] xs[k].fields[q][p].length (fun n v3 j wr=>∃y:Nat,y≤xs[k].fields[q][p].length∧n=xs[k].fields[q][p].length - y∧j=.int .i64 y∧Buf (w.heap.size+1) wr v3 (P4++joined 94 (fun c=>dR c.data.toList) (xs[k].fields[q][p].take y)) ∧
          fQ (W1.alloc (.cells #[.string xs[k].name,.slice (some ⟨b2,off2,none⟩) xs[k].fields.length cap2] 54)) V1 wr v3)
         case atStart=>exact⟨0,eH _,by simp,rfl,by simpa [joined] using vK,hg3⟩
         case round =>
          clear vK hg3 NU
          obtain⟨y,hy,rfl,rfl,xC,hg4⟩:=hrel
          obtain⟨W4,rfl⟩:∃x,x=wr:=⟨_,rfl⟩
          obtain⟨V4,rfl⟩:∃x,x=u3:=⟨_,rfl⟩
          by_cases hy2:y<xs[k].fields[q][p].length
          ·obtain⟨b4,wC,rfl,_,Yk,hc4,hs4⟩:=Ko.out y hy2
           have UO:w.cell? ⟨b4,wC+y,none⟩=some (.string xs[k].fields[q][p][y]):=by simpa using hc4
           have Yv:=tJ 94 (fun c:ByteArray=>dR c.data.toList) xs[k].fields[q][p] y hy2
           have QD:=hide (nu 94 (fun c:ByteArray=>dR c.data.toList) xs[k].fields[q][p] y hy2)
           have hge:=ML xs[k].fields[q][p][y].data.toList
           have hsz5:xs[k].fields[q][p][y].data.toList.length=xs[k].fields[q][p][y].size:=by simp
           have hrl:(iY xs[k].fields[q][p]).length=(joined 94 (fun c:ByteArray=>dR c.data.toList) xs[k].fields[q][p]).length:=rfl
           have abe:(P4++joined 94 (fun c=>dR c.data.toList) (xs[k].fields[q][p].take y)).length+((if y=0 then 0 else 1)+xs[k].fields[q][p][y].size)≤6291456:=by rw[List.length_append];omega
           have HP5:Hid (∀d,d=sp 94 y++dR xs[k].fields[q][p][y].data.toList→P4++joined 94 (fun c=>dR c.data.toList) (xs[k].fields[q][p].take y)++d=P4++joined 94 (fun c=>dR c.data.toList) (xs[k].fields[q][p].take (y+1))):=fun d hd=>by rw[QD.out,hd];unfold sp;simp only[List.append_assoc]
           have HC4:=hide UO
           clear hc4 UO Yv QD hge hsz5 hrl
           generalize P4++joined 94 (fun c=>dR c.data.toList) (xs[k].fields[q][p].take y)=P5 at *
           obtain⟨_,Yw,_,abf⟩:=FR.out _ _ hg4
           go_upto_if 74 with fail
           go_cut [3] (fun s3 wx=>Buf (w.heap.size+1) wx s3 (P5++sp 94 y)∧fQ (W1.alloc (.cells #[.string xs[k].name,.slice (some ⟨b2,off2,none⟩) xs[k].fields.length cap2] 54)) V1 wx s3)
           case first =>
            by_cases hy0:y=0
            ·have hy':¬(0:Int)<(y:Int):=by omega
             have hd:sp 94 y=[]:=if_pos hy0
             have HD:=hide hd
             clear hd hy0 abe
             go_wp2_with fail
             go_meet
             case rel=>exact⟨by rw[HD.out,List.append_nil];exact xC,hg4⟩
            ·have hy':(0:Int)<(y:Int):=by omega
             have hd:sp 94 y=[94]:=if_neg hy0
             have HD:=hide hd
             rw[if_neg hy0] at abe
             clear hd hy0
             go_wp2_with (first
              | (at_builtin;refine wpList_append_own_at _ rfl _ _ 22 rfl (w.heap.size+1) 5 i0 (.int .u8 0) 1 1 Tryz.underlying22 hi hz0 hz1 hz2 rfl (by decide) _ _ _ rfl (World.ownsRow.alloc xC _) ⟨W4.heap.size,0,none⟩ 1 1 [.int .u8 94] rfl rfl ?c1 ?c2 ?c3 ?c4 ?c5 ?_)
              | fail)
             case c1=>exact gH _ _ _
             case c2=>exact oF _
             case c3=>unfold maxLen;omega
             case c4=>omega
             case c5=>simp;omega
             intro v' w' hown' hgrow hnil hat
             have R:=Buf.zG (bs:=P5) 94 94 (by decide) _ hg4 (by first|rfl|simp|(simp;omega)) hown' hgrow hat
             clear hown' hgrow hnil hat
             obtain⟨zH,hR2⟩:=R
             go_wp2_with fail
             go_meet
             case rel=>exact⟨by rw[HD.out];exact zH,hR2⟩
           case rest =>
            clear xC hg4 Yw abf
            obtain⟨xC,hg4⟩:=hcut
            obtain⟨Wd,rfl⟩:∃x,x=wc:=⟨_,rfl⟩
            obtain⟨_,Yw,_,abf⟩:=FR.out _ _ hg4
            have hc5:Wd.cell? ⟨b4,wC+y,none⟩=some (.string xs[k].fields[q][p][y]):=by rw[Yw.cell (p:=⟨b4,wC+y,none⟩) Yk];exact HC4.out
            have agy:(P5++sp 94 y).length+xs[k].fields[q][p][y].size≤6291456:=by rw[List.length_append,QC];omega
            have hzd:w.heap.size+1≤Wd.heap.size:=by omega
            go_wp2_with fail
            refine(Hw (w.heap.size+1) (P5++sp 94 y) xs[k].fields[q][p][y] _ _ xC hzd (by omega)).mono ?_
            rintro e w6 ⟨u6',rfl,hu6,hg6⟩
            have hfin:Buf (w.heap.size+1) w6 u6' (P4++joined 94 (fun c=>dR c.data.toList) (xs[k].fields[q][p].take (y+1))):=by
             rw[←HP5.out _ rfl,←List.append_assoc]
             exact hu6
            go_wp2_with fail
            go_roundg (xs[k].fields[q][p].length - (y+1))
            case measure=>omega
            case rel=>exact⟨y+1,by omega,rfl,by go_num,hfin,hg4.trans hg6⟩
          ·obtain rfl:y=xs[k].fields[q][p].length:=by omega
           have abg:Buf (w.heap.size+1) W4 V4 (P2++[124]++joined 126 iY (xs[k].fields[q].take (p+1))):=by
            rw[List.take_length] at xC
            rw[←HP4.out _ rfl]
            exact xC
           go_wp2_with fail
           go_roundg (xs[k].fields[q].length - (p+1))
           case measure=>omega
           case rel=>exact⟨p+1,by omega,rfl,by go_num,abg,hg4⟩
       ·obtain rfl:p=xs[k].fields[q].length:=by omega
        have xC:Buf (w.heap.size+1) W3 V3 (P++bT (xs[k].fields.take (q+1))):=by
         rw[List.take_length] at vK
         rw[←D7.out _ rfl]
         simpa [iE] using vK
        go_wp2_with fail
        go_roundg (xs[k].fields.length - (q+1))
        case measure=>omega
        case rel=>exact⟨q+1,by omega,rfl,by go_num,xC,hg3⟩
     ·obtain rfl:q=xs[k].fields.length:=by omega
      have vK:Buf (w.heap.size+1) W2 V2 (P++bT xs[k].fields):=by rw[List.take_length] at H8;exact H8
      have hlP:(P++bT xs[k].fields).length+1≤6291456:=by rw[List.length_append];omega
      have FRo:=FR.out
      clear H8
      go_wp2_with (first
       | (at_builtin;refine wpList_append_own_at _ rfl _ _ 22 rfl (w.heap.size+1) 5 i0 (.int .u8 0) 1 1 Tryz.underlying22 hi hz0 hz1 hz2 rfl (by decide) _ _ _ rfl (World.ownsRow.alloc vK _) ⟨W2.heap.size,0,none⟩ 1 1 [.int .u8 13] rfl rfl ?c1 ?c2 ?c3 ?c4 ?c5 ?_)
       | fail)
      case c1=>exact gH _ _ _
      case c2=>exact oF _
      case c3=>unfold maxLen;omega
      case c4=>omega
      case c5=>simp;omega
      intro v' w' hown' hgrow hnil hat
      have R:=Buf.zG (bs:=P++bT xs[k].fields) 13 13 (by decide) _ hg2 (by first|rfl|simp|(simp;omega)) hown' hgrow hat
      clear hown' hgrow hnil hat
      have hR:=(FRo _ _ R.2).1
      have R1:=R.1
      clear R FRo
      go_wp2_with fail
      go_roundg (xs.length - (k+1))
      case measure=>omega
      case rel=>exact⟨k+1,by omega,rfl,by go_num,by rw[HS.out];exact R1,hR⟩
  ·go_wp2
   go_ret
   refine⟨_,rfl,?_,?_⟩
   ·rw[List.take_of_length_le (by omega)] at hbuf
    exact hbuf
   ·exact(aO _ _).trans (hb.mono (by omega))
end Go.Proofs.YtfdihjnlgdiioaaGreatDoor.dB
