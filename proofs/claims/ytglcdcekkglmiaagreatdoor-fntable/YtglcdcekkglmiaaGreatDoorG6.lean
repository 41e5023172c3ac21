import Derived.Test.YtglcdcekkglmiaaGreatDoorG5
import Derived.Laws.OwnMore
namespace Go.Proofs.YtglcdcekkglmiaaGreatDoor.Msg
open Go.ChangeShapes Go.WideShapes Go.ChangeAt Go.RowKit
set_option linter.unusedVariables false
set_option linter.unusedSimpArgs false
theorem szL_cells (n:Nat) (h:n≤60000):[Value.int .u8 ((n:Int) % 256),Value.int .u8 ((n:Int) / 256),Value.int .u8 ((n:Int) / 65536)]=u8s (szL n):=by
 have h1:((UInt8.ofNat n).toNat:Int)=(n:Int) % 256:=by rw[UInt8.toNat_ofNat'];omega
 have h2:((UInt8.ofNat (n / 256)).toNat:Int)=(n:Int) / 256:=by rw[UInt8.toNat_ofNat'];omega
 have h3:((UInt8.ofNat (n / 65536)).toNat:Int)=(n:Int) / 65536:=by rw[UInt8.toNat_ofNat'];omega
 simp only[u8s,szL,List.map_cons,List.map_nil,h1,h2,h3]
theorem Buf.size_lit (w:World) (n:Nat) (h:n≤60000):Buf w.heap.size (w.alloc (Obj.cells #[Value.int .u8 ((n:Int) % 256),Value.int .u8 ((n:Int) / 256),Value.int .u8 ((n:Int) / 65536)] 5)) (.slice (some ⟨w.heap.size,0,none⟩) 3 3) (szL n):=by
 unfold Buf
 rw[←szL_cells n h]
 exact World.ownsRow_lit w #[_,_,_] 3 (leR _) (by unfold maxLen;omega) rfl
theorem pad_step (m k:Nat) (hk:k≤padN m):((m+k) % 31≠0→k<padN m)∧((m+k) % 31=0→k=padN m):=by
 unfold padN at *
 constructor <;> intro h <;> omega
set_option maxRecDepth 100000 in
set_option maxHeartbeats 4000000 in
theorem recS_any (s:ByteArray) (w:World) (hs:s.size≤1048576) :
  Calls Tryz.prog 42 #[.string s] w fun e w'=>e=.returned (.string (recB s))∧Below w.heap.size w w':=by
 obtain⟨i0,hi,hz0,hz1,hz2⟩:=u8_facts
 by_cases hbig:(60000:Int)<(s.size:Int)
 ·have HX:Hid (recB s=⟨#[]⟩):=by unfold recB;rw[if_neg (by omega)];exact rfl
  go_enter Tryz.func42,Tryz.ntmps42
  go_wp2_with fail
  go_ret
  exact⟨by rw[HX.out];rfl,Below.refl _ _⟩
 ·have HX:Hid (recB s=⟨(recL s.data.toList).toArray⟩):=by unfold recB;rw[if_pos (by omega)];exact rfl
  have hsl:s.data.toList.length=s.size:=by simp
  obtain⟨w1,hw1⟩:∃w1,w.alloc (Obj.cells #[Value.int .u8 ((s.size:Int) % 256),Value.int .u8 ((s.size:Int) / 256),Value.int .u8 ((s.size:Int) / 65536)] 5)=w1:=⟨_,rfl⟩
  have hb1:Buf w.heap.size w1 (.slice (some ⟨w.heap.size,0,none⟩) 3 3) (szL s.size):=by rw[←hw1];exact Buf.size_lit w s.size (by omega)
  have bel1:Below w.heap.size w w1:=by rw[←hw1];exact alcB _ _
  have HB1:=hide hb1
  have HBEL1:=hide bel1
  have hsz1:=bel1.size
  obtain⟨B,hB⟩:∃B,bodyL s.data.toList=B:=⟨_,rfl⟩
  have hBl:B.length=s.size+3:=by rw[←hB,bodyL_length,hsl]
  have HBB:Hid (szL s.size++s.data.toList=B):=by rw[←hB];unfold bodyL;rw[hsl];exact rfl
  have HRL:Hid (recL s.data.toList=markU (paddedL B) (paddedL B).length):=by rw[←hB];exact rfl
  clear hb1 bel1 hB hsl
  go_enter Tryz.func42,Tryz.ntmps42
  go_wp2_with fail
  refine(put_any w.heap.size (szL s.size) s _ w1 HB1.out hsz1 (by simp[szL];omega)).mono ?_
  rintro e w2 ⟨u2,rfl,hO2,hg2⟩
  rw[HBB.out] at hO2
  have bel2:Below w.heap.size w w2:=HBEL1.out.trans (hg2.below (by simp[Value.ownBlock]) hsz1)
  have HO2:=hide hO2
  have HBEL2:=hide bel2
  obtain⟨n,hn⟩:∃n,padN B.length=n:=⟨_,rfl⟩
  have hn6:n≤31:=by rw[←hn];unfold padN;omega
  have HN:=hide hn
  clear hn hO2 bel2 hg2
  go_wp2_with fail
  go_loopg [3] n (fun m v wr=>∃k:Nat,k≤n∧m=n - k∧Buf w.heap.size wr v (B++List.replicate k 0)∧Below w.heap.size w wr)
  case atStart=>exact⟨0,zrL _,rfl,by simpa using HO2.out,HBEL2.out⟩
  case round =>
   obtain⟨k,hk,rfl,hO,hbr⟩:=hrel
   obtain⟨W1,rfl⟩:∃x,x=wr:=⟨_,rfl⟩
   have hlen:(B++List.replicate k 0).length=B.length+k:=by simp
   obtain⟨g3,c3,rfl,hc3,hcm3,hgb3,hgl3,hcell3⟩:=hO.cells (by rw[hlen];omega)
   have hst:=pad_step B.length k (by rw[HN.out];exact hk)
   rw[HN.out] at hst
   have HPAD:Hid (k=n→paddedL B=B++List.replicate k 0):=fun h=>by unfold paddedL;rw[HN.out,h]
   obtain⟨T,hT⟩:∃T,B++List.replicate k (0:UInt8)=T:=⟨_,rfl⟩
   rw[hT] at HPAD
   rw[hT] at hcell3
   rw[hT] at hlen hc3 hO
   rw[hT]
   have HTE:=hide hT
   have HTL:=hide hlen
   have HC3:=hide hcell3
   obtain⟨L,hL⟩:∃L,T.length=L:=⟨_,rfl⟩
   rw[←hlen,hL] at hst
   rw[hL] at hc3 hO hlen
   rw[hL]
   have hL6:L≤60034:=by omega
   have HL:=hide hL
   have HO:=hide hO
   have HBR:=hide hbr
   have hwr:=hbr.size
   obtain⟨r,hr⟩:∃r,L % 31=r:=⟨_,rfl⟩
   rw[hr] at hst
   have hmod2:(L:Int) % 31=(r:Int):=by omega
   have hmod:(L:Int).tmod 31=(r:Int):=by rw[Int.tmod_eq_emod_of_nonneg (by omega)];exact hmod2
   clear hO hbr hT hL hlen hcell3
   by_cases h0:r=0
   ·have hkn:=hst.2 h0
    have HFIN:Hid (recB s=⟨(markU T L).toArray⟩):=by rw[HX.out,HRL.out,HPAD.out hkn,HL.out];exact rfl
    subst h0
    have HE0:=hide (Buf.empty_lit W1)
    obtain⟨w5,hw5⟩:∃w5,W1.alloc (Obj.cells #[] 5)=w5:=⟨_,rfl⟩
    have bel5:Below W1.heap.size W1 w5:=by rw[←hw5];exact alcB _ _
    rw[hw5] at HE0
    have HBEL5:=hide bel5
    clear hst hr hkn bel5
    go_wp2_with fail
    go_loopg [4,5] L (fun m v4 i wx=>∃j:Nat,j≤L∧m=L - j∧i=.int .i64 (j:Int)∧Buf W1.heap.size wx v4 (markU T j)∧Below W1.heap.size W1 wx)
    case atStart=>exact⟨0,zrL _,rfl,rfl,HE0.out,HBEL5.out⟩
    case round =>
     obtain⟨j,hj,rfl,rfl,hOx,hbx⟩:=hrel
     obtain⟨W5,rfl⟩:∃x,x=wr:=⟨_,rfl⟩
     have hfx:=hOx.form
     have hml:(markU T j).length≤70000:=by rw[markU_length T j];omega
     have HOX:=hide hOx
     have HBX:=hide hbx
     have hwx:=hbx.size
     by_cases hjl:j<L
     ·have hji:(j:Int)<(L:Int):=by omega
      obtain⟨c,hc⟩:∃c:UInt8,T.getD j 0=c:=⟨_,rfl⟩
      have hc1:W5.cell? ⟨g3,j,none⟩=some (.int .u8 (c.toNat:Int)):=by rw[←hc];exact(hbx.cell (p:=⟨g3,j,none⟩) hgl3).trans (HC3.out j (by rw[HL.out];exact hjl))
      have HSTEP:Hid (markU T (j+1)=markU T j++[c]++(if j % 31=30 then [if j<31 then 65 else 66] else [])):=by rw[←hc];exact rfl
      obtain⟨q,hq⟩:∃q,j % 31=q:=⟨_,rfl⟩
      rw[hq] at HSTEP
      have hq2:(j:Int) % 31=(q:Int):=by omega
      have hq3:(j:Int).tmod 31=(q:Int):=by rw[Int.tmod_eq_emod_of_nonneg (by omega)];exact hq2
      have HBA:=hide (World.ownsRow.alloc HOX.out (Obj.cells #[.int .u8 (c.toNat:Int)] 5))
      obtain⟨V4,rfl⟩:∃x,x=u4:=⟨_,rfl⟩
      obtain⟨a4,c4,rfl,_,_⟩:=hfx
      have hc3':(L:Int)≤(c3:Int):=by omega
      clear hOx hbx hq2 hc hq
      go_wp2_with
      (first
       | (at_builtin;refine wpList_append_own_at _ rfl _ _ 22 rfl W1.heap.size 5 i0 (.int .u8 0) 1 1 Tryz.underlying22 hi hz0 hz1 hz2 rfl (by decide) _ _ _ rfl HBA.out ⟨W5.heap.size,0,none⟩ 1 1 [.int .u8 (c.toNat:Int)] rfl rfl (new_cell _ _ _) (one_u8 _) (by unfold maxLen;omega) (by omega) (by simp;omega) ?_)
       | fail)
      intro v6 w6 hown6 hgrow6 _ _
      have R6:=Buf.more (c:=c) HOX.out hwx rfl hown6 hgrow6
      obtain⟨T6,hT6⟩:∃T6,markU T j++[c]=T6:=⟨_,rfl⟩
      rw[hT6] at R6 HSTEP
      obtain⟨a6,c6,rfl,_,_⟩:=R6.1.form
      have HO6:=hide R6.1
      have HB6:=hide (HBX.out.trans R6.2)
      have hw6:=R6.2.size
      have hml6:T6.length≤70001:=by rw[←hT6];simp;exact hml
      clear hown6 hgrow6 R6 hc1 hT6
      by_cases hq30:q=30
      ·subst hq30
       rw[if_pos rfl] at HSTEP
       by_cases hj31:j<31
       ·rw[if_pos hj31] at HSTEP
        have hj31i:(j:Int)<31:=by omega
        have HBC:=hide (World.ownsRow.alloc HO6.out (Obj.cells #[.int .u8 65] 5))
        go_wp2_with
      (first
       | (at_builtin;refine wpList_append_own_at _ rfl _ _ 22 rfl W1.heap.size 5 i0 (.int .u8 0) 1 1 Tryz.underlying22 hi hz0 hz1 hz2 rfl (by decide) _ _ _ rfl HBC.out ⟨w6.heap.size,0,none⟩ 1 1 [.int .u8 65] rfl rfl (new_cell _ _ _) (one_u8 _) (by unfold maxLen;omega) (by omega) (by simp;omega) ?_)
       | fail)
        intro v7 w7 hown7 hgrow7 _ _
        have R7:=Buf.more (c:=65) HO6.out (Nat.le_trans hwx hw6) rfl hown7 hgrow7
        rw[←HSTEP.out] at R7
        have HR7:=hide R7
        clear hown7 hgrow7 R7
        go_wp2_with fail
        go_roundg (L - (j+1))
        case measure=>omega
        case rel=>exact⟨j+1,by omega,rfl,by go_num,HR7.out.1,HB6.out.trans HR7.out.2⟩
       ·rw[if_neg hj31] at HSTEP
        have hj31i:¬(j:Int)<31:=by omega
        have HBC:=hide (World.ownsRow.alloc HO6.out (Obj.cells #[.int .u8 66] 5))
        go_wp2_with
      (first
       | (at_builtin;refine wpList_append_own_at _ rfl _ _ 22 rfl W1.heap.size 5 i0 (.int .u8 0) 1 1 Tryz.underlying22 hi hz0 hz1 hz2 rfl (by decide) _ _ _ rfl HBC.out ⟨w6.heap.size,0,none⟩ 1 1 [.int .u8 66] rfl rfl (new_cell _ _ _) (one_u8 _) (by unfold maxLen;omega) (by omega) (by simp;omega) ?_)
       | fail)
        intro v7 w7 hown7 hgrow7 _ _
        have R7:=Buf.more (c:=66) HO6.out (Nat.le_trans hwx hw6) rfl hown7 hgrow7
        rw[←HSTEP.out] at R7
        have HR7:=hide R7
        clear hown7 hgrow7 R7
        go_wp2_with fail
        go_roundg (L - (j+1))
        case measure=>omega
        case rel=>exact⟨j+1,by omega,rfl,by go_num,HR7.out.1,HB6.out.trans HR7.out.2⟩
      ·rw[if_neg hq30,List.append_nil] at HSTEP
       rw[←HSTEP.out] at HO6
       have hq30i:¬(q:Int)=30:=by omega
       have hq30b:((q:Int) == 30)=false:=by simpa using hq30i
       go_wp2_with fail
       go_roundg (L - (j+1))
       case measure=>omega
       case rel=>exact⟨j+1,by omega,rfl,by go_num,by rw[HSTEP.out] at HO6 ⊢;exact HO6.out,HB6.out⟩
     ·obtain rfl:j=L:=by omega
      have hji:¬(j:Int)<(j:Int):=by omega
      obtain⟨V4,rfl⟩:∃x,x=u4:=⟨_,rfl⟩
      have hstr:=hOx.string
      rw[←HFIN.out] at hstr
      have HBE:=hide (HBR.out.trans (hbx.mono hwr))
      obtain⟨a4,c4,rfl,_,_⟩:=hfx
      clear hOx hbx
      go_wp2_with fail
      go_ret
      exact⟨rfl,HBE.out⟩
   ·have hlt:=hst.1 h0
    have h0i:¬(r:Int)=0:=by omega
    have h0b:((r:Int) != 0)=true:=by simpa using h0
    have HBA:=hide (World.ownsRow.alloc HO.out (Obj.cells #[.int .u8 0] 5))
    clear hst hr hmod2
    go_wp2_with (first
     | (at_builtin;refine wpList_append_own_at _ rfl _ _ 22 rfl w.heap.size 5 i0 (.int .u8 0) 1 1 Tryz.underlying22 hi hz0 hz1 hz2 rfl (by decide) _ _ _ rfl HBA.out ⟨W1.heap.size,0,none⟩ 1 1 [.int .u8 0] rfl rfl ?c1 ?c2 ?c3 ?c4 ?c5 ?_)
     | fail)
    case c1=>exact new_cell _ _ _
    case c2=>exact one_u8 _
    case c3=>rw[HL.out];unfold maxLen;omega
    case c4=>rw[HL.out];omega
    case c5=>simp;omega
    ·intro v' w' hown' hgrow hnil hat
     have R:=Buf.more (c:=0) HO.out hwr rfl hown' hgrow
     rw[←HTE.out,List.append_assoc,←List.replicate_succ'] at R
     have HR:Hid (Buf w.heap.size w' v' (B++List.replicate (k+1) 0)∧Below w.heap.size w w'):=⟨R.1,HBR.out.trans R.2⟩
     clear hown' hgrow hnil hat R
     go_wp2_with fail
     go_roundg (n - (k+1))
     case measure=>omega
     case rel=>exact⟨k+1,by omega,rfl,HR.out.1,HR.out.2⟩
end Go.Proofs.YtglcdcekkglmiaaGreatDoor.Msg
