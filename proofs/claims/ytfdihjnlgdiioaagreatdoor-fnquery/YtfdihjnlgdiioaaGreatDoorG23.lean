import Derived.Test.YtfdihjnlgdiioaaGreatDoorG17
import Derived.Test.YtfdihjnlgdiioaaGreatDoorG19
import Derived.Deep.LoopGhost
import Derived.Deep.RegionHeld3
namespace Go.Proofs.YtfdihjnlgdiioaaGreatDoor.dB
open Go.ChangeShapes Go.WideShapes Go.ChangeAt Go.RowKit
set_option linter.unusedVariables false
set_option linter.unusedSimpArgs false
def fB (c t:ByteArray):Bool:=(decide (c.size=0) || aL c) && (decide (t.size=0) || fH t)
set_option maxHeartbeats 2000000 in
theorem vT (c t:ByteArray) (w:World) (h1:c.size≤9223372036854775807) (h2:t.size≤9223372036854775807) :
  Calls Tryz.prog 209 #[.string c,.string t] w fun e w'=>e=.returned (.bool (fB c t))∧w'=w:=by
 have HC:=hide (fun W=>bW c W h1)
 have HT:=hide (fun W=>gT t W h2)
 by_cases hc0:c.size=0
 ·obtain⟨c1,c2,c3⟩:=mU hc0
  by_cases ht0:t.size=0
  ·obtain⟨t1,t2,t3⟩:=mU ht0
   have HX:Hid (fB c t=true):=by unfold fB;rw[decide_eq_true hc0,decide_eq_true ht0];exact rfl
   clear hc0 ht0 c1 t1
   go_enter Tryz.func209,Tryz.ntmps209
   go_wp2_with fail
   go_ret
   exact⟨by rw[HX.out];rfl,rfl⟩
  ·obtain⟨t1,t2,t3⟩:=oW ht0
   have HX:Hid (fB c t=fH t):=by unfold fB;rw[decide_eq_true hc0,decide_eq_false ht0];exact Bool.true_and _
   clear hc0 ht0 c1 t1
   go_enter Tryz.func209,Tryz.ntmps209
   go_wp2_with (first|(go_at_call 193;refine(HT.out _).mono ?_;rintro e w' ⟨rfl,rfl⟩))
   go_ret
   exact⟨by rw[HX.out];rfl,rfl⟩
 ·obtain⟨c1,c2,c3⟩:=oW hc0
  cases hcb:aL c
  ·have HX:Hid (fB c t=false):=by unfold fB;rw[decide_eq_false hc0,hcb];exact rfl
   rw[hcb] at HC
   clear hc0 c1
   go_enter Tryz.func209,Tryz.ntmps209
   go_wp2_with (first|(go_at_call 69;refine(HC.out _).mono ?_;rintro e w' ⟨rfl,rfl⟩))
   go_ret
   exact⟨by rw[HX.out];rfl,rfl⟩
  ·rw[hcb] at HC
   by_cases ht0:t.size=0
   ·obtain⟨t1,t2,t3⟩:=mU ht0
    have HX:Hid (fB c t=true):=by unfold fB;rw[decide_eq_false hc0,hcb,decide_eq_true ht0];exact rfl
    clear hc0 ht0 c1 t1
    go_enter Tryz.func209,Tryz.ntmps209
    go_wp2_with (first|(go_at_call 69;refine(HC.out _).mono ?_;rintro e w' ⟨rfl,rfl⟩))
    go_ret
    exact⟨by rw[HX.out];rfl,rfl⟩
   ·obtain⟨t1,t2,t3⟩:=oW ht0
    have HX:Hid (fB c t=fH t):=by unfold fB;rw[decide_eq_false hc0,hcb,decide_eq_false ht0];exact Bool.true_and _
    clear hc0 ht0 c1 t1
    go_enter Tryz.func209,Tryz.ntmps209
    go_wp2_with (first|(go_at_call 69;refine(HC.out _).mono ?_;rintro e w' ⟨rfl,rfl⟩)|(go_at_call 193;refine(HT.out _).mono ?_;rintro e w' ⟨rfl,rfl⟩))
    go_ret
    exact⟨by rw[HX.out];rfl,rfl⟩
def mX (control:ByteArray) (code:Int) (tag:ByteArray):Option Int:=if fB control tag && (decide (1≤code) && decide (code≤999)) then none else some 102
set_option maxHeartbeats 2000000 in
theorem Cw (ack control tag:ByteArray) (code:Int) (w:World) (h1:control.size≤9223372036854775807) (h2:tag.size≤9223372036854775807) :
  Calls Tryz.prog 211 #[.agg #[.string ack,.string control,.int .i64 code,.string tag]] w fun e w'=>e=.returned (ku (mX control code tag))∧Below w.heap.size w w':=by
 have hb:=(Below.refl w.heap.size w).alloc (aS _) (Obj.cells #[.string ack,.string control,.int .i64 code,.string tag] 122)
 have HH:=hide (fun W=>vT control tag W h1 h2)
 cases hh:fB control tag
 ·have HX:Hid (mX control code tag=some 102):=by unfold mX;rw[hh];exact rfl
  rw[hh] at HH
  go_enter Tryz.func211,Tryz.ntmps211
  go_wp2_with (first|(go_at_call 209;refine(HH.out _).mono ?_;rintro e w' ⟨rfl,rfl⟩))
  go_ret
  exact⟨fq (a:=some 102) HX.out.symm,by first|exact hb|exact hb.alloc hb.size _⟩
 ·rw[hh] at HH
  by_cases hc1:code<1
  ·have HX:Hid (mX control code tag=some 102):=by unfold mX;rw[hh,decide_eq_false (by omega)];exact rfl
   go_enter Tryz.func211,Tryz.ntmps211
   go_wp2_with (first|(go_at_call 209;refine(HH.out _).mono ?_;rintro e w' ⟨rfl,rfl⟩))
   go_ret
   exact⟨fq (a:=some 102) HX.out.symm,by first|exact hb|exact hb.alloc hb.size _⟩
  ·by_cases hc2:999<code
   ·have HX:Hid (mX control code tag=some 102):=by unfold mX;rw[hh,decide_eq_false (p:=code≤999) (by omega),Bool.and_false,Bool.and_false];exact rfl
    go_enter Tryz.func211,Tryz.ntmps211
    go_wp2_with (first|(go_at_call 209;refine(HH.out _).mono ?_;rintro e w' ⟨rfl,rfl⟩))
    go_ret
    exact⟨fq (a:=some 102) HX.out.symm,by first|exact hb|exact hb.alloc hb.size _⟩
   ·have HX:Hid (mX control code tag=none):=by unfold mX;rw[hh,decide_eq_true (by omega),decide_eq_true (by omega)];exact rfl
    go_enter Tryz.func211,Tryz.ntmps211
    go_wp2_with (first|(go_at_call 209;refine(HH.out _).mono ?_;rintro e w' ⟨rfl,rfl⟩))
    go_ret
    exact⟨fq (a:=none) HX.out.symm,by first|exact hb|exact hb.alloc hb.size _⟩
def uw (control tag:ByteArray) (rows:List ByteArray) (pointer:ByteArray):Option Int:=if fB control tag && (lH rows 200 && aW pointer) then none else some 102
set_option maxHeartbeats 2000000 in
theorem Ed (control tag pointer:ByteArray) (rows:List ByteArray) (v:Value) (w:World) {lo:Nat} (h1:control.size≤9223372036854775807) (h2:tag.size≤9223372036854775807) (h3:pointer.size≤9223372036854775807) (hv:bq lo w v rows) :
  Calls Tryz.prog 207 #[.agg #[.string control,.string tag,v,.string pointer]] w fun e w'=>e=.returned (ku (uw control tag rows pointer))∧Below w.heap.size w w':=by
 obtain⟨w1,hw1⟩:∃w1,w.alloc (Obj.cells #[.string control,.string tag,v,.string pointer] 120)=w1:=⟨_,rfl⟩
 have hb:Below w.heap.size w w1:=by rw[←hw1];exact aO _ _
 have d0:w1.cell? ⟨w.heap.size,0,none⟩=some (.string control):=by rw[←hw1];simp
 have d1:w1.cell? ⟨w.heap.size,1,none⟩=some (.string tag):=by rw[←hw1];simp
 have d2:w1.cell? ⟨w.heap.size,2,none⟩=some v:=by rw[←hw1];simp
 have d3:w1.cell? ⟨w.heap.size,3,none⟩=some (.string pointer):=by rw[←hw1];simp
 have HR:=hide (Jb rows 200 v w1 (At.kept bE hv hb))
 have HH:=hide (fun W=>vT control tag W h1 h2)
 have HP:=hide (fun W=>fP pointer W h3)
 clear hv
 cases hh:fB control tag
 ·have HX:Hid (uw control tag rows pointer=some 102):=by unfold uw;rw[hh];exact rfl
  rw[hh] at HH
  go_enter Tryz.func207,Tryz.ntmps207
  go_wp2_with (first|(go_at_call 209;refine(HH.out _).mono ?_;rintro e w' ⟨rfl,rfl⟩))
  go_ret
  exact⟨fq (a:=some 102) HX.out.symm,by first|exact hb|exact hb.alloc hb.size _⟩
 rw[hh] at HH
 cases hr:lH rows 200
 ·have HX:Hid (uw control tag rows pointer=some 102):=by unfold uw;rw[hh,hr];exact rfl
  rw[hr] at HR
  go_enter Tryz.func207,Tryz.ntmps207
  go_wp2_with (first|(go_at_call 209;refine(HH.out _).mono ?_;rintro e w' ⟨rfl,rfl⟩)|(go_at_call 210;refine(HR.out).mono ?_;rintro e w' ⟨rfl,rfl⟩))
  go_ret
  exact⟨fq (a:=some 102) HX.out.symm,by first|exact hb|exact hb.alloc hb.size _⟩
 rw[hr] at HR
 have HX:Hid (uw control tag rows pointer=if aW pointer then none else some 102):=by unfold uw;rw[hh,hr];exact rfl
 cases hp:aW pointer
 ·rw[hp] at HP HX
  go_enter Tryz.func207,Tryz.ntmps207
  go_wp2_with (first|(go_at_call 209;refine(HH.out _).mono ?_;rintro e w' ⟨rfl,rfl⟩)|(go_at_call 210;refine(HR.out).mono ?_;rintro e w' ⟨rfl,rfl⟩)|(go_at_call 194;refine(HP.out _).mono ?_;rintro e w' ⟨rfl,rfl⟩))
  go_ret
  exact⟨fq (a:=some 102) HX.out.symm,by first|exact hb|exact hb.alloc hb.size _⟩
 ·rw[hp] at HP HX
  go_enter Tryz.func207,Tryz.ntmps207
  go_wp2_with (first|(go_at_call 209;refine(HH.out _).mono ?_;rintro e w' ⟨rfl,rfl⟩)|(go_at_call 210;refine(HR.out).mono ?_;rintro e w' ⟨rfl,rfl⟩)|(go_at_call 194;refine(HP.out _).mono ?_;rintro e w' ⟨rfl,rfl⟩))
  go_ret
  exact⟨fq (a:=none) HX.out.symm,by first|exact hb|exact hb.alloc hb.size _⟩
theorem Buf.nil (base:Nat) (w:World):Buf base w (.slice none 0 0) []:=World.ownsRow_nil w base 5 1
theorem OV {L B:Nat} {W R:List UInt8} (hW:Wr [] W R) (h:L+W.length=B) :
  (40000 - (L:Int) - (R.length:Int)<0→L≤40000→40000<B)∧(¬40000 - (L:Int) - (R.length:Int)<0→40000 - (L:Int) - (R.length:Int)=40000 - (B:Int)∧B≤40000):=by
 have h1:=hW.le
 rw[List.nil_append] at h1
 by_cases hl:W.length≤40000
 ·have e:=hW.eq (by rw[List.nil_append];exact hl)
  rw[List.nil_append] at e
  subst e
  exact⟨fun a b=>by omega,fun a=>by omega⟩
 ·have e:=hW.long (by rw[List.nil_append];omega)
  exact⟨fun a b=>by omega,fun a=>by omega⟩
set_option maxRecDepth 100000 in
set_option maxHeartbeats 2000000 in
theorem uX (xs:List Seg) (v:Value) (w:World) (hsz:aT xs≤1048576) {lo:Nat} (hv:aX lo w v xs) :
  Calls Tryz.prog 31 #[.agg #[v]] w fun e w'=>e=.returned (.bool (dW xs))∧Below w.heap.size w w':=by
 have hl:=hv.1
 have hb:=(Below.refl w.heap.size w).alloc (aS _) (Obj.cells #[v] 28)
 have hv1:=At.kept bA hv hb
 obtain⟨a,cap,rfl,hc⟩:=hv1.form
 have HC:=hide hc
 clear hc hv hv1
 by_cases h0:xs.length=0
 ·have HX:=hide (OH xs h0)
  have hz:((xs.length:Int) == 0)=true:=by rw[beq_iff_eq];omega
  clear h0
  go_enter Tryz.func31,Tryz.ntmps31
  go_wp2_with fail
  go_ret
  exact⟨aA HX.out.symm,hb⟩
 have hz:((xs.length:Int) == 0)=false:=by rw[beq_eq_false_iff_ne];omega
 by_cases aeN:(250:Int)<(xs.length:Int)
 ·have HX:=hide (OI xs (by omega))
  go_enter Tryz.func31,Tryz.ntmps31
  go_wp2_with fail
  go_ret
  exact⟨aA HX.out.symm,hb⟩
 go_enter Tryz.func31,Tryz.ntmps31
 go_wp2_with fail
 go_loopg [3,19] xs.length (fun n r i wr=>∃k:Nat,k≤xs.length∧n=xs.length - k∧i=.int .i64 k∧r=.int .i64 (40000 - ((iV (xs.take k)).length:Int))∧(iV (xs.take k)).length≤40000∧Places xs k∧Below (w.heap.size+1) (w.alloc (Obj.cells #[.slice a xs.length cap] 28)) wr)
 case atStart=>exact⟨0,eH _,by simp,rfl,by simp[iV],by simp[iV],fun j _ h=>absurd h (by omega),Below.refl _ _⟩
 case round =>
  obtain⟨k,hk,rfl,rfl,rfl,hL,hP,hbr⟩:=hrel
  obtain⟨W1,rfl⟩:∃x,x=wr:=⟨_,rfl⟩
  have hbw:Below w.heap.size w W1:=hb.trans (hbr.mono (by omega))
  have tK:Below (w.alloc (Obj.cells #[.slice a xs.length cap] 28)).heap.size (w.alloc (Obj.cells #[.slice a xs.length cap] 28)) W1:=by simpa using hbr
  by_cases hlt:k<xs.length
  ·obtain⟨b,off,rfl,_,hbl,hc0,hns,ve,hc1,hel⟩:=HC.out k hlt
   obtain⟨a5,cap5,rfl,_⟩:=hel.form
   have hcell0:W1.cell? ⟨b,off+k * 2,none⟩=some (.string xs[k].name):=by rw[tK.cell (p:=⟨b,off+k * 2,none⟩) hbl];exact hc0
   have hcell1:W1.cell? ⟨b,off+k * 2+1,none⟩=some (.slice a5 xs[k].fields.length cap5):=by rw[tK.cell (p:=⟨b,off+k * 2+1,none⟩) hbl];exact hc1
   have l7:Below W1.heap.size W1 (W1.alloc (Obj.cells #[.string xs[k].name,.slice a5 xs[k].fields.length cap5] 54)):=aO _ _
   have I6:=At.kept aP (At.kept aP hel tK) l7
   have HB:=hide (aj l7 hbw)
   have HBB:=hide (hbr.trans (l7.mono (by have:=hbr.size;simp at this;omega)))
   have Ak:Hid ((W1.alloc (Obj.cells #[.string xs[k].name,.slice a5 xs[k].fields.length cap5] 54)).cell? ⟨W1.heap.size,0,none⟩=some (.string xs[k].name)):=by simp[Hid]
   have Gb:Hid ((W1.alloc (Obj.cells #[.string xs[k].name,.slice a5 xs[k].fields.length cap5] 54)).cell? ⟨W1.heap.size,1,none⟩=some (.slice a5 xs[k].fields.length cap5)):=by simp[Hid]
   have abM:bB xs[k]≤1048576:=by
    have:=IW bB xs k hlt
    unfold aT aH at hsz
    omega
   obtain⟨bm,EU⟩:∃b,(xs[k].name.toList == [77,83,72])=b:=⟨_,rfl⟩
   have Uj:Hid (ig xs[k].name=bm):=EU
   obtain⟨bk,hbk⟩:∃b,((k:Int) == 0)=b:=⟨_,rfl⟩
   have RF:Hid ((k == 0)=bk):=by rw[←hbk];exact(Ij k).symm
   have XB:Hid (l8 k xs[k]=((ig xs[k].name == (k == 0)) && rD xs[k])):=rfl
   have HP:=hide hP
   clear hc0 hc1 hel hP
   by_cases hmk:bm=bk
   ·subst hmk
    have AJ:Hid (l8 k xs[k]=rD xs[k]):=by rw[XB.out,Uj.out,RF.out,beq_self_eq_true,Bool.true_and];trivial
    go_wp2_with fail
    refine(EW xs[k] _ _ hns I6).mono ?_
    rintro e w2 ⟨rfl,hb2⟩
    have abN:=At.kept aP I6 hb2
    have hx0:w2.cell? ⟨W1.heap.size,0,none⟩=some (.string xs[k].name):=by rw[hb2.cell (p:=⟨W1.heap.size,0,none⟩) (by simp)];exact Ak.out
    have hx1:w2.cell? ⟨W1.heap.size,1,none⟩=some (.slice a5 xs[k].fields.length cap5):=by rw[hb2.cell (p:=⟨W1.heap.size,1,none⟩) (by simp)];exact Gb.out
    have HB2:=hide (aj hb2 HB.out)
    have abO:=hide (HBB.out.trans (hb2.mono (by have:=hbr.size;simp at this ⊢;omega)))
    clear hb2 hcell0 hcell1 I6 hbr tK hbw l7 EU hbk
    cases hs:rD xs[k]
    ·have HX:=hide (Cb xs k hlt (by rw[AJ.out];exact hs))
     clear hs
     go_wp2_with fail
     go_ret
     exact⟨aA HX.out.symm,HB2.out⟩
    ·have Uk:=hide (HP.out.step hlt (by rw[AJ.out];exact hs))
     clear hs
     go_wp2_with fail
     refine(xP w2.heap.size [] xs[k] _ _ w2 w2 (aS _) (Below.refl _ _) abN (Buf.nil _ _) (aS _) (by simp;omega)).mono ?_
     rintro e w3 ⟨u,R,rfl,hW,hu,hg⟩
     obtain⟨a6,cap6,rfl⟩:=hu.len
     have hb3:Below w2.heap.size w2 w3:=hg.below (by simp[Value.ownBlock]) (aS _)
     have HS:Hid ((iV (xs.take k)).length+(tZ xs[k]).length=(iV (xs.take (k+1))).length):=by rw[wM xs k hlt,List.length_append];trivial
     have HRS:=hide (OV hW HS.out)
     have hRl:=hW.len (Cc xs[k])
     have HB3:=hide (aj hb3 HB2.out)
     have aeO:=hide (abO.out.trans (hb3.mono (by have:=abO.out.size;simp at this ⊢;omega)))
     clear hW hu hg hb3 abN hx0 hx1
     rw[List.length_nil] at hRl
     by_cases hneg:40000 - ((iV (xs.take k)).length:Int) - (R.length:Int)<0
     ·have HX:=hide (OE xs k hlt Uk.out (HRS.out.1 hneg hL))
      go_wp2_with fail
      go_ret
      exact⟨aA HX.out.symm,HB3.out⟩
     ·have HQ:=hide (HRS.out.2 hneg)
      go_wp2_with fail
      go_roundg (xs.length - (k+1))
      case rel=>exact⟨k+1,by omega,rfl,by go_num,by rw[←HQ.out.1],HQ.out.2,Uk.out,aeO.out⟩
      case measure=>omega
   ·have HX:=hide (Cb xs k hlt (by rw[XB.out,Uj.out,RF.out,beq_eq_false_iff_ne.2 hmk];rfl))
    cases bm
    ·cases bk
     ·exact absurd rfl hmk
     ·clear hmk
      go_wp2_with fail
      go_ret
      exact⟨aA HX.out.symm,HB.out⟩
    ·cases bk
     ·clear hmk
      go_wp2_with fail
      go_ret
      exact⟨aA HX.out.symm,HB.out⟩
     ·exact absurd rfl hmk
  ·obtain rfl:k=xs.length:=by omega
   have HX:=hide (E5 xs (by omega) (by omega) hP hL)
   go_wp2_with fail
   go_ret
   exact⟨aA HX.out.symm,hbw⟩
def Got (w:World) (v:Value) (xs:List Seg):Prop:=∀(W:World) (n:ByteArray) (f c:Int),Below w.heap.size w W→n.size≤3→0≤f→f≤20→0≤c→c≤20 →
 Calls Tryz.prog 63 #[.agg #[v],.string n,.int .i64 f,.int .i64 c] W fun e W'=>e=.returned (.string (aB xs n f c))∧Below W.heap.size W W'
theorem Sg {xs:List Seg} {v:Value} {w:World} {lo:Nat} (hv:aX lo w v xs) (hsz:aT xs≤1048576):Got w v xs:=fun W n f c hb hn h1 h2 h3 h4 =>
 zP xs n f c v W (by omega) (by unfold aT aH at hsz;omega) (by omega) (by omega) (by omega) (by omega) (At.kept bA hv hb) hsz
theorem Got.kept {w W:World} {v:Value} {xs:List Seg} (h:Got w v xs) (hb:Below w.heap.size w W):Got W v xs:=fun W' n f c hb'=>h W' n f c (aj hb' hb)
def known (s:ByteArray):ByteArray:=if aL s then s else ⟨#[]⟩
set_option maxHeartbeats 400000 in
theorem qO (xs:List Seg) (v:Value) (w:World) (hG:Got w v xs) (hsz:aT xs≤1048576) :
  Calls Tryz.prog 35 #[.agg #[v]] w fun e w'=>e=.returned (.string (known (aB xs ⟨#[77,83,72]⟩ 10 1)))∧Below w.heap.size w w':=by
 have hb0:=(Below.refl w.heap.size w).alloc (aS _) (Obj.cells #[v] 28)
 have HG:=hide (hG _ ⟨#[77,83,72]⟩ 10 1 hb0 (by decide) (by omega) (by omega) (by omega) (by omega))
 have hz:=bK xs ⟨#[77,83,72]⟩ 10 1
 obtain⟨ct,hct⟩:∃ct,aB xs ⟨#[77,83,72]⟩ 10 1=ct:=⟨_,rfl⟩
 rw[hct] at HG hz ⊢
 clear hct hG
 have hz2:ct.size≤9223372036854775807:=by omega
 cases hc:aL ct
 ·have HX:Hid (known ct=⟨#[]⟩):=by unfold known;rw[hc];rfl
  go_enter Tryz.func35,Tryz.ntmps35
  go_wp2_with fail
  refine HG.out.mono ?_
  rintro e w1 ⟨rfl,hb1'⟩
  have hb1:=aj hb1' hb0
  go_wp2_with (go_at_call 69;refine(bW ct _ hz2).mono ?_;rintro e w' ⟨rfl,rfl⟩;rw[hc])
  go_ret
  exact⟨bF HX.out.symm,hb1⟩
 ·have HX:Hid (known ct=ct):=by unfold known;rw[hc];rfl
  go_enter Tryz.func35,Tryz.ntmps35
  go_wp2_with fail
  refine HG.out.mono ?_
  rintro e w1 ⟨rfl,hb1'⟩
  have hb1:=aj hb1' hb0
  go_wp2_with (go_at_call 69;refine(bW ct _ hz2).mono ?_;rintro e w' ⟨rfl,rfl⟩;rw[hc])
  go_ret
  exact⟨bF HX.out.symm,hb1⟩
def sG (s:ByteArray):Int:=if s.toList == [] then 10 else jB s.data.toList
set_option maxHeartbeats 400000 in
theorem Ee (xs:List Seg) (v:Value) (w:World) (hG:Got w v xs) (hsz:aT xs≤1048576) (hE:Env w) :
  Calls Tryz.prog 92 #[.agg #[v]] w fun e w'=>e=.returned (.int .i64 (sG (aB xs ⟨#[82,67,80]⟩ 2 1)))∧Below w.heap.size w w':=by
 have hb0:=(Below.refl w.heap.size w).alloc (aS _) (Obj.cells #[v] 28)
 have HG:=hide (hG _ ⟨#[82,67,80]⟩ 2 1 hb0 (by decide) (by omega) (by omega) (by omega) (by omega))
 have hz:=bK xs ⟨#[82,67,80]⟩ 2 1
 obtain⟨ct,hct⟩:∃ct,aB xs ⟨#[82,67,80]⟩ 2 1=ct:=⟨_,rfl⟩
 rw[hct] at HG hz ⊢
 have HE:=hide hE
 clear hct hG hE
 have hz2:ct.size≤1048576:=by omega
 cases hc:(ct.toList == [])
 ·have HX:Hid (sG ct=jB ct.data.toList):=by unfold sG;rw[hc];rfl
  go_enter Tryz.func92,Tryz.ntmps92
  go_wp2_with fail
  refine HG.out.mono ?_
  rintro e w1 ⟨rfl,hb1'⟩
  have hb1:=aj hb1' hb0
  have HE1:=hide (HE.out.kept hb1)
  go_wp2_with (go_at_call 72;refine(xU ct _ hz2 HE1.out).mono ?_;rintro e w2 ⟨rfl,hb2⟩)
  go_ret
  exact⟨jh HX.out.symm,aj hb2 hb1⟩
 ·have HX:Hid (sG ct=10):=by unfold sG;rw[hc];rfl
  go_enter Tryz.func92,Tryz.ntmps92
  go_wp2_with fail
  refine HG.out.mono ?_
  rintro e w1 ⟨rfl,hb1'⟩
  have hb1:=aj hb1' hb0
  go_wp2_with fail
  go_ret
  exact⟨jh HX.out.symm,hb1⟩
def gM (kind control dZ tag query pointer:ByteArray) (page:Int):Value :=
 if kind.toList == [81,67,78] then .iface 100 (.agg #[.string control,.string dZ])
 else if pointer.toList == [] then .iface 96 (.agg #[.string control,.string tag,.string query,.int .i64 page])
 else .iface 98 (.agg #[.string control,.string tag,.string query,.string pointer])
theorem ret_val {a b:Value} (h:a=b):Ending.returned a=.returned b:=by rw[h]
set_option maxRecDepth 100000 in
set_option maxHeartbeats 4000000 in
theorem y8 (xs:List Seg) (kind control:ByteArray) (v:Value) (w:World) (hG:Got w v xs) (hsz:aT xs≤1048576) (hE:Env w) :
  Calls Tryz.prog 64 #[.agg #[v],.string kind,.string control] w fun e w'=>e=.returned (gM kind control (aB xs ⟨#[81,73,68]⟩ 1 1) (aB xs ⟨#[81,80,68]⟩ 2 1) (aB xs ⟨#[81,80,68]⟩ 3 1) (aB xs ⟨#[68,83,67]⟩ 1 1) (sG (aB xs ⟨#[82,67,80]⟩ 2 1)))∧Below w.heap.size w w':=by
 have hb0:=(Below.refl w.heap.size w).alloc (aS _) (Obj.cells #[v] 28)
 obtain⟨w1,hw1⟩:∃w1,w.alloc (Obj.cells #[v] 28)=w1:=⟨_,rfl⟩
 rw[hw1] at hb0
 have hcv:w1.cell? ⟨w.heap.size,0,none⟩=some v:=by rw[←hw1];simp
 have HG:=hide (hG.kept hb0)
 have HE:=hide (hE.kept hb0)
 have HB0:=hide hb0
 have hlt:=lt_of_cell hcv
 have HOLD:Hid (∀W,Below w1.heap.size w1 W→W.cell? ⟨w.heap.size,0,none⟩=some v∧Below w1.heap.size w1 W):=fun W h=>⟨by rw[h.cell (p:=⟨w.heap.size,0,none⟩) hlt];exact hcv,h⟩
 have HPG:Hid (∀W,Below w1.heap.size w1 W→Calls Tryz.prog 92 #[.agg #[v]] W fun e w'=>e=.returned (.int .i64 (sG (aB xs ⟨#[82,67,80]⟩ 2 1)))∧Below W.heap.size W w'):=fun W hb=>Ee xs v W (HG.out.kept hb) hsz (HE.out.kept hb)
 obtain⟨dZ,h1⟩:∃z,aB xs ⟨#[81,73,68]⟩ 1 1=z:=⟨_,rfl⟩
 obtain⟨tag,h2⟩:∃z,aB xs ⟨#[81,80,68]⟩ 2 1=z:=⟨_,rfl⟩
 obtain⟨query,h3⟩:∃z,aB xs ⟨#[81,80,68]⟩ 3 1=z:=⟨_,rfl⟩
 obtain⟨pointer,h4⟩:∃z,aB xs ⟨#[68,83,67]⟩ 1 1=z:=⟨_,rfl⟩
 obtain⟨page,h5⟩:∃z,sG (aB xs ⟨#[82,67,80]⟩ 2 1)=z:=⟨_,rfl⟩
 rw[h5] at HPG
 rw[h1,h2,h3,h4,h5]
 have E1:=hide h1
 have E2:=hide h2
 have E3:=hide h3
 have E4:=hide h4
 clear h1 h2 h3 h4 h5 hG hE hb0
 have hd:=(Below.refl w1.heap.size w1).drew
 cases hk:(kind.toList == [81,67,78])
 ·have HX:Hid (gM kind control dZ tag query pointer page=if pointer.toList == [] then .iface 96 (.agg #[.string control,.string tag,.string query,.int .i64 page]) else .iface 98 (.agg #[.string control,.string tag,.string query,.string pointer])):=by unfold gM;rw[hk];rfl
  go_enter Tryz.func64,Tryz.ntmps64
  go_wp2_with fail
  go_region_held3 (fun W=>W.cell? ⟨w.heap.size,0,none⟩=some v∧Below w1.heap.size w1 W)
   (first|exact HOLD.out _ hd|exact HOLD.out _ gI|exact HOLD.out _ l7|exact HOLD.out _ hbC)
   (first
    | (go_at_call 63;refine(HG.out _ _ _ _ l7 (by decide) (by decide) (by decide) (by decide) (by decide)).mono ?_;rintro e w4 ⟨rfl,hb4⟩;rw[E4.out];have hbC:=aj hb4 l7)
    | (go_at_call 63;refine(HG.out _ _ _ _ gI (by decide) (by decide) (by decide) (by decide) (by decide)).mono ?_;rintro e w3 ⟨rfl,hb3⟩;rw[E3.out];have l7:=aj hb3 gI)
    | (go_at_call 63;refine(HG.out _ _ _ _ hd (by decide) (by decide) (by decide) (by decide) (by decide)).mono ?_;rintro e w2 ⟨rfl,hb2⟩;rw[E2.out];have gI:=aj hb2 hd))
  cases hp:(pointer.toList == [])
  ·have HY:Hid (.iface 98 (.agg #[.string control,.string tag,.string query,.string pointer])=gM kind control dZ tag query pointer page):=by rw[HX.out,hp];rfl
   go_wp2_with fail
   go_ret
   exact⟨ret_val HY.out,aj hbC HB0.out⟩
  ·have HY:Hid (.iface 96 (.agg #[.string control,.string tag,.string query,.int .i64 page])=gM kind control dZ tag query pointer page):=by rw[HX.out,hp];rfl
   go_wp2_with (first|(go_at_call 92;refine(HPG.out _ hbC).mono ?_;rintro e w5 ⟨rfl,hb5⟩))
   go_ret
   exact⟨ret_val HY.out,aj hb5 (aj hbC HB0.out)⟩
 ·have HX:Hid (.iface 100 (.agg #[.string control,.string dZ])=gM kind control dZ tag query pointer page):=by unfold gM;rw[hk];rfl
  go_enter Tryz.func64,Tryz.ntmps64
  go_wp2_with fail
  refine(HG.out _ _ _ _ (Below.refl _ _) (by decide) (by decide) (by decide) (by decide) (by decide)).mono ?_
  rintro e w2 ⟨rfl,hb2⟩
  rw[E1.out]
  go_wp2_with fail
  go_ret
  exact⟨ret_val HX.out,aj hb2 HB0.out⟩
end Go.Proofs.YtfdihjnlgdiioaaGreatDoor.dB
namespace Go.Proofs.YtfdihjnlgdiioaaGreatDoor.dB
set_option linter.unusedVariables false
set_option linter.unusedSimpArgs false
theorem Cx {α:Type} {p q:α→Bool}:∀(xs:List α),(∀x∈xs,p x=q x)→xs.all p=xs.all q
 | [],_=>rfl
 | x :: xs,h=>by
  rw[List.all_cons,List.all_cons,h x (by simp),Cx xs (fun y hy=>h y (by simp[hy]))]
theorem Cy {α:Type} (p:α→Bool):∀(xs:List α) (n:Nat),aK p xs=n+1→∃h:n<xs.length,p xs[n]=false
 | [],n,h=>by simp[aK] at h
 | x :: xs,n,h=>by
  simp only[aK] at h
  cases hk:aK p xs with
  | zero =>
   rw[hk] at h
   by_cases hp:p x=true
   ·simp[hp] at h
   ·have:n=0:=by simp[hp] at h;omega
    subst this
    exact⟨by simp,by simpa using hp⟩
  | succ m =>
   rw[hk] at h
   have:n=m+1:=by simp at h;omega
   subst this
   obtain⟨h1,h2⟩:=Cy p xs m hk
   exact⟨by simp;omega,by simpa using h2⟩
theorem OW {α β:Type} (f:List α→β) (g:β→Nat) (hg:∀x,x.isEmpty=false→0<g (f x)) (xs:List (List α)):iT g ((ay List.isEmpty xs).map f)=true:=by
 unfold ay
 cases hk:aK List.isEmpty xs with
 | zero=>rw[List.take_zero];rfl
 | succ n =>
  obtain⟨h1,h2⟩:=Cy _ xs n hk
  have hl:((xs.take (n+1)).map f).length=n+1:=by rw[List.length_map,List.length_take];omega
  rw[pW _ _ (by rw[hl];omega)]
  have e:((xs.take (n+1)).map f)[((xs.take (n+1)).map f).length - 1]'(by rw[hl];omega)=f xs[n]:=by
   simp only[hl,Nat.add_sub_cancel,List.getElem_map,List.getElem_take]
  rw[e]
  exact decide_eq_true (hg _ h2)
theorem Cz {α β:Type} (lim:Nat) (f:List α→β) (g:β→Nat) (hg:∀x,x.isEmpty=false→0<g (f x)) (xs:List (List α)):sJ lim g ((ay List.isEmpty xs).map f)=decide (((ay List.isEmpty xs).map f).length≤lim):=by
 unfold sJ
 rw[OW f g hg xs,Bool.and_true]
theorem y9 (c:UInt8):∀(l cur p:List UInt8),p∈bU c cur l→∀x∈p,x∈cur∨x∈l
 | [],cur,p,h,x,hx=>by
  simp only[bU,List.mem_singleton] at h
  subst h
  exact .inl hx
 | y :: l,cur,p,h,x,hx=>by
  unfold bU at h
  split at h
  ·rw[List.mem_cons] at h
   rcases h with rfl|h
   ·exact .inl hx
   ·rcases y9 c l [] p h x hx with h1|h1
    ·cases h1
    ·exact .inr (by simp[h1])
  ·rcases y9 c l (cur++[y]) p h x hx with h1|h1
   ·rw[List.mem_append,List.mem_singleton] at h1
    rcases h1 with h1|h1
    ·exact .inl h1
    ·exact .inr (by simp[h1])
   ·exact .inr (by simp[h1])
theorem CB (c:UInt8) (l p:List UInt8) (h:p∈bI c l):∀x∈p,x∈l:=fun x hx=>by
 rcases y9 c l [] p h x hx with h1|h1
 ·cases h1
 ·exact h1
theorem Lu (d0 d1 d2:UInt8) (l:List UInt8) (h:l.head?.any (fun c=>c != d0)=false):gy d0 d1 d2 l=xw d0 d1 d2 l:=by
 cases l with
 | nil=>rfl
 | cons x l =>
  have hx:x=d0:=by simpa using h
  subst hx
  show ay List.isEmpty (((bI x (x :: l)).drop 1).map (dX d1 d2))=ay List.isEmpty ((bI x l).map (dX d1 d2))
  have e:bI x (x :: l)=[] :: bI x l:=by
   unfold bI
   conv=>lhs;unfold bU
   rw[if_pos rfl]
  rw[e]
  rfl
theorem Si (name:ByteArray) (hn:dY name=true) (d0 d1 d2:UInt8) (l:List UInt8) (hl:l.length≤40000) (hp:∀x∈l,bZ x=true) :
  rD ⟨name,(gy d0 d1 d2 l).map bL⟩=!qB ((gy d0 d1 d2 l).map bL):=by
 have hcomp:∀p,(∀x∈p,x∈l)→p.length≤40000→∀t∈dF d1 p,nW (txt t)=true:=fun p h1 h2 t ht=>by
  have hm:t∈bI d1 p:=mJ ht
  have h3:=jQ d1 p t hm
  unfold nW dI
  rw[dn,decide_eq_true (by omega),Bool.true_and,eU,List.all_eq_true]
  intro x hx
  exact hp x (h1 x (CB d1 p t hm x hx))
 have hrep:∀p,(∀x∈p,x∈l)→p.length≤40000→tL (jR (dF d1 p))=Ew (jR (dF d1 p)):=fun p h1 h2=>by
  unfold tL Ew
  have hc:sJ 20 ByteArray.size (jR (dF d1 p))=decide ((jR (dF d1 p)).length≤20):=Cz 20 txt ByteArray.size (fun x hx=>by
   rw[dn]
   cases x with
   | nil=>cases hx
   | cons y x=>simp) (bI d1 p)
  rw[hc]
  have ha:(jR (dF d1 p)).all nW=true:=by
   rw[List.all_eq_true]
   intro c hc
   unfold jR at hc
   rw[List.mem_map] at hc
   obtain⟨t,ht,rfl⟩:=hc
   exact hcomp p h1 h2 t ht
  rw[ha,Bool.and_true]
 have Zv:∀p,(∀x∈p,x∈l)→p.length≤40000→gW (bL (dX d1 d2 p))=zC (bL (dX d1 d2 p)):=fun p h1 h2=>by
  unfold gW zC
  have hc:sJ 30 List.length (bL (dX d1 d2 p))=decide ((bL (dX d1 d2 p)).length≤30):=Cz 30 jR List.length (fun x hx=>by
   cases x with
   | nil=>cases hx
   | cons y x=>simp[jR]) ((bI d2 p).map (dF d1))
  rw[hc]
  congr 1
  have ha:∀r∈bL (dX d1 d2 p),tL r=Ew r:=fun r hr=>by
   unfold bL at hr
   rw[List.mem_map] at hr
   obtain⟨y,hy,rfl⟩:=hr
   have hy:=mJ hy
   rw[List.mem_map] at hy
   obtain⟨z,hz,rfl⟩:=hy
   exact hrep z (fun x hx=>h1 x (CB d2 p z hz x hx)) (by have:=jQ d2 p z hz;omega)
  exact Cx _ ha
 unfold rD qB
 have hc:sJ 30 List.length ((gy d0 d1 d2 l).map bL)=decide (((gy d0 d1 d2 l).map bL).length≤30):=Cz 30 bL List.length (fun x hx=>by
  cases x with
  | nil=>cases hx
  | cons y x=>simp[bL]) (((bI d0 l).drop 1).map (dX d1 d2))
 have ha:∀f∈(gy d0 d1 d2 l).map bL,gW f=zC f:=fun f hf=>by
  rw[List.mem_map] at hf
  obtain⟨y,hy,rfl⟩:=hf
  have hy:=mJ hy
  rw[List.mem_map] at hy
  obtain⟨z,hz,rfl⟩:=hy
  have hz:=List.mem_of_mem_drop hz
  exact Zv z (fun x hx=>CB d0 l z hz x hx) (by have:=jQ d0 l z hz;omega)
 have hb:((gy d0 d1 d2 l).map bL).all gW=((gy d0 d1 d2 l).map bL).all zC:=Cx _ ha
 show (dY name && (sJ 30 List.length ((gy d0 d1 d2 l).map bL) && ((gy d0 d1 d2 l).map bL).all gW))=_
 rw[hn,hc,hb,Bool.true_and,Bool.not_or,Bool.not_not]
 congr 1
 by_cases h:((gy d0 d1 d2 l).map bL).length≤30
 ·rw[decide_eq_true h,decide_eq_false (by omega)];rfl
 ·rw[decide_eq_false h,decide_eq_true (by omega)];rfl
end Go.Proofs.YtfdihjnlgdiioaaGreatDoor.dB
namespace Go.Proofs.YtfdihjnlgdiioaaGreatDoor.dB
open Go.ChangeShapes Go.WideShapes Go.ChangeAt Go.RowKit
set_option linter.unusedVariables false
set_option linter.unusedSimpArgs false
theorem Ef (xs:List Seg) (k:Nat):(iV (xs.take k)).length≤(iV xs).length:=by
 unfold iV
 conv=>rhs;rw[←List.take_append_drop k xs]
 rw[List.flatMap_append,List.length_append]
 omega
theorem Jp:∀xs:List Seg,(iV xs).length≤6 * aT xs
 | []=>by simp[iV,aT,aH,sumOf]
 | x :: xs=>by
  have ih:=Jp xs
  have hx:=Cc x
  simp only[iV,aT,aH,sumOf,List.flatMap_cons,List.length_append,List.length_cons,List.map_cons,List.sum_cons] at *
  omega
set_option maxRecDepth 100000 in
set_option maxHeartbeats 2000000 in
theorem Gc (xs:List Seg) (v:Value) (w:World) (hsz:aT xs≤1048576) {lo:Nat} (hv:aX lo w v xs) :
  Calls Tryz.prog 32 #[.agg #[v],.slice none 0 0] w fun e w'=>∃u R,e=.returned u∧Wr [] (iV xs) R∧Buf w.heap.size w' u R∧Below w.heap.size w w':=by
 have hl:=hv.1
 obtain⟨a,cap,rfl,hc⟩:=hv.form
 have HC:=hide hc
 clear hc hv
 have hml:=Jp xs
 have hb0:=(Below.refl w.heap.size w).alloc (aS _) (Obj.cells #[.slice a xs.length cap] 28)
 go_enter Tryz.func32,Tryz.ntmps32
 go_wp2_with fail
 go_loopg [1,10] xs.length (fun n v1 i wr=>∃(k:Nat) (R:List UInt8),k≤xs.length∧n=xs.length - k∧i=.int .i64 k∧Wr [] (iV (xs.take k)) R∧Buf w.heap.size wr v1 R∧Below w.heap.size w wr)
 case atStart=>exact⟨0,[],eH _,by simp,rfl,by simpa [iV] using Wr.nil [],Buf.nil _ _,hb0⟩
 case round =>
  obtain⟨k,R,hk,rfl,rfl,hW,hbuf,hbr⟩:=hrel
  obtain⟨W1,rfl⟩:∃x,x=wr:=⟨_,rfl⟩
  have HW:=hide hW
  have hRl:=hW.len (Ef xs k)
  rw[List.length_nil] at hRl
  clear hW
  have hz:w.heap.size≤W1.heap.size:=hbr.size
  by_cases hlt:k<xs.length
  ·obtain⟨b,off,rfl,_,hbl,hc0,hns,ve,hc1,hel⟩:=HC.out k hlt
   obtain⟨a5,cap5,rfl,_⟩:=hel.form
   have hcell0:W1.cell? ⟨b,off+k * 2,none⟩=some (.string xs[k].name):=by rw[hbr.cell (p:=⟨b,off+k * 2,none⟩) hbl];exact hc0
   have hcell1:W1.cell? ⟨b,off+k * 2+1,none⟩=some (.slice a5 xs[k].fields.length cap5):=by rw[hbr.cell (p:=⟨b,off+k * 2+1,none⟩) hbl];exact hc1
   have abM:bB xs[k]≤1048576:=by
    have:=IW bB xs k hlt
    unfold aT aH at hsz
    omega
   have HS:=hide (wM xs k hlt)
   have l7:=hbr.alloc hz (Obj.cells #[.string xs[k].name,.slice a5 xs[k].fields.length cap5] 54)
   have hop:=hbuf.own
   clear hc0 hc1
   go_wp2_with fail
   refine(xP w.heap.size R xs[k] _ _ w _ (aS _) l7 hel (hbuf.alloc _) (by simp;omega) (by omega)).mono ?_
   rintro e w2 ⟨u,R2,rfl,hW2,hu,hg2⟩
   have HW2:=hide hW2
   have hb2:=l7.trans (hg2.below hop (by simp;omega))
   clear hW2
   go_wp2_with fail
   go_roundg (xs.length - (k+1))
   case rel=>exact⟨k+1,R2,by omega,rfl,by go_num,by rw[HS.out];exact HW.out.trans HW2.out,hu,hb2⟩
   case measure=>omega
  ·go_wp2_with fail
   go_ret
   exact⟨_,_,rfl,by have:=HW.out;rwa [List.take_of_length_le (by omega)] at this,hbuf,hbr⟩
set_option maxHeartbeats 1000000 in
theorem mh (xs:List Seg) (v:Value) (w:World) (hsz:aT xs≤1048576) {lo:Nat} (hv:aX lo w v xs) :
  Calls Tryz.prog 9 #[.agg #[v]] w fun e w'=>e=.returned (.string (encoded xs))∧Below w.heap.size w w':=by
 have hb:=(Below.refl w.heap.size w).alloc (aS _) (Obj.cells #[v] 28)
 have hv1:=At.kept bA hv hb
 have dP:(w.alloc (Obj.cells #[v] 28)).cell? ⟨w.heap.size,0,none⟩=some v:=by simp
 cases hm:dW xs
 ·have HX:=hide (rE hm)
  have HM:=hide hm
  clear hm dP
  go_enter Tryz.func9,Tryz.ntmps9
  go_wp2_with fail
  refine(uX xs v _ hsz hv1).mono ?_
  rintro e w1 ⟨rfl,hb1⟩
  rw[HM.out]
  go_wp2_with fail
  go_ret
  exact⟨bF HX.out.symm,aj hb1 hb⟩
 ·have HX:=hide (jI hm)
  have HM:=hide hm
  have HZ:=hide (OG xs hm)
  have jr:=hide dP
  clear hm dP
  go_enter Tryz.func9,Tryz.ntmps9
  go_wp2_with fail
  refine(uX xs v _ hsz hv1).mono ?_
  rintro e w1 ⟨rfl,hb1⟩
  rw[HM.out]
  have ED:w1.cell? ⟨w.heap.size,0,none⟩=some v:=by rw[hb1.cell (p:=⟨w.heap.size,0,none⟩) (by simp)];exact jr.out
  have hv2:=At.kept bA hv1 hb1
  have hb2:=aj hb1 hb
  clear hv1 hb1
  go_wp2_with fail
  refine(Gc xs v _ hsz hv2).mono ?_
  rintro e w3 ⟨u,R,rfl,hW,hu,hb3⟩
  have hR:R=iq xs:=by
   have:=hW.eq (by rw[List.nil_append,HZ.out.1];exact HZ.out.2)
   rw[this,List.nil_append,HZ.out.1]
  subst hR
  have afX:=KE hu
  clear ED hv2 hW
  go_wp2_with fail
  go_ret
  exact⟨bF HX.out.symm,aj hb3 hb2⟩
end Go.Proofs.YtfdihjnlgdiioaaGreatDoor.dB
