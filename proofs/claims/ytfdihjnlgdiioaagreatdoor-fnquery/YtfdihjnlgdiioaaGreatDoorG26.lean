import Derived.Test.YtfdihjnlgdiioaaGreatDoorG25
import Derived.Deep.LoopGhost
namespace Go.Proofs.YtfdihjnlgdiioaaGreatDoor.dB
open Go.ChangeShapes Go.WideShapes Go.ChangeAt Go.RowKit
set_option linter.unusedVariables false
set_option linter.unusedSimpArgs false
def Gi (r:jM):Bool:=!(fB r.control r.tag && aW r.pointer)
theorem ZC {r:jM} (h:Gi r=true):iD r=false:=by
 unfold Gi at h
 have h':(fB r.control r.tag && aW r.pointer)=false:=by cases hh:(fB r.control r.tag && aW r.pointer);rfl;rw[hh] at h;cases h
 unfold iD
 rw[←Bool.and_assoc,h',Bool.false_and]
theorem VU {r:jM} (h:Gi r=false):iD r=(lH r.rows 200 && (if sK r.ack then decide (r.code=0) else (M7 r.ack || M8 r.ack) && (decide (1≤r.code) && (decide (r.code≤999) && (decide (r.rows.length=0) && decide (r.pointer.size=0)))))):=by
 unfold Gi at h
 have h':(fB r.control r.tag && aW r.pointer)=true:=by cases hh:(fB r.control r.tag && aW r.pointer);rw[hh] at h;cases h;rfl
 unfold iD
 rw[←Bool.and_assoc,h',Bool.true_and]
theorem Sn {rows:List ByteArray} (h:rows.length≤200):lH rows 200=rows.all aW:=by
 unfold lH;rw[decide_eq_true h];rfl
set_option maxRecDepth 100000 in
set_option maxHeartbeats 8000000 in
theorem xW (r:jM) (a:Option Addr) (cap:Nat) (w:World) {lo:Nat} (h1:r.control.size≤9223372036854775807) (h2:r.tag.size≤9223372036854775807) (h3:r.pointer.size≤9223372036854775807) (hv:bq lo w (.slice a r.rows.length cap) r.rows) :
  Calls Tryz.prog 38 #[gU r (.slice a r.rows.length cap)] w fun e w'=>e=.returned (.bool (iD r))∧Below w.heap.size w w':=by
 have Fa:=hide (fun h:Gi r=false=>VU h)
 have HBAD:=hide (fun h:Gi r=true=>ZC h)
 obtain⟨bad,hbad⟩:∃b,Gi r=b:=⟨_,rfl⟩
 have uU:Hid (Gi r=bad):=hbad
 have Ki:Hid (Gi r=!(((decide (r.control.size=0) || aL r.control) && (decide (r.tag.size=0) || fH r.tag)) && aW r.pointer)):=rfl
 clear hbad
 have VW:Hid (∃o,iD r=o):=⟨_,rfl⟩
 obtain⟨ok,hok⟩:=VW.out
 have HE:=hide hok
 rw[hok] at Fa HBAD ⊢
 clear hok VW
 rw[uU.out] at Fa HBAD Ki
 obtain⟨ack,control,code,tag,rows,pointer⟩:=r
 unfold gU
 dsimp only at h1 h2 h3 hv Fa HBAD Ki ⊢
 have hl:=hv.1
 have hb:Below w.heap.size w (w.alloc (Obj.cells #[.string ack,.string control,.int .i64 code,.string tag,.slice a rows.length cap,.string pointer] 38)):=aO _ _
 obtain⟨w1,hw1⟩:∃w1,w.alloc (Obj.cells #[.string ack,.string control,.int .i64 code,.string tag,.slice a rows.length cap,.string pointer] 38)=w1:=⟨_,rfl⟩
 have d0:w1.cell? ⟨w.heap.size,0,none⟩=some (.string ack):=by rw[←hw1];simp
 have d1:w1.cell? ⟨w.heap.size,1,none⟩=some (.string control):=by rw[←hw1];simp
 have d2:w1.cell? ⟨w.heap.size,2,none⟩=some (.int .i64 code):=by rw[←hw1];simp
 have d3:w1.cell? ⟨w.heap.size,3,none⟩=some (.string tag):=by rw[←hw1];simp
 have d4:w1.cell? ⟨w.heap.size,4,none⟩=some (.slice a rows.length cap):=by rw[←hw1];simp
 have d5:w1.cell? ⟨w.heap.size,5,none⟩=some (.string pointer):=by rw[←hw1];simp
 rw[hw1] at hb
 have HV:=hide (At.kept bE hv hb)
 have HB:=hide hb
 have Ko:=hide (fun W=>aD control W h1)
 have VX:=hide (fun W=>bg tag W h2)
 have Uu:=hide (fun W=>bC pointer W h3)
 clear hv hb
 go_enter Tryz.func38,Tryz.ntmps38
 go_upto_region 1 with fail
 go_cut [31] (fun v31 wx=>v31=.bool bad∧wx=w1)
 case first =>
  by_cases hc0:(0:Int)<(control.size:Int)
  ·have ec:decide (control.size=0)=false:=decide_eq_false (by omega)
   cases hcb:aL control
   ·rw[hcb] at Ko
    have HX:Hid (bad=true):=by have:=Ki.out;rw[ec,hcb] at this;show _=_;simpa using this
    clear ec
    go_wp2_with (first|(go_at_call 45;refine(Ko.out _).mono ?_;rintro e w' ⟨rfl,rfl⟩))
    go_meet
    case rel=>exact⟨by rw[HX.out],rfl⟩
   ·rw[hcb] at Ko
    by_cases ht0:(0:Int)<(tag.size:Int)
    ·have et:decide (tag.size=0)=false:=decide_eq_false (by omega)
     cases htb:fH tag
     ·rw[htb] at VX
      have HX:Hid (bad=true):=by have:=Ki.out;rw[ec,hcb,et,htb] at this;show _=_;simpa using this
      clear ec et
      go_wp2_with (first|(go_at_call 45;refine(Ko.out _).mono ?_;rintro e w' ⟨rfl,rfl⟩)|(go_at_call 46;refine(VX.out _).mono ?_;rintro e w' ⟨rfl,rfl⟩))
      go_meet
      case rel=>exact⟨by rw[HX.out],rfl⟩
     ·rw[htb] at VX
      have HX:Hid (bad=!aW pointer):=by have:=Ki.out;rw[ec,hcb,et,htb] at this;show _=_;simpa using this
      clear ec et
      go_wp2_with (first|(go_at_call 45;refine(Ko.out _).mono ?_;rintro e w' ⟨rfl,rfl⟩)|(go_at_call 46;refine(VX.out _).mono ?_;rintro e w' ⟨rfl,rfl⟩)|(go_at_call 47;refine(Uu.out _).mono ?_;rintro e w' ⟨rfl,rfl⟩))
      go_meet
      case rel=>exact⟨by rw[HX.out],rfl⟩
    ·have et:decide (tag.size=0)=true:=decide_eq_true (by omega)
     have HX:Hid (bad=!aW pointer):=by have:=Ki.out;rw[ec,hcb,et] at this;show _=_;simpa using this
     clear ec et
     go_wp2_with (first|(go_at_call 45;refine(Ko.out _).mono ?_;rintro e w' ⟨rfl,rfl⟩)|(go_at_call 47;refine(Uu.out _).mono ?_;rintro e w' ⟨rfl,rfl⟩))
     go_meet
     case rel=>exact⟨by rw[HX.out],rfl⟩
  ·have ec:decide (control.size=0)=true:=decide_eq_true (by omega)
   by_cases ht0:(0:Int)<(tag.size:Int)
   ·have et:decide (tag.size=0)=false:=decide_eq_false (by omega)
    cases htb:fH tag
    ·rw[htb] at VX
     have HX:Hid (bad=true):=by have:=Ki.out;rw[ec,et,htb] at this;show _=_;simpa using this
     clear ec et
     go_wp2_with (first|(go_at_call 46;refine(VX.out _).mono ?_;rintro e w' ⟨rfl,rfl⟩))
     go_meet
     case rel=>exact⟨by rw[HX.out],rfl⟩
    ·rw[htb] at VX
     have HX:Hid (bad=!aW pointer):=by have:=Ki.out;rw[ec,et,htb] at this;show _=_;simpa using this
     clear ec et
     go_wp2_with (first|(go_at_call 46;refine(VX.out _).mono ?_;rintro e w' ⟨rfl,rfl⟩)|(go_at_call 47;refine(Uu.out _).mono ?_;rintro e w' ⟨rfl,rfl⟩))
     go_meet
     case rel=>exact⟨by rw[HX.out],rfl⟩
   ·have et:decide (tag.size=0)=true:=decide_eq_true (by omega)
    have HX:Hid (bad=!aW pointer):=by have:=Ki.out;rw[ec,et] at this;show _=_;simpa using this
    clear ec et
    go_wp2_with (first|(go_at_call 47;refine(Uu.out _).mono ?_;rintro e w' ⟨rfl,rfl⟩))
    go_meet
    case rel=>exact⟨by rw[HX.out],rfl⟩
 case rest =>
  obtain⟨rfl,hwx⟩:=hcut
  rw[hwx]
  clear hwx Ko VX Uu Ki
  have hbb:bad=false∨bad=true:=by cases bad;exact .inl rfl;exact .inr rfl
  rcases hbb with hbb|hbb
  ·have hOK:=Fa.out hbb
   subst hbb
   have VY:Hid (ok=_):=hOK
   clear hOK Fa HBAD
   by_cases hlen:(200:Int)<(rows.length:Int)
   ·have HX:Hid (ok=false):=by rw[VY.out];unfold lH;rw[decide_eq_false (p:=rows.length≤200) (by omega)];exact rfl
    go_wp2_with fail
    go_ret
    exact⟨aA HX.out.symm,HB.out⟩
   have HXR:Hid (lH rows 200=rows.all aW):=Sn (by omega)
   go_wp2_with fail
   go_loopg [3] rows.length (fun q i wr=>∃k:Nat,k≤rows.length∧q=rows.length - k∧i=.int .i64 (k:Int)∧(rows.take k).all aW=true∧wr=w1)
   case atStart=>exact⟨0,eH _,rfl,rfl,rfl,rfl⟩
   case round =>
    obtain⟨k,hk,rfl,rfl,hall,hwr⟩:=hrel
    rw[hwr]
    have HA:=hide hall
    clear hall hwr
    by_cases hlt:k<rows.length
    ·have hki:(k:Int)<(rows.length:Int):=by omega
     obtain⟨a',cap',e',hc⟩:=HV.out.form
     injection e' with e1 e2 e3
     subst e1 e3
     obtain⟨b,off,rfl,_,hbl,hcell,hsz⟩:=hc k hlt
     clear hc
     rw[Nat.mul_one] at hcell
     obtain⟨x,hx⟩:∃x,rows[k]=x:=⟨_,rfl⟩
     rw[hx] at hcell hsz
     have HR:=hide (fun W=>bC x W hsz)
     cases hxb:aW x
     ·rw[hxb] at HR
      have HN:Hid (rows.all aW=false):=by
       show _=_
       rw[List.all_eq_false]
       exact⟨rows[k],List.getElem_mem _,by rw[hx,hxb];decide⟩
      have HX:Hid (ok=false):=by rw[VY.out,HXR.out,HN.out];exact rfl
      clear hx
      go_wp2_with (first|(go_at_call 47;refine(HR.out _).mono ?_;rintro e w2 ⟨rfl,rfl⟩))
      go_ret
      exact⟨aA HX.out.symm,HB.out⟩
     ·rw[hxb] at HR
      have HN:Hid ((rows.take (k+1)).all aW=true):=by
       show _=_
       rw[List.take_succ_eq_append_getElem hlt,List.all_append,HA.out,hx]
       simp[hxb]
      clear hx
      go_wp2_with (first|(go_at_call 47;refine(HR.out _).mono ?_;rintro e w2 ⟨rfl,rfl⟩))
      go_roundg (rows.length - (k+1))
      case measure=>omega
      case rel=>exact⟨k+1,by omega,rfl,by go_num,HN.out,rfl⟩
    ·obtain rfl:k=rows.length:=by omega
     have hki:¬(rows.length:Int)<(rows.length:Int):=by omega
     have HN:Hid (rows.all aW=true):=by have:=HA.out;rw[List.take_length] at this;exact this
     have HX:=hide (show ok=_ from VY.out.trans (by rw[HXR.out,HN.out,Bool.true_and]))
     clear HA HN HXR VY
     cases h1:sK ack
     ·have e1:(ack.toList == [65,65])=false:=h1
      have LB:=HX.out
      rw[h1] at LB
      simp only[Bool.false_eq_true,if_false] at LB
      have HX:=hide LB
      clear LB h1
      have key:∀(b1 b2:Bool),(ack.toList == [65,69])=b1→(ack.toList == [65,82])=b2→Hid (ok=((b1 || b2) && (decide (1≤code) && (decide (code≤999) && (decide (rows.length=0) && decide (pointer.size=0)))))):=fun b1 b2 h h'=>by
       have:=HX.out
       unfold M7 M8 at this
       rw[h,h'] at this
       exact this
      cases e2:(ack.toList == [65,69])
      ·cases e3:(ack.toList == [65,82])
       ·have HY:Hid (ok=false):=by rw[(key _ _ e2 e3).out];exact rfl
        clear key HX
        go_wp2_with fail
        go_ret
        exact⟨aA HY.out.symm,HB.out⟩
       ·have HZ:=key _ _ e2 e3
        clear key HX
        by_cases c1:(1:Int)≤code
        ·by_cases c2:code≤999
         ·by_cases c3:rows.length=0
          ·have c3b:((rows.length:Int) == 0)=true:=by simpa using c3
           by_cases c4:pointer.size=0
           ·have c4b:((pointer.size:Int) == 0)=true:=by simpa using c4
            have HY:Hid (ok=true):=by rw[HZ.out,decide_eq_true c1,decide_eq_true c2,decide_eq_true c3,decide_eq_true c4];exact rfl
            clear HZ c3 c4
            go_wp2_with fail
            go_ret
            exact⟨aA HY.out.symm,HB.out⟩
           ·have c4i:¬(pointer.size:Int)=0:=by omega
            have c4b:((pointer.size:Int) == 0)=false:=by simpa using c4i
            have HY:Hid (ok=false):=by rw[HZ.out,decide_eq_true c1,decide_eq_true c2,decide_eq_true c3,decide_eq_false c4];exact rfl
            clear HZ c3 c4
            go_wp2_with fail
            go_ret
            exact⟨aA HY.out.symm,HB.out⟩
          ·have c3i:¬(rows.length:Int)=0:=by omega
           have c3b:((rows.length:Int) == 0)=false:=by simpa using c3i
           have HY:Hid (ok=false):=by rw[HZ.out,decide_eq_true c1,decide_eq_true c2,decide_eq_false c3];exact rfl
           clear HZ c3
           go_wp2_with fail
           go_ret
           exact⟨aA HY.out.symm,HB.out⟩
         ·have HY:Hid (ok=false):=by rw[HZ.out,decide_eq_true c1,decide_eq_false c2];exact rfl
          clear HZ
          go_wp2_with fail
          go_ret
          exact⟨aA HY.out.symm,HB.out⟩
        ·have HY:Hid (ok=false):=by rw[HZ.out,decide_eq_false c1];exact rfl
         clear HZ
         go_wp2_with fail
         go_ret
         exact⟨aA HY.out.symm,HB.out⟩
      ·have HZ:Hid (ok=(decide (1≤code) && (decide (code≤999) && (decide (rows.length=0) && decide (pointer.size=0))))):=by rw[(key true _ e2 rfl).out];exact rfl
       clear key HX
       by_cases c1:(1:Int)≤code
       ·by_cases c2:code≤999
        ·by_cases c3:rows.length=0
         ·have c3b:((rows.length:Int) == 0)=true:=by simpa using c3
          by_cases c4:pointer.size=0
          ·have c4b:((pointer.size:Int) == 0)=true:=by simpa using c4
           have HY:Hid (ok=true):=by rw[HZ.out,decide_eq_true c1,decide_eq_true c2,decide_eq_true c3,decide_eq_true c4];exact rfl
           clear HZ c3 c4
           go_wp2_with fail
           go_ret
           exact⟨aA HY.out.symm,HB.out⟩
          ·have c4i:¬(pointer.size:Int)=0:=by omega
           have c4b:((pointer.size:Int) == 0)=false:=by simpa using c4i
           have HY:Hid (ok=false):=by rw[HZ.out,decide_eq_true c1,decide_eq_true c2,decide_eq_true c3,decide_eq_false c4];exact rfl
           clear HZ c3 c4
           go_wp2_with fail
           go_ret
           exact⟨aA HY.out.symm,HB.out⟩
         ·have c3i:¬(rows.length:Int)=0:=by omega
          have c3b:((rows.length:Int) == 0)=false:=by simpa using c3i
          have HY:Hid (ok=false):=by rw[HZ.out,decide_eq_true c1,decide_eq_true c2,decide_eq_false c3];exact rfl
          clear HZ c3
          go_wp2_with fail
          go_ret
          exact⟨aA HY.out.symm,HB.out⟩
        ·have HY:Hid (ok=false):=by rw[HZ.out,decide_eq_true c1,decide_eq_false c2];exact rfl
         clear HZ
         go_wp2_with fail
         go_ret
         exact⟨aA HY.out.symm,HB.out⟩
       ·have HY:Hid (ok=false):=by rw[HZ.out,decide_eq_false c1];exact rfl
        clear HZ
        go_wp2_with fail
        go_ret
        exact⟨aA HY.out.symm,HB.out⟩
     ·have e1:(ack.toList == [65,65])=true:=h1
      have LB:=HX.out
      rw[h1] at LB
      simp only[if_true] at LB
      have HX:=hide LB
      clear LB h1
      by_cases hc:code=0
      ·have hcb:(code == 0)=true:=by simpa using hc
       have HY:Hid (ok=true):=by rw[HX.out,decide_eq_true hc];exact rfl
       clear HX hc
       go_wp2_with fail
       go_ret
       exact⟨aA HY.out.symm,HB.out⟩
      ·have hcb:(code == 0)=false:=by simpa using hc
       have HY:Hid (ok=false):=by rw[HX.out,decide_eq_false hc];exact rfl
       clear HX
       go_wp2_with fail
       go_ret
       exact⟨aA HY.out.symm,HB.out⟩
  ·have HX:Hid (ok=false):=HBAD.out hbb
   clear Fa HBAD
   subst hbb
   go_wp2_with fail
   go_ret
   exact⟨aA HX.out.symm,HB.out⟩
end Go.Proofs.YtfdihjnlgdiioaaGreatDoor.dB
