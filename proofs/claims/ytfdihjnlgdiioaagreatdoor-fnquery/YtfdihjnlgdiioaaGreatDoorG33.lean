import Derived.Test.YtfdihjnlgdiioaaGreatDoorG28
import Derived.Test.YtfdihjnlgdiioaaGreatDoorG8
namespace Go.Proofs.YtfdihjnlgdiioaaGreatDoor.dB
open Go.ChangeShapes Go.WideShapes Go.ChangeAt Go.RowKit
set_option linter.unusedVariables false
set_option linter.unusedSimpArgs false
theorem O7 (a b:Value) (w:World):(Go.method 350 100 (.agg #[a,b]) "loop.example/s01639/impl.lacks").run Tryz.prog w=.ok (201,.agg #[a,b]) w:=by kernel_rfl
theorem O8 (a b c d:Value) (w:World):(Go.method 350 98 (.agg #[a,b,c,d]) "loop.example/s01639/impl.lacks").run Tryz.prog w=.ok (198,.agg #[a,b,c,d]) w:=by kernel_rfl
theorem O9 (a b c d:Value) (w:World):(Go.method 350 96 (.agg #[a,b,c,d]) "loop.example/s01639/impl.lacks").run Tryz.prog w=.ok (190,.agg #[a,b,c,d]) w:=by kernel_rfl
theorem SV (a b:Value) (w:World):(Go.method 350 100 (.agg #[a,b]) "loop.example/s01639/impl.request").run Tryz.prog w=.ok (202,.agg #[a,b]) w:=by kernel_rfl
theorem SX (a b c d:Value) (w:World):(Go.method 350 98 (.agg #[a,b,c,d]) "loop.example/s01639/impl.request").run Tryz.prog w=.ok (199,.agg #[a,b,c,d]) w:=by kernel_rfl
theorem SY (a b c d:Value) (w:World):(Go.method 350 96 (.agg #[a,b,c,d]) "loop.example/s01639/impl.request").run Tryz.prog w=.ok (191,.agg #[a,b,c,d]) w:=by kernel_rfl
def yg (control tag:ByteArray):Option Int:=if aL control && fH tag then none else some 101
theorem yh (control tag:ByteArray) (w:World) (h1:control.size≤9223372036854775807) (h2:tag.size≤9223372036854775807) :
  Calls Tryz.prog 201 #[.agg #[.string control,.string tag]] w fun e w'=>e=.returned (ku (yg control tag))∧Below w.heap.size w w':=nR control tag w h1 h2
def gK (p:Value × Option Int):Value:=.tuple #[p.1,ku p.2]
theorem jN {a b:Value × Option Int} (h:a=b):Ending.returned (gK a)=.returned (gK b):=by rw[h]
set_option maxRecDepth 100000 in
set_option maxHeartbeats 4000000 in
theorem Df (xs:List Seg) (v:Value) (w:World) (hG:Got w v xs) (hsz:aT xs≤1048576) (hE:Env w) :
  Calls Tryz.prog 33 #[.agg #[v]] w fun e w'=>e=.returned (gK (eG (aB xs ⟨#[77,83,72]⟩ 9 1) (aB xs ⟨#[77,83,72]⟩ 10 1) (aB xs ⟨#[77,83,72]⟩ 12 1) (aB xs ⟨#[81,73,68]⟩ 1 1) (aB xs ⟨#[81,80,68]⟩ 2 1) (aB xs ⟨#[81,80,68]⟩ 3 1) (aB xs ⟨#[68,83,67]⟩ 1 1) (sG (aB xs ⟨#[82,67,80]⟩ 2 1))))∧Below w.heap.size w w':=by
 have hb0:=(Below.refl w.heap.size w).alloc (aS _) (Obj.cells #[v] 28)
 obtain⟨w1,hw1⟩:∃w1,w.alloc (Obj.cells #[v] 28)=w1:=⟨_,rfl⟩
 rw[hw1] at hb0
 have hcv:w1.cell? ⟨w.heap.size,0,none⟩=some v:=by rw[←hw1];simp
 have HG:=hide (hG.kept hb0)
 have HE:=hide (hE.kept hb0)
 have HB0:=hide hb0
 have hlt:=lt_of_cell hcv
 have HOLD:Hid (∀W,Below w1.heap.size w1 W→W.cell? ⟨w.heap.size,0,none⟩=some v):=fun W h=>by rw[h.cell (p:=⟨w.heap.size,0,none⟩) hlt];exact hcv
 have Gy:Hid (∀W,Below w1.heap.size w1 W→Calls Tryz.prog 35 #[.agg #[v]] W fun e w'=>e=.returned (.string (known (aB xs ⟨#[77,83,72]⟩ 10 1)))∧Below W.heap.size W w'):=fun W hb=>qO xs v W (HG.out.kept hb) hsz
 have HLR:Hid (∀W kind control,Below w1.heap.size w1 W→Calls Tryz.prog 64 #[.agg #[v],.string kind,.string control] W fun e w'=>e=.returned (gM kind control (aB xs ⟨#[81,73,68]⟩ 1 1) (aB xs ⟨#[81,80,68]⟩ 2 1) (aB xs ⟨#[81,80,68]⟩ 3 1) (aB xs ⟨#[68,83,67]⟩ 1 1) (sG (aB xs ⟨#[82,67,80]⟩ 2 1)))∧Below W.heap.size W w'):=fun W kind control hb=>y8 xs kind control v W (HG.out.kept hb) hsz (HE.out.kept hb)
 have z2:=bK xs ⟨#[77,83,72]⟩ 10 1
 have z4:=bK xs ⟨#[81,73,68]⟩ 1 1
 have z5:=bK xs ⟨#[81,80,68]⟩ 2 1
 have z6:=bK xs ⟨#[81,80,68]⟩ 3 1
 have z7:=bK xs ⟨#[68,83,67]⟩ 1 1
 obtain⟨kind,h1⟩:∃z,aB xs ⟨#[77,83,72]⟩ 9 1=z:=⟨_,rfl⟩
 obtain⟨ct,h2⟩:∃z,aB xs ⟨#[77,83,72]⟩ 10 1=z:=⟨_,rfl⟩
 obtain⟨ver,h3⟩:∃z,aB xs ⟨#[77,83,72]⟩ 12 1=z:=⟨_,rfl⟩
 obtain⟨dZ,h4⟩:∃z,aB xs ⟨#[81,73,68]⟩ 1 1=z:=⟨_,rfl⟩
 obtain⟨tag,h5⟩:∃z,aB xs ⟨#[81,80,68]⟩ 2 1=z:=⟨_,rfl⟩
 obtain⟨query,h6⟩:∃z,aB xs ⟨#[81,80,68]⟩ 3 1=z:=⟨_,rfl⟩
 obtain⟨pointer,h7⟩:∃z,aB xs ⟨#[68,83,67]⟩ 1 1=z:=⟨_,rfl⟩
 obtain⟨page,h8⟩:∃z,sG (aB xs ⟨#[82,67,80]⟩ 2 1)=z:=⟨_,rfl⟩
 rw[h2] at Gy z2
 rw[h4,h5,h6,h7,h8] at HLR
 rw[h4] at z4
 rw[h5] at z5
 rw[h6] at z6
 rw[h7] at z7
 rw[h1,h2,h3,h4,h5,h6,h7,h8]
 have E1:=hide h1
 have E3:=hide h3
 have Z2:ct.size≤9223372036854775807:=by omega
 have Z4:dZ.size≤9223372036854775807:=by omega
 have Z5:tag.size≤9223372036854775807:=by omega
 have Z6:query.size≤9223372036854775807:=by omega
 have Z7:pointer.size≤9223372036854775807:=by omega
 clear h1 h2 h3 h4 h5 h6 h7 h8 hG hE hb0 z2 z4 z5 z6 z7
 have m1:=O7
 have m2:=O8
 have m3:=O9
 have HR:Hid (eG kind ct ver dZ tag query pointer page=_):=rfl
 have Uz:Hid (Calls Tryz.prog 63 #[.agg #[v],.string ⟨#[77,83,72]⟩,.int .i64 9,.int .i64 1] w1 fun e W'=>e=.returned (.string kind)∧Below w1.heap.size w1 W'):=by
  have:=HG.out w1 ⟨#[77,83,72]⟩ 9 1 (Below.refl _ _) (by decide) (by decide) (by decide) (by decide) (by decide)
  rw[E1.out] at this
  exact this
 have Pb:Hid (∀W,Below w1.heap.size w1 W→Calls Tryz.prog 63 #[.agg #[v],.string ⟨#[77,83,72]⟩,.int .i64 12,.int .i64 1] W fun e W'=>e=.returned (.string ver)∧Below W.heap.size W W'):=fun W hb=>by
  have:=HG.out W ⟨#[77,83,72]⟩ 12 1 hb (by decide) (by decide) (by decide) (by decide) (by decide)
  rw[E3.out] at this
  exact this
 cases hq:(kind.toList == [81,66,80]) <;> cases hc:(kind.toList == [81,67,78])
 case false.false =>
  have HX:Hid ((.nilIface,some 200)=eG kind ct ver dZ tag query pointer page):=by unfold eG;rw[hq,hc];rfl
  go_enter Tryz.func33,Tryz.ntmps33
  go_wp2_with fail
  refine Uz.out.mono ?_
  rintro e w2 ⟨rfl,hb2⟩
  go_wp2_with fail
  exact bodyPost_ret (v:=gK (.nilIface,some 200)) (by simp[results,Tryz.results33,go_sem,gK,ku,sD]) rfl ⟨jN HX.out,aj hb2 HB0.out⟩
 case false.true =>
  have HX0:Hid (eG kind ct ver dZ tag query pointer page=if !aL ct then (.nilIface,some 101)
   else if !(ver.toList == [50,46,53,46,49]) then (.nilIface,some 203)
   else (gM kind ct dZ tag query pointer page,
    if kind.toList == [81,67,78] then (if aL ct && fH dZ then none else some 101)
    else if pointer.toList == [] then newL ct tag query page else gJ ct tag query pointer)):=by unfold eG;rw[hq,hc];rfl
  cases hcb:aL ct
  ·have HX:Hid ((.nilIface,some 101)=eG kind ct ver dZ tag query pointer page):=by rw[HX0.out,hcb];rfl
   have HK:Hid (known ct=⟨#[]⟩):=CP hcb
   rw[HK.out] at Gy
   go_enter Tryz.func33,Tryz.ntmps33
   go_wp2_with fail
   refine Uz.out.mono ?_
   rintro e w2 ⟨rfl,hb2⟩
   have hc2:=HOLD.out _ hb2
   go_wp2_with (first|(go_at_call 35;refine(Gy.out _ hb2).mono ?_;rintro e w3 ⟨rfl,hb3⟩))
   exact bodyPost_ret (v:=gK (.nilIface,some 101)) (by simp[results,Tryz.results33,go_sem,gK,ku,sD]) rfl ⟨jN HX.out,aj hb3 (aj hb2 HB0.out)⟩
  ·obtain⟨hk1,hk2⟩:=ze hcb
   rw[hk1] at Gy
   clear hk1
   cases hv:(ver.toList == [50,46,53,46,49])
   ·have HX:Hid ((.nilIface,some 203)=eG kind ct ver dZ tag query pointer page):=by rw[HX0.out,hcb,hv];rfl
    go_enter Tryz.func33,Tryz.ntmps33
    go_wp2_with fail
    refine Uz.out.mono ?_
    rintro e w2 ⟨rfl,hb2⟩
    have hc2:=HOLD.out _ hb2
    go_wp2_with fail
    refine(Gy.out _ hb2).mono ?_
    rintro e w3 ⟨rfl,dO⟩
    have hb3:=aj dO hb2
    have hc3:=HOLD.out _ hb3
    go_wp2_with fail
    refine(Pb.out _ hb3).mono ?_
    rintro e w4 ⟨rfl,hb4⟩
    go_wp2_with fail
    exact bodyPost_ret (v:=gK (.nilIface,some 203)) (by simp[results,Tryz.results33,go_sem,gK,ku,sD]) rfl ⟨jN HX.out,aj hb4 (aj hb3 HB0.out)⟩
   ·have HX:Hid (eG kind ct ver dZ tag query pointer page=(gM kind ct dZ tag query pointer page,
     if kind.toList == [81,67,78] then (if aL ct && fH dZ then none else some 101)
     else if pointer.toList == [] then newL ct tag query page else gJ ct tag query pointer)):=by rw[HX0.out,hcb,hv];rfl
    go_enter Tryz.func33,Tryz.ntmps33
    go_wp2_with fail
    refine Uz.out.mono ?_
    rintro e w2 ⟨rfl,hb2⟩
    have hc2:=HOLD.out _ hb2
    go_wp2_with fail
    refine(Gy.out _ hb2).mono ?_
    rintro e w3 ⟨rfl,dO⟩
    have hb3:=aj dO hb2
    have hc3:=HOLD.out _ hb3
    go_wp2_with fail
    refine(Pb.out _ hb3).mono ?_
    rintro e w4 ⟨rfl,zk⟩
    have hb4:=aj zk hb3
    have hc4:=HOLD.out _ hb4
    go_wp2_with fail
    refine(HLR.out _ _ _ hb4).mono ?_
    rintro e w5 ⟨rfl,iX⟩
    have hb5:=aj iX hb4
    have HW5:=hide (aj hb5 HB0.out)
    have HV:gM kind ct dZ tag query pointer page=.iface 100 (.agg #[.string ct,.string dZ]):=by unfold gM;rw[hc];rfl
    have HY:Hid ((.iface 100 (.agg #[.string ct,.string dZ]),yg ct dZ)=eG kind ct ver dZ tag query pointer page):=by rw[HX.out,HV,hc];rfl
    rw[HV]
    clear HV HX HX0
    go_wp2_with (first|(go_at_call 201;refine(yh ct dZ _ Z2 Z4).mono ?_;rintro e w6 ⟨rfl,hb6⟩))
    exact bodyPost_ret (v:=gK (.iface 100 (.agg #[.string ct,.string dZ]),yg ct dZ)) (by simp[results,Tryz.results33,go_sem,gK]) rfl ⟨jN HY.out,aj hb6 HW5.out⟩
 case true.true =>
  have HX0:Hid (eG kind ct ver dZ tag query pointer page=if !aL ct then (.nilIface,some 101)
   else if !(ver.toList == [50,46,53,46,49]) then (.nilIface,some 203)
   else (gM kind ct dZ tag query pointer page,
    if kind.toList == [81,67,78] then (if aL ct && fH dZ then none else some 101)
    else if pointer.toList == [] then newL ct tag query page else gJ ct tag query pointer)):=by unfold eG;rw[hq,hc];rfl
  cases hcb:aL ct
  ·have HX:Hid ((.nilIface,some 101)=eG kind ct ver dZ tag query pointer page):=by rw[HX0.out,hcb];rfl
   have HK:Hid (known ct=⟨#[]⟩):=CP hcb
   rw[HK.out] at Gy
   go_enter Tryz.func33,Tryz.ntmps33
   go_wp2_with fail
   refine Uz.out.mono ?_
   rintro e w2 ⟨rfl,hb2⟩
   have hc2:=HOLD.out _ hb2
   go_wp2_with (first|(go_at_call 35;refine(Gy.out _ hb2).mono ?_;rintro e w3 ⟨rfl,hb3⟩))
   exact bodyPost_ret (v:=gK (.nilIface,some 101)) (by simp[results,Tryz.results33,go_sem,gK,ku,sD]) rfl ⟨jN HX.out,aj hb3 (aj hb2 HB0.out)⟩
  ·obtain⟨hk1,hk2⟩:=ze hcb
   rw[hk1] at Gy
   clear hk1
   cases hv:(ver.toList == [50,46,53,46,49])
   ·have HX:Hid ((.nilIface,some 203)=eG kind ct ver dZ tag query pointer page):=by rw[HX0.out,hcb,hv];rfl
    go_enter Tryz.func33,Tryz.ntmps33
    go_wp2_with fail
    refine Uz.out.mono ?_
    rintro e w2 ⟨rfl,hb2⟩
    have hc2:=HOLD.out _ hb2
    go_wp2_with fail
    refine(Gy.out _ hb2).mono ?_
    rintro e w3 ⟨rfl,dO⟩
    have hb3:=aj dO hb2
    have hc3:=HOLD.out _ hb3
    go_wp2_with fail
    refine(Pb.out _ hb3).mono ?_
    rintro e w4 ⟨rfl,hb4⟩
    go_wp2_with fail
    exact bodyPost_ret (v:=gK (.nilIface,some 203)) (by simp[results,Tryz.results33,go_sem,gK,ku,sD]) rfl ⟨jN HX.out,aj hb4 (aj hb3 HB0.out)⟩
   ·have HX:Hid (eG kind ct ver dZ tag query pointer page=(gM kind ct dZ tag query pointer page,
     if kind.toList == [81,67,78] then (if aL ct && fH dZ then none else some 101)
     else if pointer.toList == [] then newL ct tag query page else gJ ct tag query pointer)):=by rw[HX0.out,hcb,hv];rfl
    go_enter Tryz.func33,Tryz.ntmps33
    go_wp2_with fail
    refine Uz.out.mono ?_
    rintro e w2 ⟨rfl,hb2⟩
    have hc2:=HOLD.out _ hb2
    go_wp2_with fail
    refine(Gy.out _ hb2).mono ?_
    rintro e w3 ⟨rfl,dO⟩
    have hb3:=aj dO hb2
    have hc3:=HOLD.out _ hb3
    go_wp2_with fail
    refine(Pb.out _ hb3).mono ?_
    rintro e w4 ⟨rfl,zk⟩
    have hb4:=aj zk hb3
    have hc4:=HOLD.out _ hb4
    go_wp2_with fail
    refine(HLR.out _ _ _ hb4).mono ?_
    rintro e w5 ⟨rfl,iX⟩
    have hb5:=aj iX hb4
    have HW5:=hide (aj hb5 HB0.out)
    have HV:gM kind ct dZ tag query pointer page=.iface 100 (.agg #[.string ct,.string dZ]):=by unfold gM;rw[hc];rfl
    have HY:Hid ((.iface 100 (.agg #[.string ct,.string dZ]),yg ct dZ)=eG kind ct ver dZ tag query pointer page):=by rw[HX.out,HV,hc];rfl
    rw[HV]
    clear HV HX HX0
    go_wp2_with (first|(go_at_call 201;refine(yh ct dZ _ Z2 Z4).mono ?_;rintro e w6 ⟨rfl,hb6⟩))
    exact bodyPost_ret (v:=gK (.iface 100 (.agg #[.string ct,.string dZ]),yg ct dZ)) (by simp[results,Tryz.results33,go_sem,gK]) rfl ⟨jN HY.out,aj hb6 HW5.out⟩
 case true.false =>
  have HX0:Hid (eG kind ct ver dZ tag query pointer page=if !aL ct then (.nilIface,some 101)
   else if !(ver.toList == [50,46,53,46,49]) then (.nilIface,some 203)
   else (gM kind ct dZ tag query pointer page,
    if kind.toList == [81,67,78] then (if aL ct && fH dZ then none else some 101)
    else if pointer.toList == [] then newL ct tag query page else gJ ct tag query pointer)):=by unfold eG;rw[hq,hc];rfl
  cases hcb:aL ct
  ·have HX:Hid ((.nilIface,some 101)=eG kind ct ver dZ tag query pointer page):=by rw[HX0.out,hcb];rfl
   have HK:Hid (known ct=⟨#[]⟩):=CP hcb
   rw[HK.out] at Gy
   go_enter Tryz.func33,Tryz.ntmps33
   go_wp2_with fail
   refine Uz.out.mono ?_
   rintro e w2 ⟨rfl,hb2⟩
   have hc2:=HOLD.out _ hb2
   go_wp2_with (first|(go_at_call 35;refine(Gy.out _ hb2).mono ?_;rintro e w3 ⟨rfl,hb3⟩))
   exact bodyPost_ret (v:=gK (.nilIface,some 101)) (by simp[results,Tryz.results33,go_sem,gK,ku,sD]) rfl ⟨jN HX.out,aj hb3 (aj hb2 HB0.out)⟩
  ·obtain⟨hk1,hk2⟩:=ze hcb
   rw[hk1] at Gy
   clear hk1
   cases hv:(ver.toList == [50,46,53,46,49])
   ·have HX:Hid ((.nilIface,some 203)=eG kind ct ver dZ tag query pointer page):=by rw[HX0.out,hcb,hv];rfl
    go_enter Tryz.func33,Tryz.ntmps33
    go_wp2_with fail
    refine Uz.out.mono ?_
    rintro e w2 ⟨rfl,hb2⟩
    have hc2:=HOLD.out _ hb2
    go_wp2_with fail
    refine(Gy.out _ hb2).mono ?_
    rintro e w3 ⟨rfl,dO⟩
    have hb3:=aj dO hb2
    have hc3:=HOLD.out _ hb3
    go_wp2_with fail
    refine(Pb.out _ hb3).mono ?_
    rintro e w4 ⟨rfl,hb4⟩
    go_wp2_with fail
    exact bodyPost_ret (v:=gK (.nilIface,some 203)) (by simp[results,Tryz.results33,go_sem,gK,ku,sD]) rfl ⟨jN HX.out,aj hb4 (aj hb3 HB0.out)⟩
   ·have HX:Hid (eG kind ct ver dZ tag query pointer page=(gM kind ct dZ tag query pointer page,
     if kind.toList == [81,67,78] then (if aL ct && fH dZ then none else some 101)
     else if pointer.toList == [] then newL ct tag query page else gJ ct tag query pointer)):=by rw[HX0.out,hcb,hv];rfl
    go_enter Tryz.func33,Tryz.ntmps33
    go_wp2_with fail
    refine Uz.out.mono ?_
    rintro e w2 ⟨rfl,hb2⟩
    have hc2:=HOLD.out _ hb2
    go_wp2_with fail
    refine(Gy.out _ hb2).mono ?_
    rintro e w3 ⟨rfl,dO⟩
    have hb3:=aj dO hb2
    have hc3:=HOLD.out _ hb3
    go_wp2_with fail
    refine(Pb.out _ hb3).mono ?_
    rintro e w4 ⟨rfl,zk⟩
    have hb4:=aj zk hb3
    have hc4:=HOLD.out _ hb4
    go_wp2_with fail
    refine(HLR.out _ _ _ hb4).mono ?_
    rintro e w5 ⟨rfl,iX⟩
    have hb5:=aj iX hb4
    have HW5:=hide (aj hb5 HB0.out)
    cases hp:(pointer.toList == [])
    ·have HV:gM kind ct dZ tag query pointer page=.iface 98 (.agg #[.string ct,.string tag,.string query,.string pointer]):=by unfold gM;rw[hc,hp];rfl
     have HY:Hid ((.iface 98 (.agg #[.string ct,.string tag,.string query,.string pointer]),gJ ct tag query pointer)=eG kind ct ver dZ tag query pointer page):=by rw[HX.out,HV,hc,hp];rfl
     rw[HV]
     clear HV HX HX0
     go_wp2_with (first|(go_at_call 198;refine(qo ct tag query pointer _ Z2 Z5 Z6 Z7).mono ?_;rintro e w6 ⟨rfl,hb6⟩))
     exact bodyPost_ret (v:=gK (.iface 98 (.agg #[.string ct,.string tag,.string query,.string pointer]),gJ ct tag query pointer)) (by simp[results,Tryz.results33,go_sem,gK]) rfl ⟨jN HY.out,aj hb6 HW5.out⟩
    ·have HV:gM kind ct dZ tag query pointer page=.iface 96 (.agg #[.string ct,.string tag,.string query,.int .i64 page]):=by unfold gM;rw[hc,hp];rfl
     have HY:Hid ((.iface 96 (.agg #[.string ct,.string tag,.string query,.int .i64 page]),newL ct tag query page)=eG kind ct ver dZ tag query pointer page):=by rw[HX.out,HV,hc,hp];rfl
     rw[HV]
     clear HV HX HX0
     go_wp2_with (first|(go_at_call 190;refine(rQ ct tag query page _ Z2 Z5 Z6).mono ?_;rintro e w6 ⟨rfl,hb6⟩))
     exact bodyPost_ret (v:=gK (.iface 96 (.agg #[.string ct,.string tag,.string query,.int .i64 page]),newL ct tag query page)) (by simp[results,Tryz.results33,go_sem,gK]) rfl ⟨jN HY.out,aj hb6 HW5.out⟩
end Go.Proofs.YtfdihjnlgdiioaaGreatDoor.dB
