import Derived.Deep.CutBlock
import Derived.Deep.DeepCutAuto
import Derived.Test.YtfdihjnlgdiioaaGreatDoorG14
namespace Go.Proofs.YtfdihjnlgdiioaaGreatDoor.dB
open Go.ChangeShapes Go.WideShapes Go.ChangeAt Go.RowKit
set_option linter.unusedVariables false
set_option linter.unusedSimpArgs false
structure pK where
 kind:Int
 control:ByteArray
 tag:ByteArray
 query:ByteArray
 page:Int
 pointer:ByteArray
def bY (r:pK):Value:=.agg #[.int .i64 r.kind,.string r.control,.string r.tag,.string r.query,.int .i64 r.page,.string r.pointer]
def told (control:ByteArray):pK:=⟨0,if aL control then control else ⟨#[]⟩,⟨#[]⟩,⟨#[]⟩,0,⟨#[]⟩⟩
def bG (kind control ver dZ tag query pointer size:ByteArray) (num:Int):pK × Int :=
 if !(kind.toList == [81,66,80]) && !(kind.toList == [81,67,78]) then (told control,200)
 else if !aL control then (told control,101)
 else if !(ver.toList == [50,46,53,46,49]) then (told control,203)
 else if kind.toList == [81,67,78] then (if fH dZ then (⟨3,control,dZ,⟨#[]⟩,0,⟨#[]⟩⟩,0) else (told control,101))
 else if !fH tag then (told control,101)
 else if !aW query || !aW pointer then (told control,102)
 else if 0<pointer.size then (⟨2,control,tag,query,0,pointer⟩,0)
 else if 0<size.size then (if decide (1≤num) && decide (num≤50) then (⟨1,control,tag,query,num,⟨#[]⟩⟩,0) else (told control,102))
 else (⟨1,control,tag,query,10,⟨#[]⟩⟩,0)
theorem I7 (kind control ver dZ tag query pointer size:ByteArray) :
  bG kind control ver dZ tag query pointer size (iG size.data.toList)=bG kind control ver dZ tag query pointer size (jB size.data.toList):=by
 have h:=Om size.data.toList 50 (by omega) (by omega)
 unfold bG
 rw[h]
 by_cases hn:(decide (1≤jB size.data.toList) && decide (jB size.data.toList≤50))=true
 ·have hs:=tY size.data.toList (.inr (by simp at hn;omega))
  rw[hs]
 ·rw[if_neg hn,if_neg hn]
theorem rP {α:Type} (f:α→Nat):∀(xs:List α) (x:α),x∈xs→f x≤sumOf f xs
 | y :: ys,x,h=>by
  rw[List.mem_cons] at h
  unfold sumOf
  rw[List.map_cons,List.sum_cons]
  rcases h with rfl|h
  ·omega
  ·have:=rP f ys x h
   unfold sumOf at this
   omega
theorem Vs (fs:List Field) (a c:Int):(pick fs a c).size≤sumOf aF fs:=by
 unfold pick
 split
 ·exact eH _
 ·cases hf:fs[a.toNat]? with
  | none=>exact eH _
  | some f =>
   cases f with
   | nil=>exact eH _
   | cons r rs =>
    show (if c<1 then (⟨#[]⟩:ByteArray) else r.getD (c - 1).toNat ⟨#[]⟩).size≤_
    split
    ·exact eH _
    ·have h1:(r.getD (c - 1).toNat ⟨#[]⟩).size≤iw r:=by
      rw[List.getD_eq_getElem?_getD]
      cases hr:r[(c - 1).toNat]? with
      | none=>exact eH _
      | some x =>
       have h2:=rP pU r x (List.mem_of_getElem? hr)
       show x.size≤_
       unfold iw aH
       unfold pU at h2 ⊢
       omega
     have h3:=rP aF fs (r :: rs) (List.mem_of_getElem? hf)
     have h4:=rP iw (r :: rs) r (by simp)
     have h5:aF (r :: rs)=(r :: rs).length+sumOf iw (r :: rs):=rfl
     omega
theorem bK (xs:List Seg) (name:ByteArray) (f c:Int):(aB xs name f c).size≤aT xs:=by
 unfold aB
 cases h:xs.find? fun s=>s.name.toList == name.toList with
 | none=>exact eH _
 | some s =>
  have h1:=rP bB xs s (List.mem_of_find?_eq_some h)
  have h2:=Vs s.fields (f - if ig name then 3 else 1) c
  show (pick s.fields _ c).size≤_
  have h5:bB s=s.name.size+(s.fields.length+sumOf aF s.fields):=rfl
  have h6:aT xs=xs.length+sumOf bB xs:=rfl
  omega
set_option maxHeartbeats 400000 in
theorem gT (s:ByteArray) (w:World) (hs:s.size≤9223372036854775807) :
  Calls Tryz.prog 193 #[.string s] w fun e w'=>e=.returned (.bool (fH s))∧w'=w:=by
 by_cases h1:(1:Int)≤(s.size:Int)
 ·by_cases h2:(s.size:Int)≤16
  ·have HX:Hid (fH s=dI s):=qK (by omega) (by omega)
   go_enter Tryz.func193,Tryz.ntmps193
   go_wp2_with (go_at_call 55;refine(ni s _ hs).mono ?_;rintro e w' ⟨rfl,rfl⟩)
   go_ret
   exact⟨aA HX.out.symm,rfl⟩
  ·have HX:Hid (fH s=false):=qJ (by omega)
   go_enter Tryz.func193,Tryz.ntmps193
   go_wp2_with fail
   go_ret
   exact⟨aA HX.out.symm,rfl⟩
 ·have HX:Hid (fH s=false):=xL (by omega)
  go_enter Tryz.func193,Tryz.ntmps193
  go_wp2_with fail
  go_ret
  exact⟨aA HX.out.symm,rfl⟩
set_option maxHeartbeats 400000 in
theorem bW (s:ByteArray) (w:World) (hs:s.size≤9223372036854775807) :
  Calls Tryz.prog 69 #[.string s] w fun e w'=>e=.returned (.bool (aL s))∧w'=w:=by
 by_cases h1:(1:Int)≤(s.size:Int)
 ·by_cases h2:(s.size:Int)≤20
  ·have HX:Hid (aL s=dI s):=qK (by omega) (by omega)
   go_enter Tryz.func69,Tryz.ntmps69
   go_wp2_with (go_at_call 55;refine(ni s _ hs).mono ?_;rintro e w' ⟨rfl,rfl⟩)
   go_ret
   exact⟨aA HX.out.symm,rfl⟩
  ·have HX:Hid (aL s=false):=qJ (by omega)
   go_enter Tryz.func69,Tryz.ntmps69
   go_wp2_with fail
   go_ret
   exact⟨aA HX.out.symm,rfl⟩
 ·have HX:Hid (aL s=false):=xL (by omega)
  go_enter Tryz.func69,Tryz.ntmps69
  go_wp2_with fail
  go_ret
  exact⟨aA HX.out.symm,rfl⟩
set_option maxHeartbeats 400000 in
theorem fP (s:ByteArray) (w:World) (hs:s.size≤9223372036854775807) :
  Calls Tryz.prog 194 #[.string s] w fun e w'=>e=.returned (.bool (aW s))∧w'=w:=by
 by_cases h2:(s.size:Int)≤200
 ·have HX:Hid (aW s=dI s):=qK (by omega) (by omega)
  go_enter Tryz.func194,Tryz.ntmps194
  go_wp2_with (go_at_call 55;refine(ni s _ hs).mono ?_;rintro e w' ⟨rfl,rfl⟩)
  go_ret
  exact⟨aA HX.out.symm,rfl⟩
 ·have HX:Hid (aW s=false):=qJ (by omega)
  go_enter Tryz.func194,Tryz.ntmps194
  go_wp2_with fail
  go_ret
  exact⟨aA HX.out.symm,rfl⟩
def zQ (n:Int):Bool:=decide (1≤n) && decide (n≤50)
set_option maxHeartbeats 400000 in
theorem BZ (n:Int) (w:World) :
  Calls Tryz.prog 195 #[.int .i64 n] w fun e w'=>e=.returned (.bool (zQ n))∧w'=w:=by
 by_cases h1:(1:Int)≤n
 ·by_cases h2:n≤50
  ·have HX:Hid (zQ n=true):=by unfold zQ;rw[decide_eq_true h1,decide_eq_true h2];exact rfl
   go_enter Tryz.func195,Tryz.ntmps195
   go_wp2_with fail
   go_ret
   exact⟨aA HX.out.symm,rfl⟩
  ·have HX:Hid (zQ n=false):=by unfold zQ;rw[decide_eq_true h1,decide_eq_false h2];exact rfl
   go_enter Tryz.func195,Tryz.ntmps195
   go_wp2_with fail
   go_ret
   exact⟨aA HX.out.symm,rfl⟩
 ·have HX:Hid (zQ n=false):=by unfold zQ;rw[decide_eq_false h1];exact rfl
  go_enter Tryz.func195,Tryz.ntmps195
  go_wp2_with fail
  go_ret
  exact⟨aA HX.out.symm,rfl⟩
end Go.Proofs.YtfdihjnlgdiioaaGreatDoor.dB
namespace Go.Proofs.YtfdihjnlgdiioaaGreatDoor.dB
set_option linter.unusedVariables false
theorem dN {w:World} {v:Value} {xs:List lW} {bs:List Nat} (h:bP w v xs bs):∃a c,v=.slice a xs.length c:=by
 obtain⟨a,c,e,_⟩:=(bS.pO oC h (lo:=0) (fun _ _=>eH _)).form
 exact⟨a,c,e⟩
theorem ow {w:World} {v:Value} {xs:List ByteArray} {bs:List Nat} (h:fV w v xs bs):∃a c,v=.slice a xs.length c:=by
 obtain⟨a,c,e,_⟩:=(bS.pO xu h (lo:=0) (fun _ _=>eH _)).form
 exact⟨a,c,e⟩
theorem dA {w:World} {v:Value} {xs:List Field} {bs:List Nat} (h:aN w v xs bs):∃a c,v=.slice a xs.length c:=by
 obtain⟨a,c,e,_⟩:=(bS.pO mG h (lo:=0) (fun _ _=>eH _)).form
 exact⟨a,c,e⟩
end Go.Proofs.YtfdihjnlgdiioaaGreatDoor.dB
namespace Go.Proofs.YtfdihjnlgdiioaaGreatDoor.dB
open Go.ChangeShapes Go.WideShapes Go.ChangeAt Go.RowKit
set_option linter.unusedVariables false
set_option linter.unusedSimpArgs false
theorem Xv (b:ByteArray):oN b=(b.size == 0):=rfl
set_option maxRecDepth 100000 in
set_option maxHeartbeats 4000000 in
theorem I8 (P:Nat→Prop) (fs:List Field) (v:Value) (bs:List Nat) (w:World) (hP1:∀d∈bs,P d) (hP2:∀d,w.heap.size≤d→P d) (hl:fs.length≤1048576) (hlf:∀f∈fs,f.length≤1048576) (hv:MR w v fs bs) :
  Calls Tryz.prog 53 #[v] w fun e w'=>∃u,e=.returned u∧jS bP P 57 w.heap.size w' u (trimF fs)∧Below w.heap.size w w':=by
 obtain⟨i0,hi,hz0,hz1,hz2⟩:=gV kL
 obtain⟨i1,hi1,hy0,hy1,hy2⟩:=gV sZ
 obtain⟨a,cap,rfl,hc⟩:=bS.form hv
 have HC:Hid (∀i (hi:i<fs.length),∃b off cs vf,a=some ⟨b,off,none⟩∧b<w.heap.size∧w.cell? ⟨b,off+i,none⟩=some vf∧tX w vf fs[i] cs∧∀c∈cs,P c):=fun i hi=>by
  obtain⟨b,off,cs,e,h1,_,⟨vf,h3,h4⟩,h5⟩:=hc i hi
  exact⟨b,off,cs,vf,e,h1,by simpa using h3,h4,fun c hc=>hP1 c (h5 c hc)⟩
 have HLF:=hide hlf
 have HTF:Hid (trimF fs=(fs.map gQ).take (aK List.isEmpty (fs.map gQ))):=rfl
 have D7:=hide hP2
 clear hc hv hlf hP1 hP2
 go_enter Tryz.func53,Tryz.ntmps53
 go_wp2_with fail
 go_loopg [3,4,5] fs.length (fun n v3 n4 i wr=>∃k:Nat,k≤fs.length∧n=fs.length - k∧i=.int .i64 k∧n4=.int .i64 ((aK List.isEmpty ((fs.map gQ).take k):Nat):Int)∧jS bP P 57 w.heap.size wr v3 ((fs.map gQ).take k)∧Below w.heap.size w wr)
 case atStart=>exact⟨0,eH _,by simp,rfl,by simp[aK],by simpa using jS.empty bP P 57 w.heap.size w (aS _),aO _ _⟩
 case round =>
  obtain⟨k,hk,rfl,rfl,rfl,hL,hb⟩:=hrel
  obtain⟨W1,rfl⟩:∃x,x=wr:=⟨_,rfl⟩
  obtain⟨V1,rfl⟩:∃x,x=u3:=⟨_,rfl⟩
  have HL:=hide hL
  have HB:=hide hb
  have Bu:=hb.size
  clear hL hb
  by_cases hlt:k<fs.length
  ·obtain⟨b,off,cs,vf,rfl,hbl,hcell,hO,abu⟩:=HC.out k hlt
   have hfl:=HLF.out fs[k] (List.getElem_mem hlt)
   have hkm:k<(fs.map gQ).length:=by rw[List.length_map];exact hlt
   have hge:(fs.map gQ)[k]=gQ fs[k]:=by rw[List.getElem_map]
   have Vt:=hide hge
   obtain⟨f,hf⟩:∃f,fs[k]=f:=⟨_,rfl⟩
   rw[hf] at hO hfl hge
   have Vt:Hid ((fs.map gQ)[k]=gQ f):=hge
   obtain⟨a2,cap2,rfl,hc2⟩:=bS.form hO
   have HC2:Hid (∀j (hj:j<f.length),∃b2 off2 vr cs2,a2=some ⟨b2,off2,none⟩∧b2<w.heap.size∧w.cell? ⟨b2,off2+j,none⟩=some vr∧EN w vr f[j] cs2∧∀c∈cs2,P c):=fun j hj=>by
    obtain⟨b2,off2,cs2,e,h1,_,⟨vr,h3,h4⟩,h5⟩:=hc2 j hj
    exact⟨b2,off2,vr,cs2,e,h1,by simpa using h3,h4,fun c hc=>abu c (h5 c hc)⟩
   have abv:Hid (∀w',Below w.heap.size w w'→w'.cell? ⟨b,off+k,none⟩=some (.slice a2 f.length cap2)):=fun w' h=>by rw[h.cell (p:=⟨b,off+k,none⟩) hbl];exact hcell
   have hki:(k:Int)<(fs.length:Int):=by omega
   have HTR:Hid (gQ f=(f.map gX).take (aK List.isEmpty (f.map gX))):=rfl
   clear hc2 hO hcell hf hge abu
   go_wp2_with fail
   go_loopg [6,7,8] f.length (fun n v6 n7 j wr=>∃q:Nat,q≤f.length∧n=f.length - q∧j=.int .i64 q∧n7=.int .i64 ((aK List.isEmpty ((f.map gX).take q):Nat):Int)∧jS fV (fun d=>P d∧d<w.heap.size) 60 W1.heap.size wr v6 ((f.map gX).take q)∧Below W1.heap.size W1 wr)
   case atStart=>exact⟨0,eH _,by simp,rfl,by simp[aK],by simpa using jS.empty fV (fun d=>P d∧d<w.heap.size) 60 W1.heap.size W1 (aS _),aO _ _⟩
   case round =>
    obtain⟨q,hq,rfl,rfl,rfl,hL2,hb3⟩:=hrel
    obtain⟨W3,rfl⟩:∃x,x=wr:=⟨_,rfl⟩
    obtain⟨V3,rfl⟩:∃x,x=u6:=⟨_,rfl⟩
    have HL2:=hide hL2
    have HB3:=hide hb3
    have Kv:=hb3.size
    have nA:=hide (HB.out.trans (hb3.mono Bu))
    have hcf:=abv.out W3 nA.out
    clear hL2 hb3
    by_cases hq2:q<f.length
    ·obtain⟨b2,off2,vr,cs2,rfl,Kn,hcell2,hO2,abw⟩:=HC2.out q hq2
     obtain⟨r,hr⟩:∃r,f[q]=r:=⟨_,rfl⟩
     have hqm:q<(f.map gX).length:=by rw[List.length_map];exact hq2
     have I9:(f.map gX)[q]=gX f[q]:=by rw[List.getElem_map]
     rw[hr] at hO2 I9
     have YT:Hid ((f.map gX)[q]=gX r):=I9
     obtain⟨hO2,a3,Af,rfl,afV,agL⟩:=hO2
     have hO3:=bS.kept d9 hO2 (w':=W3) nA.out.size (fun c hc=>nA.out.block c (bS.lt jy hO2 c hc))
     have YU:Hid (∀c∈cs2,P c∧c<w.heap.size):=fun c hc=>⟨abw c hc,bS.lt jy hO2 c hc⟩
     have abx:=bS.form hO3
     have HC3:Hid (∀j (hj:j<r.length),∃b3 mq,a3=some ⟨b3,mq,none⟩∧W3.cell? ⟨b3,mq+j,none⟩=some (.string r[j])∧r[j].size≤9223372036854775807):=fun j hj=>by
      obtain⟨a',c',e',hc3⟩:=abx
      injection e' with e1 _ e3
      subst e1 e3
      obtain⟨b3,mq,cs3,e,_,_,h3,_⟩:=hc3 j hj
      exact⟨b3,mq,e,by simpa using h3.1,h3.2.2.1⟩
     have HO3:Hid (fV W3 (.slice a3 r.length Af) r cs2):=hO3
     have hcr:W3.cell? ⟨b2,off2+q,none⟩=some (.slice a3 r.length Af):=by rw[nA.out.cell (p:=⟨b2,off2+q,none⟩) Kn];exact hcell2
     have hqi:(q:Int)<(f.length:Int):=by omega
     clear hO2 hO3 abx hcell2 I9 hr abw
     go_upto_block 4 with fail
     go_cut [10] (fun c wx=>c=.int .i64 ((aK oN r:Nat):Int)∧W3=wx)
     case first =>
      go_wp2_with fail
      go_loopg [10] r.length (fun n c wr=>∃p:Nat,p≤r.length∧p=n∧c=.int .i64 (p:Int)∧(∀j (h:j<r.length),p≤j→oN r[j]=true)∧W3=wr)
      case atStart=>exact⟨r.length,aS _,rfl,rfl,fun j h1 h2=>absurd h2 (by omega),rfl⟩
      case round =>
       obtain⟨p,hp,rfl,rfl,hall,rfl⟩:=hrel
       have HA:=hide hall
       clear hall
       by_cases hp0:0<p
       ·have hp1:p - 1<r.length:=by omega
        have hpi:(0:Int)<(p:Int):=by omega
        obtain⟨b3,mq,rfl,hc3,hs3⟩:=HC3.out (p - 1) hp1
        have htn:((p:Int) - 1).toNat=p - 1:=by omega
        have hpl:(p:Int) - 1<(r.length:Int):=by omega
        cases hem:oN (r[p - 1]'hp1)
        ·have hne:(((r[p - 1]'hp1).size:Int) == 0)=false:=by
          rw[Xv,beq_eq_false_iff_ne] at hem
          rw[beq_eq_false_iff_ne];omega
         have HK:=hide (jm oN r p hp HA.out (fun _ _=>hem))
         clear hem
         go_wp2_with fail
         go_meet
         case rel=>exact⟨by rw[HK.out],rfl⟩
        ·have hne:(((r[p - 1]'hp1).size:Int) == 0)=true:=by
          rw[Xv,beq_iff_eq] at hem
          rw[beq_iff_eq];omega
         have HA2:Hid (∀j (h:j<r.length),p - 1≤j→oN r[j]=true):=fun j hj h=>by
          by_cases e:j=p - 1
          ·subst e;exact hem
          ·exact HA.out j hj (by omega)
         clear hem
         go_wp2_with fail
         go_roundg (p - 1)
         case measure=>omega
         case rel=>exact⟨p - 1,by omega,rfl,by go_num,HA2.out,rfl⟩
       ·obtain rfl:p=0:=by omega
        have HK:=hide (jm oN r 0 (eH _) HA.out (fun _ h=>absurd h (by omega)))
        go_wp2_with fail
        go_meet
        case rel=>exact⟨by rw[HK.out],rfl⟩
     case rest =>
      obtain⟨rfl,rfl⟩:=hcut
      obtain⟨c,hcn⟩:∃c,aK oN r=c:=⟨_,rfl⟩
      have HCN:=hide hcn
      have hcl:c≤r.length:=by rw[←hcn];exact kE _ _
      have HTC:Hid (gX r=r.take c):=by rw[←hcn];exact rfl
      have hrl:(gX r).length=c:=by rw[HTC.out,List.length_take];omega
      have qc:=hide hrl
      rw[hcn]
      clear hcn hrl
      obtain⟨cs4,hO4,aby⟩:=fV.first HO3.out hcl
      rw[←HTC.out] at hO4
      obtain⟨vs,bss,hv1,hv2,hv3,hv5⟩:=HL2.out
      have hvl:((f.map gX).take q).length=q:=by rw[List.length_take];omega
      have Qz:=hide hvl
      have gI:Below W3.heap.size W3 (W3.alloc (Obj.cells #[.slice a3 c Af] 60)):=aO _ _
      have Kh:=bS.kept d9 hO4 (w':=W3.alloc (Obj.cells #[.slice a3 c Af] 60)) (by simp) (fun d hd=>Deep.blk_alloc_lt _ _ _ (bS.lt jy hO4 d hd))
      have gZ:=own_below hv3 gI
      have F4:=hide hv1
      have HV2:=hide hv2
      have NQ:=hide hv3
      have HV5:=hide hv5
      have AB:=hide gI
      have NR:=hide Kh
      have sQ:Hid (∀d∈cs4,(P d∧d<w.heap.size)∧V3.ownBlock≠some d):=fun d hd=>by
       have h1:=YU.out d (aby d hd)
       exact⟨h1,fun e=>by have:=(oH NQ.out e).1;have:=h1.2;omega⟩
      rw[hvl] at gZ
      clear hv1 hv2 hv3 hv5 gI Kh hO4 hvl hcr hcf
      go_wp2_with (first
       | (at_builtin;refine wpList_append_own_at _ rfl _ _ 55 rfl W1.heap.size 60 i1 (.agg #[.slice none 0 0]) 1 24 Tryz.underlying55 hi1 hy0 hy1 hy2 rfl (by decide) _ _ _ rfl gZ ⟨W3.heap.size,0,none⟩ 1 1 [.slice a3 c Af] rfl rfl (gH _ _ _) (qz _ _ _) (by unfold maxLen;omega) (by omega) (by rw[Deep.nblk_alloc];omega) ?_)
       | fail)
      intro v' w6 hown' hgrow hnil hat
      have QA:=hide (jS.push (O:=fV) (fun _ _ _ _ _ h s d=>bS.kept d9 h s d) (fun _ _ _ _ h=>bS.lt jy h) F4.out HV2.out NQ.out HV5.out AB.out NR.out sQ.out Qz.out.symm hown' hgrow (by simpa using hat))
      have Bz:Hid (Below W1.heap.size W1 w6):=(HB3.out.trans (AB.out.mono Kv)).grown hgrow (by simp;omega) (fun b hb'=>(oH gZ hb').1)
      have QB:Hid ((f.map gX).take q++[gX r]=(f.map gX).take (q+1)):=by rw[List.take_succ_eq_append_getElem hqm,YT.out];trivial
      have HKS:=hide (Bf List.isEmpty (f.map gX) q hqm)
      clear hown' hgrow hnil hat gZ
      by_cases hc0:c=0
      ·have YV:Hid ((gX r).isEmpty=true):=List.isEmpty_iff.2 (List.length_eq_zero_iff.1 (qc.out.trans hc0))
       have hcz:¬(0:Int)<(c:Int):=by omega
       have Um:Hid (aK List.isEmpty ((f.map gX).take (q+1))=aK List.isEmpty ((f.map gX).take q)):=by rw[HKS.out,YT.out,if_pos YV.out];exact rfl
       clear hc0
       go_wp2_with fail
       go_roundg (f.length - (q+1))
       case measure=>omega
       case rel=>exact⟨q+1,by omega,rfl,by go_num,by rw[Um.out],by rw[←QB.out];exact QA.out,Bz.out⟩
      ·have YV:Hid (¬(gX r).isEmpty=true):=by
        intro h
        rw[List.isEmpty_iff] at h
        have:=qc.out
        rw[h] at this
        exact hc0 this.symm
       have hcz:(0:Int)<(c:Int):=by omega
       have Um:Hid (aK List.isEmpty ((f.map gX).take (q+1))=q+1):=by rw[HKS.out,YT.out,if_neg YV.out];exact rfl
       clear hc0
       go_wp2_with fail
       go_roundg (f.length - (q+1))
       case measure=>omega
       case rel=>exact⟨q+1,by omega,rfl,by go_num,by rw[Um.out];go_num,by rw[←QB.out];exact QA.out,Bz.out⟩
    ·obtain rfl:q=f.length:=by omega
     have hall:(f.map gX).take f.length=f.map gX:=by rw[←List.length_map (f:=gX),List.take_length]
     have hkn:=kE List.isEmpty (f.map gX)
     rw[List.length_map] at hkn
     have hL2:=HL2.out
     rw[hall] at hL2 ⊢
     obtain⟨c,hcn⟩:∃c,aK List.isEmpty (f.map gX)=c:=⟨_,rfl⟩
     rw[hcn] at hkn ⊢
     have HTC:Hid (gQ f=(f.map gX).take c):=by rw[←hcn];exact rfl
     have hrl:(gQ f).length=c:=by rw[HTC.out,List.length_take,List.length_map];omega
     have qc:=hide hrl
     clear hcn hrl hall
     obtain⟨a4,cap4,rfl,YW,aew,M0,cs4,hO4,Vu⟩:=jS.first (R:=Km) (fun w b off x bs v h1 h2=>⟨v,h1,h2⟩) hL2 (by rw[List.length_map];omega) (n:=c) (by rw[List.length_map];omega)
     rw[←HTC.out] at hO4
     rw[List.length_map] at YW ⊢
     obtain⟨vs,bss,hv1,hv2,hv3,hv5⟩:=HL.out
     have hvl:((fs.map gQ).take k).length=k:=by rw[List.length_take];omega
     have Qz:=hide hvl
     have YX:=HB3.out
     have gI:Below W1.heap.size W1 (W3.alloc (Obj.cells #[.slice a4 c cap4] 57)):=YX.alloc YX.size _
     have Kh:=bS.kept fD hO4 (w':=W3.alloc (Obj.cells #[.slice a4 c cap4] 57)) (by simp) (fun d hd=>Deep.blk_alloc_lt _ _ _ (bS.lt dJ hO4 d hd))
     have gZ:=own_below hv3 gI
     have F4:=hide hv1
     have HV2:=hide hv2
     have NQ:=hide hv3
     have HV5:=hide hv5
     have AB:=hide gI
     have NR:=hide Kh
     have sQ:Hid (∀d∈cs4,P d∧V1.ownBlock≠some d):=fun d hd=>by
      rcases(Vu d hd).2 with h2|h2
      ·exact⟨h2.1,fun e=>by have h1:=oH NQ.out e;have:=h2.2;omega⟩
      ·exact⟨D7.out d (by omega),fun e=>by have h1:=oH NQ.out e;omega⟩
     rw[hvl] at gZ
     clear hv1 hv2 hv3 hv5 gI Kh hO4 hvl hL2 M0 Vu YX
     go_wp2_with (first
      | (at_builtin;refine wpList_append_own_at _ rfl _ _ 52 rfl w.heap.size 57 i0 (.agg #[.slice none 0 0]) 1 24 Tryz.underlying52 hi hz0 hz1 hz2 rfl (by decide) _ _ _ rfl gZ ⟨W3.heap.size,0,none⟩ 1 1 [.slice a4 c cap4] rfl rfl (gH _ _ _) (qz _ _ _) (by unfold maxLen;omega) (by omega) (by rw[Deep.nblk_alloc];omega) ?_)
      | fail)
     intro v' w6 hown' hgrow hnil hat
     have QA:=hide (jS.push (O:=bP) (fun _ _ _ _ _ h s d=>bS.kept fD h s d) (fun _ _ _ _ h=>bS.lt dJ h) F4.out HV2.out NQ.out HV5.out AB.out NR.out sQ.out Qz.out.symm hown' hgrow (by simpa using hat))
     have Bz:Hid (Below w.heap.size w w6):=(HB.out.trans (AB.out.mono Bu)).grown hgrow (by simp;omega) (fun b hb'=>(oH gZ hb').1)
     have QB:Hid ((fs.map gQ).take k++[gQ f]=(fs.map gQ).take (k+1)):=by rw[List.take_succ_eq_append_getElem hkm,Vt.out];trivial
     have HKS:=hide (Bf List.isEmpty (fs.map gQ) k hkm)
     clear hown' hgrow hnil hat gZ
     by_cases hc0:c=0
     ·have YV:Hid ((gQ f).isEmpty=true):=List.isEmpty_iff.2 (List.length_eq_zero_iff.1 (qc.out.trans hc0))
      have hcz:¬(0:Int)<(c:Int):=by omega
      have Um:Hid (aK List.isEmpty ((fs.map gQ).take (k+1))=aK List.isEmpty ((fs.map gQ).take k)):=by rw[HKS.out,Vt.out,if_pos YV.out];exact rfl
      clear hc0
      go_wp2_with fail
      go_roundg (fs.length - (k+1))
      case measure=>omega
      case rel=>exact⟨k+1,by omega,rfl,by go_num,by rw[Um.out],by rw[←QB.out];exact QA.out,Bz.out⟩
     ·have YV:Hid (¬(gQ f).isEmpty=true):=by
       intro h
       rw[List.isEmpty_iff] at h
       have:=qc.out
       rw[h] at this
       exact hc0 this.symm
      have hcz:(0:Int)<(c:Int):=by omega
      have Um:Hid (aK List.isEmpty ((fs.map gQ).take (k+1))=k+1):=by rw[HKS.out,Vt.out,if_neg YV.out];exact rfl
      clear hc0
      go_wp2_with fail
      go_roundg (fs.length - (k+1))
      case measure=>omega
      case rel=>exact⟨k+1,by omega,rfl,by go_num,by rw[Um.out];go_num,by rw[←QB.out];exact QA.out,Bz.out⟩
  ·obtain rfl:k=fs.length:=by omega
   have hall:(fs.map gQ).take fs.length=fs.map gQ:=by rw[←List.length_map (f:=gQ),List.take_length]
   have hkn:=kE List.isEmpty (fs.map gQ)
   rw[List.length_map] at hkn
   have hL:=HL.out
   rw[hall] at hL ⊢
   obtain⟨a4,cap4,rfl,YW,aew,M0,cs4,hO4,Vu⟩:=jS.first (R:=qZ) (fun w b off x bs v h1 h2=>⟨v,h1,h2⟩) hL (by rw[List.length_map];omega) (n:=aK List.isEmpty (fs.map gQ)) (by rw[List.length_map];omega)
   rw[←HTF.out] at M0
   rw[List.length_map] at YW ⊢
   have uU:=hide M0
   generalize aK List.isEmpty (fs.map gQ)=N at *
   clear hL hO4 hall M0 Vu
   go_wp2_with fail
   go_ret
   exact⟨_,rfl,uU.out,HB.out⟩
theorem jS.above {α:Type} {O:World→Value→α→List Nat→Prop} (hkeep:∀w w' v x bs,O w v x bs→w.heap.size≤w'.heap.size→(∀d∈bs,w'.heap[d]?=w.heap[d]?)→O w' v x bs)
  {P:Nat→Prop} {e:TypeId} {base:Nat} {w w':World} {v:Value} {xs:List α} (h:jS O P e base w v xs) (hs:w.heap.size≤w'.heap.size) (hb:∀b,base≤b∨P b→w'.heap[b]?=w.heap[b]?):jS O P e base w' v xs:=by
 obtain⟨vs,bss,h1,h2,h3,h5⟩:=h
 refine⟨vs,bss,h1,h2,NA h3 fun b hb'=>hb b (.inl hb'),fun i hi g1 g2=>?_⟩
 obtain⟨k1,k2⟩:=h5 i hi g1 g2
 exact⟨hkeep _ _ _ _ _ k1 hs fun d hd=>hb d (.inr (k2 d hd).1),fun b hb'=>⟨(k2 b hb').1,Nat.lt_of_lt_of_le (k2 b hb').2.1 hs,(k2 b hb').2.2⟩⟩
theorem jS.low {α:Type} {O:World→Value→α→List Nat→Prop} {P:Nat→Prop} {e:TypeId} {base base':Nat} {w:World} {v:Value} {xs:List α} (h:jS O P e base w v xs) (hb:base'≤base):jS O P e base' w v xs:=by
 obtain⟨vs,bss,h1,h2,⟨hl,h3⟩,h5⟩:=h
 refine⟨vs,bss,h1,h2,⟨hl,?_⟩,h5⟩
 rcases h3 with h3|⟨g,cap,cur,e1,hg,rest⟩
 ·exact .inl h3
 ·exact .inr ⟨g,cap,cur,e1,by omega,rest⟩
set_option maxRecDepth 100000 in
set_option maxHeartbeats 2000000 in
theorem iO (name:ByteArray) (texts:List ByteArray) (v:Value) (w:World) {lo:Nat} (hv:bq lo w v texts) (hl:texts.length≤1000) (hz:∀t∈texts,t.size≤1048576) :
  Calls Tryz.prog 26 #[.string name,v] w fun e w'=>∃u,e=.returned (.agg #[.string name,u])∧jS bP (fun d=>w.heap.size+1≤d) 57 (w.heap.size+1) w' u (trimF (texts.map ah))∧Below w.heap.size w w':=by
 obtain⟨i0,hi,hz0,hz1,hz2⟩:=gV kL
 obtain⟨a,cap,rfl,hc⟩:=hv.form
 have HC:Hid (∀i (hi:i<texts.length),∃b off,a=some ⟨b,off,none⟩∧b<w.heap.size∧w.cell? ⟨b,off+i,none⟩=some (.string texts[i])):=fun i hi=>by
  obtain⟨b,off,e,_,h2,h3⟩:=hc i hi
  exact⟨b,off,e,h2,by simpa using h3.1⟩
 have HZ:=hide hz
 have hb0:=(Below.refl w.heap.size w).alloc (aS _) (Obj.cells #[.string ⟨#[]⟩,.slice none 0 0] 54)
 clear hc hv hz
 go_enter Tryz.func26,Tryz.ntmps26
 go_wp2_with fail
 obtain⟨W0,hW0⟩:∃W0,w.alloc (Obj.cells #[.string ⟨#[]⟩,.slice none 0 0] 54)=W0:=⟨_,rfl⟩
 have hs0:W0.heap.size=w.heap.size+1:=by rw[←hW0];simp
 have HB0:Hid (Below w.heap.size w W0):=by rw[←hW0];exact aO _ _
 have Rl:Hid (W0.cell? ⟨w.heap.size,0,none⟩=some (.string ⟨#[]⟩)∧W0.cell? ⟨w.heap.size,1,none⟩=some (.slice none 0 0)∧∀i,W0.frozen? ⟨w.heap.size,i,none⟩=false):=by rw[←hW0];exact⟨by simp,by simp,fun i=>by simp⟩
 rw[hW0]
 clear hW0 hb0
 go_loopg [5,6] texts.length (fun n v5 i wr=>∃k:Nat,k≤texts.length∧n=texts.length - k∧i=.int .i64 k∧pQ tX 57 W0.heap.size wr v5 ((texts.take k).map ah)∧Below W0.heap.size W0 wr)
 case atStart=>exact⟨0,eH _,by simp,rfl,by rw[←hs0];simpa using pQ.empty tX 57 W0.heap.size W0 (aS _),aO _ _⟩
 case round =>
  obtain⟨k,hk,rfl,rfl,hL,hb⟩:=hrel
  obtain⟨W1,rfl⟩:∃x,x=wr:=⟨_,rfl⟩
  obtain⟨V1,rfl⟩:∃x,x=u5:=⟨_,rfl⟩
  have HL:=hide hL
  have HB:=hide hb
  have Bu:=hb.size
  clear hL hb
  by_cases hlt:k<texts.length
  ·obtain⟨b,off,rfl,hbl,hcell⟩:=HC.out k hlt
   have hc1:W1.cell? ⟨b,off+k,none⟩=some (.string texts[k]):=by rw[HB.out.cell (p:=⟨b,off+k,none⟩) (show b<W0.heap.size by omega),HB0.out.cell (p:=⟨b,off+k,none⟩) hbl];exact hcell
   have hki:(k:Int)<(texts.length:Int):=by omega
   have htz:=HZ.out texts[k] (List.getElem_mem hlt)
   clear hcell
   go_wp2_with fail
   refine(Ri texts[k] _ htz).mono ?_
   rintro e W2 ⟨u2,rfl,yH,hO2,Vv,hfr2,hb2⟩
   obtain⟨a2,cap2,rfl,hform⟩:=bS.form hO2
   clear hform
   obtain⟨vs,bss,hv1,hv2,hv3,hv4,hv5⟩:=HL.out
   have gI:Below W1.heap.size W1 (W2.alloc (Obj.cells #[.slice a2 (ah texts[k]).length cap2] 57)):=hb2.alloc hb2.size _
   have Kh:=bS.kept wJ hO2 (w':=W2.alloc (Obj.cells #[.slice a2 (ah texts[k]).length cap2] 57)) (by simp) (fun c hc=>Deep.blk_alloc_lt _ _ _ (bS.lt IJ hO2 c hc))
   have gZ:=own_below hv3 gI
   have hvl:((texts.take k).map ah).length=k:=by rw[List.length_map,List.length_take];omega
   have Qz:=hide hvl
   have NQ:=hide hv3
   have AB:=hide gI
   have NR:=hide Kh
   have GX:=hide Vv
   have sQ:=hide hfr2
   have D9:=hb2.size
   rw[hvl] at gZ
   generalize hM:(ah texts[k]).length=M at *
   clear hv1 hv2 hv3 hv4 hv5 gI Kh Vv hfr2 hO2 hb2 hc1 hvl
   go_wp2_with (first
    | (at_builtin;refine wpList_append_own_at _ rfl _ _ 52 rfl W0.heap.size 57 i0 (.agg #[.slice none 0 0]) 1 24 Tryz.underlying52 hi hz0 hz1 hz2 rfl (by decide) _ _ _ rfl gZ ⟨W2.heap.size,0,none⟩ 1 1 [.slice a2 M cap2] rfl rfl (gH _ _ _) (qz _ _ _) (by unfold maxLen;omega) (by omega) (by rw[Deep.nblk_alloc];omega) ?_)
    | fail)
   intro v' w6 hown' hgrow hnil hat
   rw[←hs0] at hown'
   have QA:=hide (pQ.push (O:=tX) (fun _ _ _ _ _ h s d=>bS.kept wJ h s d) (fun _ _ _ _ h=>bS.lt IJ h) HL.out Bu AB.out NR.out sQ.out GX.out NQ.out Qz.out.symm hown' hgrow (by simpa using hat))
   have Bz:Hid (Below W0.heap.size W0 w6):=(HB.out.trans (AB.out.mono Bu)).grown hgrow (by simp;omega) (fun b hb'=>(oH gZ hb').1)
   have QB:Hid ((texts.take k).map ah++[ah texts[k]]=(texts.take (k+1)).map ah):=by rw[List.take_succ_eq_append_getElem hlt,List.map_append];rfl
   clear hown' hgrow hnil hat gZ
   go_wp2_with fail
   go_roundg (texts.length - (k+1))
   case measure=>omega
   case rel=>exact⟨k+1,by omega,rfl,by go_num,by rw[←QB.out];exact QA.out,Bz.out⟩
  ·obtain rfl:k=texts.length:=by omega
   have hL:=HL.out
   rw[List.take_length] at hL
   have hln:(texts.map ah).length=texts.length:=List.length_map _
   obtain⟨a4,cap4,rfl,_,_,bs4,hO4,agM,aex⟩:=pQ.take (R:=KV) (fun w b off x bs v h1 h2=>⟨v,h1,h2⟩) hL (by rw[hln];omega) (n:=texts.length) (by rw[hln];exact aS _)
   rw[←hln,List.take_length] at hO4
   rw[hln] at hO4 ⊢
   have qF:MR W1 (.slice a4 texts.length cap4) (texts.map ah) bs4:=hO4
   clear hL hO4
   go_wp2_with fail
   refine(I8 (fun d=>w.heap.size+1≤d) (texts.map ah) _ bs4 _ (fun d hd=>by have:=aex d hd;omega) (fun d hd=>by omega) (by rw[hln];omega) (fun f hf=>by
    rw[List.mem_map] at hf
    obtain⟨x,_,rfl⟩:=hf
    have:(ah x).length≤1:=by unfold ah;split <;> simp
    omega) qF).mono ?_
   rintro e W2 ⟨u2,rfl,hR,hb2⟩
   have D9:=hb2.size
   have F5:Below W0.heap.size W0 W2:=HB.out.trans (hb2.mono Bu)
   have c0:W2.cell? ⟨w.heap.size,0,none⟩=some (.string ⟨#[]⟩):=by rw[F5.cell (p:=⟨w.heap.size,0,none⟩) (by simp;omega)];exact Rl.out.1
   have c1:W2.cell? ⟨w.heap.size,1,none⟩=some (.slice none 0 0):=by rw[F5.cell (p:=⟨w.heap.size,1,none⟩) (by simp;omega)];exact Rl.out.2.1
   have f0:∀i,W2.frozen? ⟨w.heap.size,i,none⟩=false:=fun i=>by rw[F5.frozen (p:=⟨w.heap.size,i,none⟩) (by simp;omega)];exact Rl.out.2.2 i
   have hwb:w.heap.size<W2.heap.size:=by omega
   have Vw:=hide (HB0.out.trans (F5.mono (by omega)))
   have HR:=hide hR
   clear hR hb2 F5 qF
   obtain⟨a5,cap5,n5,hu5⟩:∃a5 cap5 n5,u2=.slice a5 n5 cap5:=by
    obtain⟨vs,bss,_,_,⟨_,h3⟩,_⟩:=HR.out
    rcases h3 with⟨e,_⟩|⟨g,cap,cur,e,_⟩
    ·exact⟨_,_,_,e⟩
    ·exact⟨_,_,_,e⟩
   subst hu5
   go_wp2_with fail
   refine bodyPost_ret (v:=.agg #[.string name,.slice a5 n5 cap5]) (by simp[results,Tryz.results26,go_sem,c0,c1,hwb]) rfl ⟨_,rfl,?_,?_⟩
   ·refine jS.above (O:=bP) (base:=w.heap.size+1) (fun _ _ _ _ _ h s d=>bS.kept fD h s d) (HR.out.low (by omega)) ?_ ?_
    ·rw[Deep.nblk_setCell,Deep.nblk_setCell];exact aS _
    ·intro b hb
     have hb':w.heap.size+1≤b:=by rcases hb with hb|hb <;> exact hb
     rw[Deep.blk_setCell_other,Deep.blk_setCell_other] <;> (simp;omega)
   ·exact(Vw.out.setCell (by simp) _).setCell (by simp) _
end Go.Proofs.YtfdihjnlgdiioaaGreatDoor.dB
