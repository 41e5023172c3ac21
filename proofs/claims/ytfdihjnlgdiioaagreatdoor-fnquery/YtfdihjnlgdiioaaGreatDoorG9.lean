import Derived.Test.YtfdihjnlgdiioaaGreatDoorG3
import Derived.Test.YtfdihjnlgdiioaaGreatDoorG2
import Derived.BigQuiet
import Derived.Deep.Slices
import Derived.ChangeOld
namespace Go.Proofs.YtfdihjnlgdiioaaGreatDoor.dB
open Go.ChangeShapes Go.WideShapes Go.ChangeAt Go.RowKit
set_option linter.unusedVariables false
set_option linter.unusedSimpArgs false
set_option maxHeartbeats 1000000 in
theorem Ib (x:Field) (v:Value) (w:World) {lo:Nat} (hv:gL lo w v x) :
  Calls Tryz.prog 125 #[.agg #[v]] w fun e w'=>e=.returned (.bool (fG x))∧Below w.heap.size w w':=by
 have hl:=hv.1
 have hb:=(Below.refl w.heap.size w).alloc (aS _) (Obj.cells #[v] 57)
 have dP:(w.alloc (Obj.cells #[v] 57)).cell? ⟨w.heap.size,0,none⟩=some v:=by simp
 obtain⟨a,cap,rfl,hc⟩:=(At.kept iQ hv hb).form
 have HC:=hide hc
 clear hc hv
 have HR:Hid (fG x=(decide (x.length≤30) && (iT List.length x && x.all nO))):=rfl
 by_cases Yj:(30:Int)<(x.length:Int)
 ·clear dP
  go_enter Tryz.func125,Tryz.ntmps125
  go_wp2_with fail
  go_ret
  exact⟨aA (by rw[HR.out,decide_eq_false (by omega)];rfl),hb⟩
 ·have zF:Hid (iT List.length x=true→fG x=x.all nO):=fun he=>by rw[HR.out,he,decide_eq_true (by omega)];rfl
  by_cases h0:x.length=0
  ·have hz:¬(0:Int)<(x.length:Int):=by omega
   have HE:=hide (qA List.length x h0)
   have hx:x=[]:=List.length_eq_zero_iff.1 h0
   have HX:Hid (fG x=true):=by rw[zF.out HE.out,hx];rfl
   clear hx h0 dP
   go_enter Tryz.func125,Tryz.ntmps125
   go_wp2_with fail
   go_loop [4] (fun i=>i=.int .i64 0) (fun _=>0)
   case atStart=>rfl
   case round =>
    subst hrel
    go_wp2_with fail
    go_ret
    exact⟨aA HX.out.symm,hb⟩
  ·have hz:(0:Int)<(x.length:Int):=by omega
   have hi:x.length - 1<x.length:=by omega
   obtain⟨b,off,rfl,_,hbl,ve,hcell,hel⟩:=HC.out (x.length - 1) hi
   have hlast:(w.alloc (Obj.cells #[.slice (some ⟨b,off,none⟩) x.length cap] 57)).cell? ⟨b,off+(x.length - 1),none⟩=some ve:=by simpa using hcell
   have HE:Hid (iT List.length x=decide (0<(x[x.length - 1]'hi).length)):=pW List.length x (by omega)
   have hsz:(x[x.length - 1]'hi).length≤9223372036854775807:=hel.1
   obtain⟨a5,cap5,rfl,_⟩:=hel.form
   clear hcell hel
   generalize x[x.length - 1]'hi=z at *
   have hn1:((x.length:Int) - 1).toNat=x.length - 1:=by omega
   by_cases hl0:z.length=0
   ·have hl':((z.length:Int) == 0)=true:=by rw[beq_iff_eq];omega
    have HX:Hid (fG x=false):=by rw[HR.out,HE.out,decide_eq_false (p:=0<z.length) (by omega),Bool.false_and,Bool.and_false];trivial
    clear hl0 dP
    go_enter Tryz.func125,Tryz.ntmps125
    go_wp2_with fail
    go_ret
    exact⟨aA HX.out.symm,hb⟩
   ·have hl':((z.length:Int) == 0)=false:=by rw[beq_eq_false_iff_ne];omega
    have HX:Hid (fG x=x.all nO):=zF.out (by rw[HE.out];exact decide_eq_true (by omega))
    have jr:=hide dP
    clear hl0 dP
    go_enter Tryz.func125,Tryz.ntmps125
    go_wp2_with fail
    clear hl' hlast hsz hn1
    go_loopw [4] (fun i wr=>∃k:Nat,k≤x.length∧i=.int .i64 k∧(x.take k).all nO=true∧Below (w.heap.size+1) (w.alloc (Obj.cells #[.slice (some ⟨b,off,none⟩) x.length cap] 57)) wr) (fun i _=>x.length - (intOf i).toNat)
    case atStart=>exact⟨0,eH _,rfl,rfl,Below.refl _ _⟩
    case round =>
     obtain⟨k,hk,rfl,hall,hbr⟩:=hrel
     have HA:=hide hall
     clear hall
     have hbw:Below w.heap.size w wr:=hb.trans (hbr.mono (by omega))
     have dP:wr.cell? ⟨w.heap.size,0,none⟩=some (.slice (some ⟨b,off,none⟩) x.length cap):=by rw[hbr.cell (p:=⟨w.heap.size,0,none⟩) (by simp)];exact jr.out
     have tK:Below (w.alloc (Obj.cells #[.slice (some ⟨b,off,none⟩) x.length cap] 57)).heap.size (w.alloc (Obj.cells #[.slice (some ⟨b,off,none⟩) x.length cap] 57)) wr:=by simpa using hbr
     by_cases hlt:k<x.length
     ·obtain⟨b',off',e,_,Ic,ve,hcell,hel⟩:=HC.out k hlt
      simp only[Option.some.injEq,Addr.mk.injEq,and_true] at e
      obtain⟨rfl,rfl⟩:=e
      have hcell':wr.cell? ⟨b,off+k,none⟩=some ve:=by rw[tK.cell (p:=⟨b,off+k,none⟩) Ic];simpa using hcell
      have xD:=At.kept bE hel tK
      clear hcell hel
      go_wp2_with fail
      refine(NM x[k] ve _ xD).mono ?_
      rintro e w2 ⟨rfl,hb2⟩
      have hb3:Below (w.heap.size+1) (w.alloc (Obj.cells #[.slice (some ⟨b,off,none⟩) x.length cap] 57)) w2:=hbr.trans (hb2.mono (by have:=hbr.size;simp at this;omega))
      clear hbr tK hb2 hcell' xD dP
      cases hp:nO x[k]
      ·have HF:=hide (iy hlt hp)
       clear hp
       go_wp2_with fail
       go_ret
       exact⟨aA (by rw[HX.out,HF.out]),hb.trans (hb3.mono (by omega))⟩
      ·have HF:=hide (jD hlt HA.out hp)
       clear hp
       go_wp2_with fail
       go_roundw
       case rel=>exact⟨k+1,by omega,by go_num,HF.out,hb3⟩
       case measure=>simp[intOf];omega
     ·have HF:=hide (jE (by omega) HA.out)
      go_wp2_with fail
      go_ret
      exact⟨aA (by rw[HX.out,HF.out]),hbw⟩
set_option maxHeartbeats 2000000 in
theorem NV (x:Seg) (first:Bool) (v:Value) (w:World) (hns:x.name.size≤9223372036854775807) {lo:Nat} (hv:aG lo w v x.fields) :
  Calls Tryz.prog 96 #[.agg #[.string x.name,v],.bool first] w fun e w'=>e=.returned (.bool (jY first x))∧Below w.heap.size w w':=by
 have hl:=hv.1
 have hb:=(Below.refl w.heap.size w).alloc (aS _) (Obj.cells #[.string x.name,v] 54)
 have dP:(w.alloc (Obj.cells #[.string x.name,v] 54)).cell? ⟨w.heap.size,1,none⟩=some v:=by simp
 obtain⟨a,cap,rfl,hc⟩:=(At.kept aP hv hb).form
 have HC:=hide hc
 clear hc hv
 have jr:=hide dP
 clear dP
 have HR:Hid (jY first x=(dY x.name && ((ig x.name == first) && (decide (x.fields.length≤30) && (iT List.length x.fields && x.fields.all fG))))):=rfl
 have HM:Hid (ig x.name=(x.name.toList == [77,83,72])):=rfl
 cases hn:dY x.name
 ·have HX:Hid (jY first x=false):=by rw[HR.out,hn];rfl
  have HN:=hide hn
  clear hn
  go_enter Tryz.func96,Tryz.ntmps96
  go_wp2_with fail
  refine(lD x.name _ hns).mono ?_
  rintro e w' ⟨rfl,rfl⟩
  rw[HN.out]
  go_wp2_with fail
  go_ret
  exact⟨aA HX.out.symm,hb⟩
 ·have HN:=hide hn
  clear hn
  by_cases hm:ig x.name=first
  ·have hm':(x.name.toList == [77,83,72])=first:=by rw[←HM.out];exact hm
   have HR2:Hid (jY first x=(decide (x.fields.length≤30) && (iT List.length x.fields && x.fields.all fG))):=by rw[HR.out,HN.out,hm,beq_self_eq_true,Bool.true_and,Bool.true_and];trivial
   clear hm
   by_cases Yj:(30:Int)<(x.fields.length:Int)
   ·go_enter Tryz.func96,Tryz.ntmps96
    go_wp2_with fail
    refine(lD x.name _ hns).mono ?_
    rintro e w' ⟨rfl,rfl⟩
    rw[HN.out]
    go_wp2_with fail
    go_ret
    exact⟨aA (by rw[HR2.out,decide_eq_false (by omega)];rfl),hb⟩
   ·have zF:Hid (iT List.length x.fields=true→jY first x=x.fields.all fG):=fun he=>by rw[HR2.out,he,decide_eq_true (by omega)];rfl
    by_cases h0:x.fields.length=0
    ·have hz:¬(0:Int)<(x.fields.length:Int):=by omega
     have HE:=hide (qA List.length x.fields h0)
     have hx:x.fields=[]:=List.length_eq_zero_iff.1 h0
     have HX:Hid (jY first x=true):=by rw[zF.out HE.out,hx];rfl
     clear hx h0
     go_enter Tryz.func96,Tryz.ntmps96
     go_wp2_with fail
     refine(lD x.name _ hns).mono ?_
     rintro e w' ⟨rfl,rfl⟩
     rw[HN.out]
     go_wp2_with fail
     go_loop [6] (fun i=>i=.int .i64 0) (fun _=>0)
     case atStart=>rfl
     case round =>
      subst hrel
      go_wp2_with fail
      go_ret
      exact⟨aA HX.out.symm,hb⟩
    ·have hz:(0:Int)<(x.fields.length:Int):=by omega
     have hi:x.fields.length - 1<x.fields.length:=by omega
     obtain⟨b,off,rfl,_,hbl,ve,hcell,hel⟩:=HC.out (x.fields.length - 1) hi
     have hlast:(w.alloc (Obj.cells #[.string x.name,.slice (some ⟨b,off,none⟩) x.fields.length cap] 54)).cell? ⟨b,off+(x.fields.length - 1),none⟩=some ve:=by simpa using hcell
     have HE:Hid (iT List.length x.fields=decide (0<(x.fields[x.fields.length - 1]'hi).length)):=pW List.length x.fields (by omega)
     have hsz:(x.fields[x.fields.length - 1]'hi).length≤9223372036854775807:=hel.1
     obtain⟨a5,cap5,rfl,_⟩:=hel.form
     clear hcell hel
     generalize x.fields[x.fields.length - 1]'hi=z at *
     have hn1:((x.fields.length:Int) - 1).toNat=x.fields.length - 1:=by omega
     by_cases hl0:z.length=0
     ·have hl':((z.length:Int) == 0)=true:=by rw[beq_iff_eq];omega
      have HX:Hid (jY first x=false):=by rw[HR2.out,HE.out,decide_eq_false (p:=0<z.length) (by omega),Bool.false_and,Bool.and_false];trivial
      clear hl0
      go_enter Tryz.func96,Tryz.ntmps96
      go_wp2_with fail
      refine(lD x.name _ hns).mono ?_
      rintro e w' ⟨rfl,rfl⟩
      rw[HN.out]
      go_wp2_with fail
      go_ret
      exact⟨aA HX.out.symm,hb⟩
     ·have hl':((z.length:Int) == 0)=false:=by rw[beq_eq_false_iff_ne];omega
      have HX:Hid (jY first x=x.fields.all fG):=zF.out (by rw[HE.out];exact decide_eq_true (by omega))
      clear hl0
      go_enter Tryz.func96,Tryz.ntmps96
      go_wp2_with fail
      refine(lD x.name _ hns).mono ?_
      rintro e w' ⟨rfl,rfl⟩
      rw[HN.out]
      go_wp2_with fail
      clear hl' hlast hsz hn1 hm'
      go_loopw [6] (fun i wr=>∃k:Nat,k≤x.fields.length∧i=.int .i64 k∧(x.fields.take k).all fG=true∧Below (w.heap.size+1) (w.alloc (Obj.cells #[.string x.name,.slice (some ⟨b,off,none⟩) x.fields.length cap] 54)) wr) (fun i _=>x.fields.length - (intOf i).toNat)
      case atStart=>exact⟨0,eH _,rfl,rfl,Below.refl _ _⟩
      case round =>
       obtain⟨k,hk,rfl,hall,hbr⟩:=hrel
       have HA:=hide hall
       clear hall
       have hbw:Below w.heap.size w wr:=hb.trans (hbr.mono (by omega))
       have dP:wr.cell? ⟨w.heap.size,1,none⟩=some (.slice (some ⟨b,off,none⟩) x.fields.length cap):=by rw[hbr.cell (p:=⟨w.heap.size,1,none⟩) (by simp)];exact jr.out
       have tK:Below (w.alloc (Obj.cells #[.string x.name,.slice (some ⟨b,off,none⟩) x.fields.length cap] 54)).heap.size (w.alloc (Obj.cells #[.string x.name,.slice (some ⟨b,off,none⟩) x.fields.length cap] 54)) wr:=by simpa using hbr
       by_cases hlt:k<x.fields.length
       ·obtain⟨b',off',e,_,Ic,ve,hcell,hel⟩:=HC.out k hlt
        simp only[Option.some.injEq,Addr.mk.injEq,and_true] at e
        obtain⟨rfl,rfl⟩:=e
        have hcell':wr.cell? ⟨b,off+k,none⟩=some ve:=by rw[tK.cell (p:=⟨b,off+k,none⟩) Ic];simpa using hcell
        have xD:=At.kept iQ hel tK
        clear hcell hel
        go_wp2_with fail
        refine(Ib x.fields[k] ve _ xD).mono ?_
        rintro e w2 ⟨rfl,hb2⟩
        have hb3:Below (w.heap.size+1) (w.alloc (Obj.cells #[.string x.name,.slice (some ⟨b,off,none⟩) x.fields.length cap] 54)) w2:=hbr.trans (hb2.mono (by have:=hbr.size;simp at this;omega))
        clear hbr tK hb2 hcell' xD dP
        cases hp:fG x.fields[k]
        ·have HF:=hide (iy hlt hp)
         clear hp
         go_wp2_with fail
         go_ret
         exact⟨aA (by rw[HX.out,HF.out]),hb.trans (hb3.mono (by omega))⟩
        ·have HF:=hide (jD hlt HA.out hp)
         clear hp
         go_wp2_with fail
         go_roundw
         case rel=>exact⟨k+1,by omega,by go_num,HF.out,hb3⟩
         case measure=>simp[intOf];omega
       ·have HF:=hide (jE (by omega) HA.out)
        go_wp2_with fail
        go_ret
        exact⟨aA (by rw[HX.out,HF.out]),hbw⟩
  ·have hm':(x.name.toList == [77,83,72])=!first:=by rw[←HM.out];revert hm;cases ig x.name <;> cases first <;> simp
   have HX:Hid (jY first x=false):=by rw[HR.out,beq_eq_false_iff_ne.2 hm,Bool.false_and,Bool.and_false];trivial
   clear hm
   go_enter Tryz.func96,Tryz.ntmps96
   go_wp2_with fail
   refine(lD x.name _ hns).mono ?_
   rintro e w' ⟨rfl,rfl⟩
   rw[HN.out]
   go_wp2_with fail
   go_ret
   exact⟨aA HX.out.symm,hb⟩
theorem QH {w:World} {v:Value} {xs:List ByteArray} {bs:List Nat} (h:fV w v xs bs) {i:Nat} (hi:i<xs.length) :
  ∃b off cap,v=.slice (some ⟨b,off,none⟩) xs.length cap∧b<w.heap.size∧b∈bs∧w.cell? ⟨b,off+i,none⟩=some (.string xs[i])∧w.frozen? ⟨b,off+i,none⟩=false ∧
   ∀(w2:World) (t:ByteArray),t.size≤9223372036854775807→Below w.heap.size w w2→fV (w2.setCell ⟨b,off+i,none⟩ (.string t)) v (xs.set i t) bs∧Only bs w (w2.setCell ⟨b,off+i,none⟩ (.string t)):=by
 obtain⟨hl,⟨a0,c0,rfl,rfl,rfl⟩|⟨b,off,cap,bss,rfl,hlt,rfl,hlen,hc⟩⟩:=h
 ·simp at hi
 ·refine⟨b,off,cap,rfl,hlt,by simp,by simpa using (hc i hi (by omega)).1,by simpa using (hc i hi (by omega)).2.1,fun w2 t ht hb=>⟨⟨by simpa using hl,.inr ⟨b,off,cap,bss,by rw[List.length_set],by rw[Deep.nblk_setCell];exact Nat.lt_of_lt_of_le hlt hb.size,rfl,by rw[List.length_set];exact hlen,fun j hj h2=>?_⟩⟩,(Only.of_below hb).setCell (by simp) _⟩⟩
  have hj':j<xs.length:=by simpa using hj
  obtain⟨c1,c2,c3,c4⟩:=hc j hj' h2
  have d1:w2.cell? ⟨b,off+j * 1,none⟩=some (.string xs[j]):=by rw[hb.cell (p:=⟨b,off+j * 1,none⟩) hlt];exact c1
  have d2:w2.frozen? ⟨b,off+j * 1,none⟩=false:=by rw[hb.frozen (p:=⟨b,off+j * 1,none⟩) hlt];exact c2
  by_cases e:j=i
  ·subst e
   rw[List.getElem_set_self]
   rw[Nat.mul_one] at d1 d2 ⊢
   exact⟨World.cell?_setCell_same _ _ _ d1,by rw[World.frozen?_setCell];exact d2,ht,c4⟩
  ·rw[List.getElem_set_ne (by omega)]
   refine⟨?_,by rw[World.frozen?_setCell];exact d2,c3,c4⟩
   rw[World.cell?_setCell_other _ _ _ _ (by intro h;injection h with _ h2 _;omega)]
   exact d1
theorem Ie {α:Type} {O:World→Value→α→List Nat→Prop} (hkeep:∀w w' v x bs,O w v x bs→w.heap.size≤w'.heap.size→(∀d∈bs,w'.heap[d]?=w.heap[d]?)→O w' v x bs) (Qk:∀w v x bs,O w v x bs→∀d∈bs,d<w.heap.size)
  {w:World} {v:Value} {xs:List α} {bs:List Nat} (h:bS 1 (fun w b off x bs=>∃v,w.cell? ⟨b,off,none⟩=some v∧O w v x bs) w v xs bs) (hnd:bs.Nodup) {i:Nat} (hi:i<xs.length) :
  ∃b off cap ve bs',v=.slice (some ⟨b,off,none⟩) xs.length cap∧b<w.heap.size∧b ∉ bs'∧(∀c∈bs',c∈bs)∧bs'.Nodup∧w.cell? ⟨b,off+i,none⟩=some ve∧O w ve xs[i] bs' ∧
   ∀(w2:World) (y:α),Only bs' w w2→O w2 ve y bs'→bS 1 (fun w b off x bs=>∃v,w.cell? ⟨b,off,none⟩=some v∧O w v x bs) w2 v (xs.set i y) bs:=by
 obtain⟨hl,⟨a0,c0,rfl,rfl,rfl⟩|⟨b,off,cap,bss,rfl,hlt,rfl,hlen,hc⟩⟩:=h
 ·simp at hi
 ·have hib:i<bss.length:=by omega
  obtain⟨ve,g1,g2⟩:=hc i hi hib
  have hn:=hnd
  rw[List.nodup_cons] at hn
  have hbi:b ∉ bss[i]:=fun hm=>hn.1 (by rw[List.mem_flatten];exact⟨_,List.getElem_mem hib,hm⟩)
  refine⟨b,off,cap,ve,bss[i],rfl,hlt,hbi,Qi hib b,Qj hnd hib,by simpa using g1,g2,fun w2 y ho hO=>⟨by simpa using hl,.inr ⟨b,off,cap,bss,by rw[List.length_set],Nat.lt_of_lt_of_le hlt ho.size,rfl,by rw[List.length_set];exact hlen,fun j hj h2=>?_⟩⟩⟩
  have hj':j<xs.length:=by simpa using hj
  have hrow:=ho.block b hlt hbi
  by_cases e:j=i
  ·subst e
   rw[List.getElem_set_self]
   exact⟨ve,by rw[fZ hrow];exact g1,hO⟩
  ·rw[List.getElem_set_ne (by omega)]
   obtain⟨vj,k1,k2⟩:=hc j hj' h2
   exact⟨vj,by rw[fZ hrow];exact k1,hkeep _ w2 _ _ _ k2 ho.size fun dd hd=>ho.block dd (Qk _ _ _ _ k2 dd hd) (UL hn.2 h2 hib e hd)⟩
theorem set_mid {α:Type} (ys xs:List α) (j:Nat) (hj:j<xs.length) (hl:ys.length=j) (y:α):(ys++xs.drop j).set j y=(ys++[y])++xs.drop (j+1):=by
 subst hl
 rw[List.set_append_right _ _ (aS _),Nat.sub_self,List.drop_eq_getElem_cons hj,List.set_cons_zero]
 simp
theorem KC {α:Type} (ys xs:List α) (j:Nat) (hj:j<xs.length) (hl:ys.length=j) (h:j<(ys++xs.drop j).length):(ys++xs.drop j)[j]=xs[j]:=by
 subst hl
 rw[List.getElem_append_right (aS _)]
 simp
theorem xE {α:Type} (ys xs:List α) (j:Nat) (hj:j≤xs.length) (hl:ys.length=j):(ys++xs.drop j).length=xs.length:=by
 rw[List.length_append,List.length_drop];omega
def qG (w:World) (X:Except Nat (List Seg)) (e:Ending) (w':World):Prop :=
 ∃u c,e=.returned (.tuple #[.agg #[u],.int .i64 c])∧(∀n,X=.error n→u=.slice none 0 0∧c=(n:Int))∧(∀xs,X=.ok xs→c=0∧∃bs,pV w' u xs bs∧bs.Nodup∧∀b∈bs,w.heap.size≤b)∧Below w.heap.size w w'
theorem Ig {w w':World} {X:Except Nat (List Seg)} {n:Nat} {c:Int} (h:X=.error n) (hc:c=(n:Int)) (hb:Below w.heap.size w w'):qG w X (.returned (.tuple #[.agg #[.slice none 0 0],.int .i64 c])) w' :=
 ⟨_,_,rfl,fun m hm=>by rw[h] at hm;injection hm with hm;subst hm;exact⟨rfl,hc⟩,fun xs hx=>(by rw[h] at hx;cases hx),hb⟩
theorem QI (s:ByteArray) (h8:8<s.size) (h1:s[8].toNat≠13) (h2:s[8].toNat≠s[3].toNat):eB s=false:=by
 have e8:s.data.toList[8]?=some s[8]:=by rw[List.getElem?_eq_getElem (by simpa using h8)];rfl
 have e3:s.data.toList[3]?=some s[3]:=by rw[List.getElem?_eq_getElem (by simp;omega)];rfl
 unfold eB
 rw[e8,e3,decide_eq_false (p:=s.size≤8) (by omega)]
 have a1:(some s[8] == some (13:UInt8))=false:=by
  rw[beq_eq_false_iff_ne]
  intro h
  injection h with h
  exact h1 (by rw[h];rfl)
 have a2:(some s[8] == some s[3])=false:=by
  rw[beq_eq_false_iff_ne]
  intro h
  injection h with h
  exact h2 (by rw[h])
 rw[a1,a2]
 simp
theorem zI {α:Type} {p:Nat→α→Prop}:∀(n:Nat),(∀i,i<n→∃x,p i x)→∃xs:List α,xs.length=n∧∀i (h:i<xs.length),p i xs[i]
 | 0,_=>⟨[],rfl,fun i h=>absurd h (by simp)⟩
 | n+1,h=>by
  obtain⟨xs,hl,hx⟩:=zI n fun i hi=>h i (by omega)
  obtain⟨y,hy⟩:=h n (by omega)
  refine⟨xs++[y],by simp[hl],fun i hi=>?_⟩
  by_cases e:i<xs.length
  ·rw[List.getElem_append_left e];exact hx i e
  ·have e2:i=xs.length:=by simp at hi;omega
   subst e2
   rw[List.getElem_append_right (aS _)]
   simpa [hl] using hy
theorem Ih (b off k:Nat):(⟨b,off,none⟩:Addr).add k=⟨b,off+k,none⟩:=by
 unfold Addr.add
 split <;> simp_all
theorem U4 {H:Type} {enc:TypeId × Value→H} {P:Program} {w:World} {spare:Nat→Bool} {held:Bool} {t e:TypeId} {fuel:Nat} {cs:List Value} {x:DataW H × List MemPlace}
  {α:Type} {n:Nat} {R:Nat→World→Nat→Nat→α→Prop} (hn:0<n) (ht:P.underlying t=some (.slice e)) (hc:P.cellsOf e=n)
  (hR:∀(cs':List Value) (y:DataW H × List MemPlace) (m b off:Nat),DataW.trod enc P w 0 spare held m e cs'=some y→(∀j,j<n→w.cell? ⟨b,off+j,none⟩=cs'[j]?)→∃z:α,R 0 w b off z)
  (h:DataW.trod enc P w 0 spare held fuel t cs=some x):∃v xs,cs=[v]∧At n R 0 w v xs:=by
 rcases Deep.open_slice ht h with⟨rfl,_⟩|⟨a,len,cap,m,k,D,Pl,rfl,_,h1,h2,hm,_,hel⟩
 ·exact⟨_,[],rfl,by simp,.inl ⟨_,_,rfl,rfl⟩⟩
 ·by_cases h0:len=0
  ·subst h0
   exact⟨_,[],rfl,by simp,.inl ⟨_,_,rfl,rfl⟩⟩
  ·have hlm:len≤m:=by rw[hm];split <;> omega
   obtain⟨b,off,spot⟩:=a
   obtain⟨c0,g0,_⟩:=hel 0 (by omega)
   rw[hc] at g0
   obtain⟨_,l0,k0⟩:=World.cells?_some g0
   have hb:=World.cells?_block g0 hn
   have hspot:spot=none:=by
    have:=k0 0 hn
    cases hv:c0[0]? with
    | none=>rw[List.getElem?_eq_none_iff] at hv;omega
    | some v =>
     rw[hv] at this
     simpa [Addr.add] using World.cell?_spot this
   subst hspot
   obtain⟨xs,hl,hx⟩:=zI (p:=fun i z=>R 0 w b (off+i * n) z) len fun i hi=>by
    obtain⟨cs',g1,g2⟩:=hel i (by omega)
    rw[hc] at g1
    obtain⟨_,l1,k1⟩:=World.cells?_some g1
    exact hR cs' _ _ b (off+i * n) g2 fun j hj=>by have:=k1 j hj;rw[Ih,Ih] at this;exact this
   subst hl
   refine⟨_,xs,rfl,?_,.inr ⟨b,off,cap,rfl,⟨eH _,by simpa [Addr.add] using hb⟩,hx⟩⟩
   unfold maxLen at h2
   omega
section
variable {H:Type} {enc:TypeId × Value→H} {w:World} {spare:Nat→Bool} {held:Bool}
end
end Go.Proofs.YtfdihjnlgdiioaaGreatDoor.dB
