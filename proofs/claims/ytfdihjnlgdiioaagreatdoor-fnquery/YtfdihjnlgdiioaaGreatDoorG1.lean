import Derived.Test.YtfdihjnlgdiioaaGreatDoorG0
namespace Go.Proofs.YtfdihjnlgdiioaaGreatDoor.dB
open Go.ChangeShapes Go.WideShapes Go.ChangeAt Go.RowKit
set_option linter.unusedVariables false
set_option linter.unusedSimpArgs false
def pick (fs:List Field) (at_ comp:Int):ByteArray :=
 if at_<0 then ⟨#[]⟩ else match fs[at_.toNat]? with
 | none=>⟨#[]⟩
 | some f=>match f with
  | []=>⟨#[]⟩
  | r :: _=>if comp<1 then ⟨#[]⟩ else r.getD (comp - 1).toNat ⟨#[]⟩
def aB (m:List Seg) (name:ByteArray) (field comp:Int):ByteArray:=match m.find? fun s=>s.name.toList == name.toList with
 | none=>⟨#[]⟩
 | some s=>pick s.fields (field - if ig name then 3 else 1) comp
theorem FJ (field d:Int) (h0:-9223372036854775808≤field) (h1:field≤9223372036854775807) (hd0:0≤d) (hd:d≤3) :
  ∃z,wrap64 (field - d)=z∧((0≤field - d∧z=field - d)∨(field - d<0∧(z<0∨4611686018427387904≤z))):=by
 refine⟨_,rfl,?_⟩
 by_cases h:-9223372036854775808≤field - d
 ·have e:wrap64 (field - d)=field - d:=by unfold wrap64;omega
  rw[e]
  by_cases h2:0≤field - d
  ·exact .inl ⟨h2,rfl⟩
  ·exact .inr ⟨by omega,.inl (by omega)⟩
 ·right
  refine⟨by omega,.inr ?_⟩
  unfold wrap64;omega
theorem yL {xs:List Seg} {p:Seg→Bool} {k:Nat} (h:k<xs.length) (h1:∀j (hj:j<xs.length),j<k→p xs[j]=false) (h2:p xs[k]=true):xs.find? p=some xs[k]:=by
 rw[List.find?_eq_some_iff_getElem]
 exact⟨h2,k,h,rfl,fun j hj=>by rw[h1 j (by omega) hj];rfl⟩
theorem Ev {xs:List Seg} {p:Seg→Bool} (h1:∀j (hj:j<xs.length),p xs[j]=false):xs.find? p=none:=by
 rw[List.find?_eq_none]
 intro x hx
 obtain⟨j,hj,rfl⟩:=List.getElem_of_mem hx
 simp[h1 j hj]
set_option maxRecDepth 100000 in
set_option maxHeartbeats 2000000 in
theorem zB (xs:List Seg) (name:ByteArray) (field comp:Int) (v:Value) (w:World) (hn:name.size≤9223372036854775807) (hl2:xs.length≤1048576) (hf0:-9223372036854775808≤field) (hf1:field≤9223372036854775807)
  (hc0:-9223372036854775808≤comp) (hc1:comp≤9223372036854775807) {lo:Nat} (hv:aX lo w v xs) (hfl:∀i (h:i<xs.length),xs[i].fields.length≤1048576) :
  Calls Tryz.prog 44 #[.agg #[v],.string name,.int .i64 field,.int .i64 comp] w fun e w'=>e=.returned (.string (aB xs name field comp))∧Below w.heap.size w w':=by
 have hb:=(Below.refl w.heap.size w).alloc (aS _) (Obj.cells #[v] 28)
 obtain⟨a,cap,rfl,hc⟩:=(At.kept bA hv hb).form
 have HC:=hide hc
 have Uh:=hide hfl
 clear hc hv hfl
 have HB:Hid ((-9223372036854775808≤field∧field≤9223372036854775807)∧-9223372036854775808≤comp∧comp≤9223372036854775807):=⟨⟨hf0,hf1⟩,hc0,hc1⟩
 clear hf0 hf1 hc0 hc1
 have HG:Hid (aB xs name field comp=match xs.find? fun s=>s.name.toList == name.toList with
  | none=>⟨#[]⟩
  | some s=>pick s.fields (field - if ig name then 3 else 1) comp):=rfl
 go_enter Tryz.func44,Tryz.ntmps44
 go_wp2_with fail
 go_loop [9] (fun i=>∃k:Nat,k≤xs.length∧i=.int .i64 k∧∀j (hj:j<xs.length),j<k→(xs[j].name.toList == name.toList)=false) (fun i=>xs.length - (intOf i).toNat)
 case atStart=>exact⟨0,eH _,rfl,fun j _ h=>absurd h (by omega)⟩
 case round =>
  obtain⟨k,hk,rfl,hall⟩:=hrel
  have HA:=hide hall
  clear hall
  by_cases hlt:k<xs.length
  ·obtain⟨b,off,rfl,_,hbl,hc0',hns,ve,hc1',hel⟩:=HC.out k hlt
   obtain⟨a2,cap2,rfl,hcf⟩:=hel.form
   have HF:=hide hcf
   have hfl:=Uh.out k hlt
   clear hcf hel
   cases he:(xs[k].name.toList == name.toList)
   ·have HGo:Hid (∀j (hj:j<xs.length),j<k+1→(xs[j].name.toList == name.toList)=false):=fun j hj h=>by
     by_cases e:j=k
     ·subst e;exact he
     ·exact HA.out j hj (by omega)
    go_wp2_with fail
    go_round
    case rel=>exact⟨k+1,by omega,by go_num,HGo.out⟩
    case measure=>simp[intOf];omega
   ·have HMd:Hid (ig name=(name.toList == [77,83,72])):=rfl
    cases hm:(name.toList == [77,83,72])
    ·have HM:Hid ((if ig name=true then (3:Int) else 1)=1):=by rw[HMd.out,hm];exact rfl
     obtain⟨z,hz,hzc⟩:=FJ field 1 HB.out.1.1 HB.out.1.2 (by omega) (by omega)
     have HP:Hid (aB xs name field comp=pick xs[k].fields (field - 1) comp):=by
      rw[HG.out,yL hlt HA.out he,HM.out];exact rfl
     rcases hzc with⟨hz0,hzd⟩|⟨hz0,hzd⟩
     ·by_cases hq:z<(xs[k].fields.length:Int)
      ·obtain⟨q,rfl⟩:=Int.eq_ofNat_of_zero_le (show 0≤z by omega)
       have hq':q<xs[k].fields.length:=by omega
       have hq0:(0:Int)≤(q:Int):=by omega
       obtain⟨b2,off2,rfl,_,Kn,vf,hcf,Bh⟩:=HF.out q hq'
       have UN:(w.alloc (Obj.cells #[.slice (some ⟨b,off,none⟩) xs.length cap] 28)).cell? ⟨b2,off2+q,none⟩=some vf:=by simpa using hcf
       obtain⟨a3,Af,rfl,hcr⟩:=Bh.form
       have hl3:xs[k].fields[q].length≤9223372036854775807:=Bh.1
       have D7:Hid (pick xs[k].fields (field - 1) comp=match xs[k].fields[q] with
        | []=>⟨#[]⟩
        | r :: _=>if comp<1 then ⟨#[]⟩ else r.getD (comp - 1).toNat ⟨#[]⟩):=by
        unfold pick
        rw[←hzd,if_neg (by omega),Int.toNat_natCast,List.getElem?_eq_getElem hq'];exact rfl
       have HZD:=hide hzd
       clear hzd hcf Bh
       cases Hu:xs[k].fields[q] with
       | nil =>
        have Yj:((xs[k].fields[q].length:Int) == 0)=true:=by rw[Hu];rfl
        have HX:Hid (aB xs name field comp=⟨#[]⟩):=by rw[HP.out,D7.out,Hu];exact rfl
        clear Hu hcr
        go_wp2_with fail
        go_ret
        exact⟨bF HX.out.symm,hb⟩
       | cons r rs =>
        have Yj:((xs[k].fields[q].length:Int) == 0)=false:=by rw[Hu,beq_eq_false_iff_ne,List.length_cons];omega
        have h3p:(0:Int)<(xs[k].fields[q].length:Int):=by rw[Hu,List.length_cons];omega
        have h3n:0<xs[k].fields[q].length:=by omega
        obtain⟨b3,mq,rfl,_,Ny,vr,Ql,yM⟩:=hcr 0 h3n
        have hr0:xs[k].fields[q][0]'h3n=r:=by simp[Hu]
        rw[hr0] at yM
        have aa3:(w.alloc (Obj.cells #[.slice (some ⟨b,off,none⟩) xs.length cap] 28)).cell? ⟨b3,mq,none⟩=some vr:=by simpa using Ql
        obtain⟨a4,cap4,rfl,hcc⟩:=yM.form
        have hl4:r.length≤9223372036854775807:=yM.1
        have Kg:Hid (aB xs name field comp=if comp<1 then ⟨#[]⟩ else r.getD (comp - 1).toNat ⟨#[]⟩):=by rw[HP.out,D7.out,Hu];exact rfl
        have Ko:=hide hcc
        clear Hu hcr Ql yM hr0 hcc
        by_cases hc1:comp<1
        ·have HX:Hid (aB xs name field comp=⟨#[]⟩):=by rw[Kg.out,if_pos hc1];exact rfl
         go_wp2_with fail
         go_ret
         exact⟨bF HX.out.symm,hb⟩
        ·by_cases hc2:(r.length:Int)<comp
         ·have HX:Hid (aB xs name field comp=⟨#[]⟩):=by
           rw[Kg.out,if_neg hc1,List.getD_eq_getElem?_getD,List.getElem?_eq_none (by omega)];exact rfl
          go_wp2_with fail
          go_ret
          exact⟨bF HX.out.symm,hb⟩
         ·obtain⟨y,rfl⟩:∃y:Nat,comp=(y:Int)+1:=⟨(comp - 1).toNat,by omega⟩
          have hy:y<r.length:=by omega
          obtain⟨b4,wC,rfl,_,Yk,hc4,_⟩:=Ko.out y hy
          have UO:(w.alloc (Obj.cells #[.slice (some ⟨b,off,none⟩) xs.length cap] 28)).cell? ⟨b4,wC+y,none⟩=some (.string r[y]):=by simpa using hc4
          have HX:Hid (aB xs name field (↑y+1)=r[y]):=by
           rw[Kg.out,if_neg hc1,List.getD_eq_getElem?_getD,show ((y:Int)+1 - 1).toNat=y by omega,List.getElem?_eq_getElem hy];exact rfl
          clear hc4
          go_wp2_with fail
          go_ret
          exact⟨bF HX.out.symm,hb⟩
      ·have HX:Hid (aB xs name field comp=⟨#[]⟩):=by
        rw[HP.out];unfold pick
        rw[if_neg (by omega),List.getElem?_eq_none (by omega)];exact rfl
       have hzp:0≤z:=by omega
       have HZD:=hide hzd
       clear hzd
       go_wp2_with fail
       go_ret
       exact⟨bF HX.out.symm,hb⟩
     ·have HX:Hid (aB xs name field comp=⟨#[]⟩):=by
       rw[HP.out];unfold pick
       rw[if_pos (by omega)];exact rfl
      rcases hzd with hzd|hzd
      ·go_wp2_with fail
       go_ret
       exact⟨bF HX.out.symm,hb⟩
      ·have hzp:0≤z:=by omega
       have hzl:(xs[k].fields.length:Int)≤z:=by omega
       go_wp2_with fail
       go_ret
       exact⟨bF HX.out.symm,hb⟩
    ·have HM:Hid ((if ig name=true then (3:Int) else 1)=3):=by rw[HMd.out,hm];exact rfl
     obtain⟨z,hz,hzc⟩:=FJ field 3 HB.out.1.1 HB.out.1.2 (by omega) (by omega)
     have HP:Hid (aB xs name field comp=pick xs[k].fields (field - 3) comp):=by
      rw[HG.out,yL hlt HA.out he,HM.out];exact rfl
     rcases hzc with⟨hz0,hzd⟩|⟨hz0,hzd⟩
     ·by_cases hq:z<(xs[k].fields.length:Int)
      ·obtain⟨q,rfl⟩:=Int.eq_ofNat_of_zero_le (show 0≤z by omega)
       have hq':q<xs[k].fields.length:=by omega
       have hq0:(0:Int)≤(q:Int):=by omega
       obtain⟨b2,off2,rfl,_,Kn,vf,hcf,Bh⟩:=HF.out q hq'
       have UN:(w.alloc (Obj.cells #[.slice (some ⟨b,off,none⟩) xs.length cap] 28)).cell? ⟨b2,off2+q,none⟩=some vf:=by simpa using hcf
       obtain⟨a3,Af,rfl,hcr⟩:=Bh.form
       have hl3:xs[k].fields[q].length≤9223372036854775807:=Bh.1
       have D7:Hid (pick xs[k].fields (field - 3) comp=match xs[k].fields[q] with
        | []=>⟨#[]⟩
        | r :: _=>if comp<1 then ⟨#[]⟩ else r.getD (comp - 1).toNat ⟨#[]⟩):=by
        unfold pick
        rw[←hzd,if_neg (by omega),Int.toNat_natCast,List.getElem?_eq_getElem hq'];exact rfl
       have HZD:=hide hzd
       clear hzd hcf Bh
       cases Hu:xs[k].fields[q] with
       | nil =>
        have Yj:((xs[k].fields[q].length:Int) == 0)=true:=by rw[Hu];rfl
        have HX:Hid (aB xs name field comp=⟨#[]⟩):=by rw[HP.out,D7.out,Hu];exact rfl
        clear Hu hcr
        go_wp2_with fail
        go_ret
        exact⟨bF HX.out.symm,hb⟩
       | cons r rs =>
        have Yj:((xs[k].fields[q].length:Int) == 0)=false:=by rw[Hu,beq_eq_false_iff_ne,List.length_cons];omega
        have h3p:(0:Int)<(xs[k].fields[q].length:Int):=by rw[Hu,List.length_cons];omega
        have h3n:0<xs[k].fields[q].length:=by omega
        obtain⟨b3,mq,rfl,_,Ny,vr,Ql,yM⟩:=hcr 0 h3n
        have hr0:xs[k].fields[q][0]'h3n=r:=by simp[Hu]
        rw[hr0] at yM
        have aa3:(w.alloc (Obj.cells #[.slice (some ⟨b,off,none⟩) xs.length cap] 28)).cell? ⟨b3,mq,none⟩=some vr:=by simpa using Ql
        obtain⟨a4,cap4,rfl,hcc⟩:=yM.form
        have hl4:r.length≤9223372036854775807:=yM.1
        have Kg:Hid (aB xs name field comp=if comp<1 then ⟨#[]⟩ else r.getD (comp - 1).toNat ⟨#[]⟩):=by rw[HP.out,D7.out,Hu];exact rfl
        have Ko:=hide hcc
        clear Hu hcr Ql yM hr0 hcc
        by_cases hc1:comp<1
        ·have HX:Hid (aB xs name field comp=⟨#[]⟩):=by rw[Kg.out,if_pos hc1];exact rfl
         go_wp2_with fail
         go_ret
         exact⟨bF HX.out.symm,hb⟩
        ·by_cases hc2:(r.length:Int)<comp
         ·have HX:Hid (aB xs name field comp=⟨#[]⟩):=by
           rw[Kg.out,if_neg hc1,List.getD_eq_getElem?_getD,List.getElem?_eq_none (by omega)];exact rfl
          go_wp2_with fail
          go_ret
          exact⟨bF HX.out.symm,hb⟩
         ·obtain⟨y,rfl⟩:∃y:Nat,comp=(y:Int)+1:=⟨(comp - 1).toNat,by omega⟩
          have hy:y<r.length:=by omega
          obtain⟨b4,wC,rfl,_,Yk,hc4,_⟩:=Ko.out y hy
          have UO:(w.alloc (Obj.cells #[.slice (some ⟨b,off,none⟩) xs.length cap] 28)).cell? ⟨b4,wC+y,none⟩=some (.string r[y]):=by simpa using hc4
          have HX:Hid (aB xs name field (↑y+1)=r[y]):=by
           rw[Kg.out,if_neg hc1,List.getD_eq_getElem?_getD,show ((y:Int)+1 - 1).toNat=y by omega,List.getElem?_eq_getElem hy];exact rfl
          clear hc4
          go_wp2_with fail
          go_ret
          exact⟨bF HX.out.symm,hb⟩
      ·have HX:Hid (aB xs name field comp=⟨#[]⟩):=by
        rw[HP.out];unfold pick
        rw[if_neg (by omega),List.getElem?_eq_none (by omega)];exact rfl
       have hzp:0≤z:=by omega
       have HZD:=hide hzd
       clear hzd
       go_wp2_with fail
       go_ret
       exact⟨bF HX.out.symm,hb⟩
     ·have HX:Hid (aB xs name field comp=⟨#[]⟩):=by
       rw[HP.out];unfold pick
       rw[if_pos (by omega)];exact rfl
      rcases hzd with hzd|hzd
      ·go_wp2_with fail
       go_ret
       exact⟨bF HX.out.symm,hb⟩
      ·have hzp:0≤z:=by omega
       have hzl:(xs[k].fields.length:Int)≤z:=by omega
       go_wp2_with fail
       go_ret
       exact⟨bF HX.out.symm,hb⟩
  ·have HX:Hid (aB xs name field comp=⟨#[]⟩):=by
    rw[HG.out,Ev fun j hj=>HA.out j hj (by omega)];exact rfl
   go_wp2_with fail
   go_ret
   exact⟨bF HX.out.symm,hb⟩
end Go.Proofs.YtfdihjnlgdiioaaGreatDoor.dB
