import Derived.Test.YtfdihjnlgdiioaaGreatDoorG22
import Derived.Test.YtfdihjnlgdiioaaGreatDoorG34
import Derived.Test.YtfdihjnlgdiioaaGreatDoorG36
import Derived.Deep.DeepCutAuto
import Derived.BigQuiet
namespace Go.Proofs.YtfdihjnlgdiioaaGreatDoor.dB
open Go.ChangeShapes Go.WideShapes Go.ChangeAt Go.RowKit
set_option linter.unusedVariables false
set_option linter.unusedSimpArgs false
set_option maxRecDepth 100000 in
set_option maxHeartbeats 8000000 in
theorem JM (r:jM) (v u:Value) (w:World) {lo lo2:Nat} (hv:bq lo w v r.rows) (hu:bq lo2 w u r.rows) :
  Calls Tryz.prog 15 #[gU r v,gU r u] w fun e w'=>e=.returned (.bool true)∧Below w.heap.size w w':=by
 obtain⟨ack,control,code,tag,rows,pointer⟩:=r
 unfold gU
 dsimp only at hv hu ⊢
 obtain⟨w1,hw1⟩:∃x,w.alloc (Obj.cells #[.string ack,.string control,.int .i64 code,.string tag,v,.string pointer] 38)=x:=⟨_,rfl⟩
 obtain⟨w2,hw2⟩:∃x,w1.alloc (Obj.cells #[.string ack,.string control,.int .i64 code,.string tag,u,.string pointer] 38)=x:=⟨_,rfl⟩
 have b1:Below w.heap.size w w1:=by rw[←hw1];exact aO _ _
 have s1:w1.heap.size=w.heap.size+1:=by rw[←hw1];simp
 have b2':Below w1.heap.size w1 w2:=by rw[←hw2];exact aO _ _
 have b2:Below w.heap.size w w2:=aJ b2' b1
 have o1:aU w2 w.heap.size 38 #[.string ack,.string control,.int .i64 code,.string tag,v,.string pointer]:=by rw[←hw2,←hw1];exact(aU.new _ _ _).alloc _
 have o2:aU w2 (w.heap.size+1) 38 #[.string ack,.string control,.int .i64 code,.string tag,u,.string pointer]:=by rw[←s1,←hw2];exact aU.new _ _ _
 have HT:=hide (Cv rows v u w2 (At.kept bE hv b2) (At.kept bE hu b2))
 have HB:=hide b2
 obtain⟨va,vc,rfl,_⟩:=At.form hv
 obtain⟨ua,uc,rfl,_⟩:=At.form hu
 have ac6:(w.alloc (Obj.cells #[.string ack,.string control,.int .i64 code,.string tag,.slice va rows.length vc,.string pointer] 38)).alloc (Obj.cells #[.string ack,.string control,.int .i64 code,.string tag,.slice ua rows.length uc,.string pointer] 38)=w2:=by rw[hw1];exact hw2
 have c0:w2.cell? ⟨w.heap.size,0,none⟩=some (.string ack):=o1.cell 0 (by simp)
 have c1:w2.cell? ⟨w.heap.size,1,none⟩=some (.string control):=o1.cell 1 (by simp)
 have c2:w2.cell? ⟨w.heap.size,2,none⟩=some (.int .i64 code):=o1.cell 2 (by simp)
 have c3:w2.cell? ⟨w.heap.size,3,none⟩=some (.string tag):=o1.cell 3 (by simp)
 have c4:w2.cell? ⟨w.heap.size,4,none⟩=some (.slice va rows.length vc):=o1.cell 4 (by simp)
 have c5:w2.cell? ⟨w.heap.size,5,none⟩=some (.string pointer):=o1.cell 5 (by simp)
 have d0:w2.cell? ⟨w.heap.size+1,0,none⟩=some (.string ack):=o2.cell 0 (by simp)
 have d1:w2.cell? ⟨w.heap.size+1,1,none⟩=some (.string control):=o2.cell 1 (by simp)
 have d2:w2.cell? ⟨w.heap.size+1,2,none⟩=some (.int .i64 code):=o2.cell 2 (by simp)
 have d3:w2.cell? ⟨w.heap.size+1,3,none⟩=some (.string tag):=o2.cell 3 (by simp)
 have d4:w2.cell? ⟨w.heap.size+1,4,none⟩=some (.slice ua rows.length uc):=o2.cell 4 (by simp)
 have d5:w2.cell? ⟨w.heap.size+1,5,none⟩=some (.string pointer):=o2.cell 5 (by simp)
 clear hv hu hw1 hw2 b1 b2' b2 s1 o1 o2
 go_enter Tryz.func15,Tryz.ntmps15
 go_upto_region 1 with fail
 (try rw[ac6])
 clear ac6
 go_wp2_with fail
 refine HT.out.mono ?_
 rintro e y ⟨rfl,hb⟩
 have jo:=hide (aj hb HB.out)
 clear hb
 go_wp2_with fail
 go_ret
 exact⟨rfl,jo.out⟩
def jP (p:List UInt8) (m:UInt8):Bool:=decide (3≤p.length) && (dY (txt (p.take 3)) && (!(p.take 3 == [77,83,72]) && !((p.drop 3).head?.any (fun c=>c != m))))
theorem aat (p:List UInt8) (i:Nat) (h:i<(txt p).size) (h2:i<p.length):(txt p)[i]'h=p[i]'h2:=by
 show (txt p).data[i]'h=p[i]
 simp[txt]
theorem Pj (p:List UInt8) (m:UInt8) (h:3<(txt p).size):(!((p.drop 3).head?.any (fun c=>c != m)))=((((txt p)[3]'h).toNat:Int) == (m.toNat:Int)):=by
 have hp:3<p.length:=by rw[dn] at h;exact h
 have e:(p.drop 3).head?=some (p[3]'hp):=by rw[List.head?_drop,List.getElem?_eq_getElem hp]
 rw[e,aat p 3 h hp]
 generalize p[3]'hp=x
 show (!(x != m))=_
 by_cases hx:x=m
 ·rw[hx];simp
 ·have h1:(x != m)=true:=by rw[bne_iff_ne];exact hx
  rw[h1]
  symm
  show _=false
  rw[beq_eq_false_iff_ne]
  intro h2
  exact hx (UInt8.toNat_inj.1 (by omega))
set_option maxHeartbeats 2000000 in
theorem Dq (p:List UInt8) (i:Nat) (m:UInt8) (w:World) (hp:p.length≤40000) (hi:i≤1048576) :
  Calls Tryz.prog 58 #[.string (txt p),.int .i64 (i:Int),.int .u8 (m.toNat:Int)] w fun e w'=>e=.returned (.bool (decide (i=0) || jP p m))∧w'=w:=by
 have Ui:=hide (dn p)
 have hps:(txt p).size≤40000:=by rw[dn];exact hp
 have AQ:Hid (jP p m=(decide (3≤p.length) && (dY (txt (p.take 3)) && (!(p.take 3 == [77,83,72]) && !((p.drop 3).head?.any (fun c=>c != m)))))):=rfl
 by_cases hi0:i=0
 ·have hi':((i:Int) == 0)=true:=by rw[beq_iff_eq];omega
  have HX:Hid ((decide (i=0) || jP p m)=true):=by rw[decide_eq_true hi0];rfl
  clear hi0
  go_enter Tryz.func58,Tryz.ntmps58
  go_wp2_with fail
  go_ret
  exact⟨aA HX.out.symm,rfl⟩
 have hi':((i:Int) == 0)=false:=by rw[beq_eq_false_iff_ne];omega
 have HX0:Hid ((decide (i=0) || jP p m)=jP p m):=by rw[decide_eq_false hi0];rfl
 clear hi0
 by_cases h3:((txt p).size:Int)<3
 ·have HX:Hid (jP p m=false):=by rw[AQ.out,decide_eq_false (p:=3≤p.length) (by have:=Ui.out;omega)];rfl
  go_enter Tryz.func58,Tryz.ntmps58
  go_wp2_with fail
  go_ret
  exact⟨aA (by rw[HX0.out,HX.out]),rfl⟩
 have h3':(3:Int)≤((txt p).size:Int):=by omega
 have HTN:=hide (Il p)
 have hns:((txt p).extract 0 3).size≤9223372036854775807:=by rw[ByteArray.size_extract];omega
 have UA:Hid (jP p m=(dY ((txt p).extract 0 3) && (!(((txt p).extract 0 3).toList == [77,83,72]) && !((p.drop 3).head?.any (fun c=>c != m))))):=by
  rw[AQ.out,decide_eq_true (p:=3≤p.length) (by have:=Ui.out;omega),Bool.true_and,HTN.out,kR];trivial
 cases hnb:dY ((txt p).extract 0 3)
 ·have HX:Hid (jP p m=false):=by rw[UA.out,hnb];rfl
  have HNB:=hide hnb
  clear hnb
  go_enter Tryz.func58,Tryz.ntmps58
  go_wp2_with fail
  refine(eX _ _ hns).mono ?_
  rintro e w2 ⟨rfl,rfl⟩
  rw[HNB.out]
  go_wp2_with fail
  go_ret
  exact⟨aA (by rw[HX0.out,HX.out]),rfl⟩
 have HNB:=hide hnb
 cases hmm:(((txt p).extract 0 3).toList == [77,83,72])
 ·have HS2:Hid (jP p m=!((p.drop 3).head?.any (fun c=>c != m))):=by rw[UA.out,hnb,hmm];rfl
  clear hnb
  by_cases h33:(txt p).size=3
  ·have afi:(((txt p).size:Int) == 3)=true:=by rw[beq_iff_eq];omega
   have HX:Hid (jP p m=true):=by
    rw[HS2.out,List.drop_eq_nil_of_le (by have:=Ui.out;omega)];rfl
   clear h33
   go_enter Tryz.func58,Tryz.ntmps58
   go_wp2_with fail
   refine(eX _ _ hns).mono ?_
   rintro e w2 ⟨rfl,rfl⟩
   rw[HNB.out]
   go_wp2_with fail
   go_ret
   exact⟨aA (by rw[HX0.out,HX.out]),rfl⟩
  ·have afi:(((txt p).size:Int) == 3)=false:=by rw[beq_eq_false_iff_ne];omega
   have h34:(3:Int)<((txt p).size:Int):=by omega
   have ac7:3<(txt p).size:=by omega
   have HX:Hid (jP p m=((((txt p)[3]'ac7).toNat:Int) == (m.toNat:Int))):=by rw[HS2.out];exact Pj p m ac7
   clear h33
   go_enter Tryz.func58,Tryz.ntmps58
   go_wp2_with fail
   refine(eX _ _ hns).mono ?_
   rintro e w2 ⟨rfl,rfl⟩
   rw[HNB.out]
   go_wp2_with fail
   go_ret
   exact⟨aA (by rw[HX0.out,HX.out]),rfl⟩
 ·have HX:Hid (jP p m=false):=by rw[UA.out,hnb,hmm];rfl
  clear hnb
  go_enter Tryz.func58,Tryz.ntmps58
  go_wp2_with fail
  refine(eX _ _ hns).mono ?_
  rintro e w2 ⟨rfl,rfl⟩
  rw[HNB.out]
  go_wp2_with fail
  go_ret
  exact⟨aA (by rw[HX0.out,HX.out]),rfl⟩
def Td (d:ByteArray) (hd:d.size=5) (p:List UInt8):Prop:=8≤p.length∧p.take 3=[77,83,72]∧(p.drop 8).head?.any (fun c=>c != d[0])=false
def Ni (w:World) (X:Except Nat Seg) (e:Ending) (w':World):Prop :=
 ∃nm u c,e=.returned (.tuple #[.agg #[.string nm,u],.int .i64 c])∧(∀n,X=.error n→c=(n:Int))∧(∀x,X=.ok x→c=0∧nm=x.name∧∃bs,aN w' u x.fields bs∧bs.Nodup∧∀b∈bs,w.heap.size≤b)∧(∃a n cp,u=.slice a n cp)∧Below w.heap.size w w'
theorem Te {p:List UInt8} {d:ByteArray} {hd:d.size=5} {i:Nat} (hi:i≠0) (h:jP p d[0]=false):nk d hd i p=.error 4:=by
 by_cases h4:p.length<3∨dY (txt (p.take 3))=false∨(0<i∧p.take 3=[77,83,72])
 ·exact YB h4
 ·refine YC h4 ?_
  unfold jP at h
  have h1:3≤p.length:=by
   by_cases h3:p.length<3
   ·exact absurd (.inl h3) h4
   ·omega
  have h2:dY (txt (p.take 3))=true:=by
   cases hn:dY (txt (p.take 3))
   ·exact absurd (.inr (.inl hn)) h4
   ·rfl
  have h3:(p.take 3 == [77,83,72])=false:=by
   rw[beq_eq_false_iff_ne]
   exact fun e=>h4 (.inr (.inr ⟨by omega,e⟩))
  rw[decide_eq_true h1,h2,h3] at h
  have hr:cB i p=p.drop 3:=by unfold cB;rw[if_neg hi]
  rw[hr]
  simpa using h
theorem Pk {p:List UInt8} {d:ByteArray} {hd:d.size=5} {i:Nat} (h0:i=0→Td d hd p) (h:(decide (i=0) || jP p d[0])=true) :
  ¬(p.length<3∨dY (txt (p.take 3))=false∨(0<i∧p.take 3=[77,83,72]))∧(cB i p).head?.any (fun c=>c != d[0])=false:=by
 by_cases hi:i=0
 ·obtain⟨h1,h2,h3⟩:=h0 hi
  refine⟨fun h4=>?_,by unfold cB;rw[if_pos hi];exact h3⟩
  rcases h4 with h4|h4|⟨h4,_⟩
  ·omega
  ·rw[h2] at h4
   have:dY (txt [77,83,72])=true:=by decide
   rw[this] at h4;cases h4
  ·omega
 ·rw[decide_eq_false hi,Bool.false_or] at h
  unfold jP at h
  simp only[Bool.and_eq_true,decide_eq_true_eq] at h
  obtain⟨h1,h2,h3,h4⟩:=h
  have hr:cB i p=p.drop 3:=by unfold cB;rw[if_neg hi]
  refine⟨fun h5=>?_,by rw[hr];simpa using h4⟩
  rcases h5 with h5|h5|⟨_,h5⟩
  ·omega
  ·rw[h2] at h5;cases h5
  ·rw[h5] at h3;simp at h3
theorem Bb {w w':World} {X:Except Nat Seg} {n:Nat} {c:Int} {nm:ByteArray} {a:Option Addr} {m cp:Nat} (h:X=.error n) (hc:c=(n:Int)) (hb:Below w.heap.size w w'):Ni w X (.returned (.tuple #[.agg #[.string nm,.slice a m cp],.int .i64 c])) w' :=
 ⟨nm,_,c,rfl,fun k hk=>by rw[h] at hk;injection hk with hk;subst hk;exact hc,fun x hx=>(by rw[h] at hx;cases hx),⟨_,_,_,rfl⟩,hb⟩
set_option maxRecDepth 100000 in
set_option maxHeartbeats 8000000 in
theorem zo (p:List UInt8) (i:Nat) (d:ByteArray) (w:World) (hd:d.size=5) (hp:p.length≤40000) (hpl:∀x∈p,bZ x=true) (hi:i≤1048576) (h0:i=0→Td d hd p) (hm:Mx w) :
  Calls Tryz.prog 30 #[.string (txt p),.int .i64 (i:Int),.string d] w (Ni w (nk d hd i p)):=by
 have hd0:(0:Int)<(d.size:Int):=by omega
 have hb0:=(Below.refl w.heap.size w).alloc (aS _) (Obj.cells #[.string ⟨#[]⟩,.slice none 0 0] 54)
 have HB0:=hide hb0
 have HM:=hide hm
 have XB:=hide hpl
 have H0:=hide h0
 have fM:Hid (∀wX,Below (w.heap.size+1) (w.alloc (Obj.cells #[.string ⟨#[]⟩,.slice none 0 0] 54)) wX→wX.cell? ⟨w.heap.size,0,none⟩=some (.string ⟨#[]⟩)∧wX.frozen? ⟨w.heap.size,0,none⟩=false∧wX.cell? ⟨w.heap.size,1,none⟩=some (.slice none 0 0)∧wX.frozen? ⟨w.heap.size,1,none⟩=false∧w.heap.size<wX.heap.size∧Below w.heap.size w wX):=fun wX h=>by
  refine⟨?_,?_,?_,?_,by have:=h.size;simp at this;omega,hb0.trans (h.mono (by omega))⟩
  ·rw[h.cell (p:=⟨w.heap.size,0,none⟩) (by simp)];simp
  ·rw[h.frozen (p:=⟨w.heap.size,0,none⟩) (by simp)];simp
  ·rw[h.cell (p:=⟨w.heap.size,1,none⟩) (by simp)];simp
  ·rw[h.frozen (p:=⟨w.heap.size,1,none⟩) (by simp)];simp
 have GZ:Hid (Below (w.heap.size+1) (w.alloc (Obj.cells #[.string ⟨#[]⟩,.slice none 0 0] 54)) (w.alloc (Obj.cells #[.string ⟨#[]⟩,.slice none 0 0] 54))):=Below.refl _ _
 clear hb0 hm hpl h0
 cases hst:(decide (i=0) || jP p d[0])
 ·have HX:Hid (nk d hd i p=.error 4):=by
   have h1:i≠0:=fun h=>by rw[decide_eq_true h] at hst;cases hst
   rw[decide_eq_false h1,Bool.false_or] at hst
   exact Te h1 hst
  have HST:=hide hst
  obtain⟨hq1,hq2,hq3,hq4,hq5,UC⟩:=fM.out _ GZ.out
  clear hst
  go_enter Tryz.func30,Tryz.ntmps30
  go_wp2_with fail
  refine(Dq p i d[0] _ hp hi).mono ?_
  rintro e w2 ⟨rfl,rfl⟩
  rw[HST.out]
  go_wp2_with fail
  exact bodyPost_ret (v:=.tuple #[.agg #[.string ⟨#[]⟩,.slice none 0 0],.int .i64 4]) (by simp[results,Tryz.results30,go_sem]) rfl (Bb HX.out rfl UC)
 ·have HST:=hide hst
  have rZ:=hide (Pk H0.out hst)
  have hp3:(3:Int)≤((txt p).size:Int):=by
   rw[dn]
   have:=rZ.out.1
   omega
  have HTN:=hide (Il p)
  clear hst
  go_enter Tryz.func30,Tryz.ntmps30
  go_wp2_with fail
  refine(Dq p i d[0] _ hp hi).mono ?_
  rintro e w2 ⟨rfl,rfl⟩
  rw[HST.out]
  go_wp2_with fail
  go_quiet (fail)
  obtain⟨W1,hW1⟩:∃x,x=(w.alloc (Obj.cells #[.string ⟨#[]⟩,.slice none 0 0] 54)).drewN nq:=⟨_,rfl⟩
  have HB1:Hid (Below (w.heap.size+1) (w.alloc (Obj.cells #[.string ⟨#[]⟩,.slice none 0 0] 54)) W1):=by rw[hW1];exact below_drewN GZ.out _
  rw[←hW1]
  clear hW1
  go_upto_if 23 with fail
  go_cut [9] (fun v wx=>v=.string (txt (cB i p))∧wx=W1)
  case first =>
   by_cases hi0:i=0
   ·have hi':((i:Int) == 0)=true:=by rw[beq_iff_eq];omega
    have h8:(8:Int)≤((txt p).size:Int):=by have:=(H0.out hi0).1;rw[dn];omega
    have qc:Hid ((txt p).extract 8 (txt p).size=txt (cB i p)):=by rw[Im];unfold cB;rw[if_pos hi0];trivial
    clear hi0
    go_wp2_with fail
    go_meet
    case rel=>exact⟨by rw[qc.out],rfl⟩
   ·have hi':((i:Int) == 0)=false:=by rw[beq_eq_false_iff_ne];omega
    have qc:Hid ((txt p).extract 3 (txt p).size=txt (cB i p)):=by rw[Im];unfold cB;rw[if_neg hi0];trivial
    clear hi0
    go_wp2_with fail
    go_meet
    case rel=>exact⟨by rw[qc.out],rfl⟩
  case rest =>
   obtain⟨rfl,rfl⟩:=hcut
   obtain⟨W2,rfl⟩:∃x,x=wc:=⟨_,rfl⟩
   have hrz:(txt (cB i p)).size≤40000:=by have:=EH i p;rw[dn];omega
   have hrm:∀x∈cB i p,x∈p:=fun x hx=>by
    unfold cB at hx
    split at hx
    ·exact List.mem_of_mem_drop hx
    ·exact List.mem_of_mem_drop hx
   have HM2:=hide (HM.out.below (B:=w.heap.size) HM.out.pos (fM.out _ HB1.out).2.2.2.2.2)
   have hs2:w.heap.size<W2.heap.size:=(fM.out _ HB1.out).2.2.2.2.1
   have hw0:1<w.heap.size:=HM.out.pos
   have HFE:Hid ((gy d[0] d[1] d[2] (cB i p)).map bL=cO d hd (cB i p)):=by
    rw[Lu _ _ _ _ rZ.out.2];rfl
   have HIN:Hid (rD ⟨(txt p).extract 0 3,cO d hd (cB i p)⟩=!qB (cO d hd (cB i p))):=by
    rw[←HFE.out]
    refine Si _ ?_ _ _ _ _ (by rw[dn] at hrz;exact hrz) (fun x hx=>XB.out x (hrm x hx))
    rw[HTN.out]
    cases hn:dY (txt (p.take 3))
    ·exact absurd (.inr (.inl hn)) rZ.out.1
    ·rfl
   have nC:=hide (Kq d hd (cB i p) (by rw[←dn];omega))
   clear hrm
   go_wp2_with fail
   refine(Bt ((txt p).extract 0 3) (txt (cB i p)) d _ hrz hd HM2.out).mono ?_
   rintro e W3 ⟨u3,rfl,bs,hO,hnd,hfr,hb3⟩
   rw[eU,HFE.out] at hO
   obtain⟨a3,c3,rfl⟩:=dA hO
   have HB3:Hid (Below (w.heap.size+1) (w.alloc (Obj.cells #[.string ⟨#[]⟩,.slice none 0 0] 54)) W3):=HB1.out.trans (hb3.mono (by omega))
   have hs3:=hb3.size
   have gI:Below W3.heap.size W3 (W3.alloc (Obj.cells #[.string ((txt p).extract 0 3),.slice a3 (cO d hd (cB i p)).length c3] 54)):=aO _ _
   have NR:=hide (bS.kept bQ hO gI.size (fun e he=>gI.block e (bS.lt dD hO e he)))
   have o7:Hid (Below (w.heap.size+1) (w.alloc (Obj.cells #[.string ⟨#[]⟩,.slice none 0 0] 54)) (W3.alloc (Obj.cells #[.string ((txt p).extract 0 3),.slice a3 (cO d hd (cB i p)).length c3] 54))):=HB3.out.trans (gI.mono (by omega))
   have GX:=hide hnd
   have sQ:Hid (∀b∈bs,w.heap.size+1≤b∧b<W3.heap.size):=fun b hb=>⟨by have:=hfr b hb;omega,bS.lt dD hO b hb⟩
   have hns:((txt p).extract 0 3).size≤9223372036854775807:=by rw[ByteArray.size_extract];omega
   have hfa:aG W2.heap.size (W3.alloc (Obj.cells #[.string ((txt p).extract 0 3),.slice a3 (cO d hd (cB i p)).length c3] 54)) (.slice a3 (cO d hd (cB i p)).length c3) (cO d hd (cB i p)):=bS.pO mG NR.out hfr
   clear hO hnd hfr hb3 gI
   by_cases aeN:(250:Int)≤(i:Int)
   ·have HX5:=hide (Xo (d:=d) (hd:=hd) (i:=i) (p:=p) rZ.out.1 rZ.out.2 (.inl (by omega)))
    obtain⟨hq1,hq2,hq3,hq4,hq5,UC⟩:=fM.out _ HB3.out
    have jH:Hid (∀x y o,Below w.heap.size w (((W3.setCell ⟨w.heap.size,0,none⟩ x).setCell ⟨w.heap.size,1,none⟩ y).alloc o)):=fun x y o=>((UC.setCell (p:=⟨w.heap.size,0,none⟩) (by simp) x).setCell (p:=⟨w.heap.size,1,none⟩) (by simp) y).alloc (by rw[Deep.nblk_setCell,Deep.nblk_setCell];omega) o
    go_wp2_with fail
    exact bodyPost_ret (v:=.tuple #[.agg #[.string ⟨#[]⟩,.slice none 0 0],.int .i64 5]) (by simp[results,Tryz.results30,go_sem,hq1,hq2,hq3,hq4,hq5]) rfl (Bb HX5.out rfl (jH.out _ _ _))
   ·obtain⟨hr1,hr2,hr3,hr4,hr5,VO⟩:=fM.out _ HB3.out
    go_wp2_with fail
    refine(EW ⟨(txt p).extract 0 3,cO d hd (cB i p)⟩ _ _ hns hfa).mono ?_
    rintro e W5 ⟨rfl,hb5⟩
    rw[HIN.out]
    have Av:Hid (Below (w.heap.size+1) (w.alloc (Obj.cells #[.string ⟨#[]⟩,.slice none 0 0] 54)) W5):=o7.out.trans (hb5.mono (by simp;omega))
    have hs5:=hb5.size
    simp at hs5
    obtain⟨hq1,hq2,hq3,hq4,hq5,UC⟩:=fM.out _ Av.out
    have hx0:W5.cell? ⟨W3.heap.size,0,none⟩=some (.string ((txt p).extract 0 3)):=by rw[hb5.cell (p:=⟨W3.heap.size,0,none⟩) (by simp)];simp
    have hx1:W5.cell? ⟨W3.heap.size,1,none⟩=some (.slice a3 (cO d hd (cB i p)).length c3):=by rw[hb5.cell (p:=⟨W3.heap.size,1,none⟩) (by simp)];simp
    have HO5:=hide (bS.kept bQ NR.out hb5.size (fun e he=>hb5.block e (bS.lt dD NR.out e he)))
    have HM5:=hide (HM.out.below (B:=w.heap.size) hw0 UC)
    clear hr1 hr2 hr3 hr4 hr5 VO hfa hb5
    cases hlg:qB (cO d hd (cB i p))
    ·have HN5:Hid (¬(250≤i∨qB (cO d hd (cB i p))=true)):=fun h=>by
      rcases h with h|h
      ·omega
      ·rw[hlg] at h;cases h
     obtain⟨ahj,hlf⟩:=UR hlg
     have WG:=hide (Au ((txt p).extract 0 3) (cO d hd (cB i p)) (.slice a3 (cO d hd (cB i p)).length c3) bs d W5 hd HO5.out GX.out (fun h=>by have:=sQ.out _ h;omega) HM5.out
      (fun f hf r hr c hc=>by
       have hf2:=hf
       unfold cO at hf2
       rw[List.mem_map] at hf2
       obtain⟨f',hf',rfl⟩:=hf2
       unfold bL at hr
       rw[List.mem_map] at hr
       obtain⟨r',hr',rfl⟩:=hr
       unfold jR at hc
       rw[List.mem_map] at hc
       obtain⟨c',hc',rfl⟩:=hc
       rw[dn]
       have h1:=Bn _ _ _ (cB i p) f' hf' r' hr' c' hc'
       have h2:=EH i p
       omega) (by omega) (fun f hf=>by have:=(hlf f hf).1;omega) (fun f hf r hr=>by have:=(hlf f hf).2 r hr;omega))
     clear hlf
     go_wp2_with fail
     refine WG.out.mono ?_
     rintro e W6 ⟨rfl,hon,hys⟩
     have hs6:=hon.size
     have hnb:w.heap.size ∉ bs:=fun h=>by have:=sQ.out _ h;omega
     have ac8:W3.heap.size ∉ bs:=fun h=>by have:=sQ.out _ h;omega
     have hy1:W6.cell? ⟨w.heap.size,0,none⟩=some (.string ⟨#[]⟩):=by rw[qR hon (by omega) hnb];exact hq1
     have hy2:W6.frozen? ⟨w.heap.size,0,none⟩=false:=by rw[kK (hon.block _ (by omega) hnb)];exact hq2
     have hy3:W6.cell? ⟨w.heap.size,1,none⟩=some (.slice none 0 0):=by rw[qR hon (by omega) hnb];exact hq3
     have hy4:W6.frozen? ⟨w.heap.size,1,none⟩=false:=by rw[kK (hon.block _ (by omega) hnb)];exact hq4
     have Uq:w.heap.size<W6.heap.size:=by omega
     have hz0:W6.cell? ⟨W3.heap.size,0,none⟩=some (.string ((txt p).extract 0 3)):=by rw[qR hon (by omega) ac8];exact hx0
     have hz1:W6.cell? ⟨W3.heap.size,1,none⟩=some (.slice a3 (cO d hd (cB i p)).length c3):=by rw[qR hon (by omega) ac8];exact hx1
     have XW:Below w.heap.size w W6:=UC.trans (hon.below (B:=w.heap.size) (by omega) (fun b hb=>by have:=sQ.out b hb;omega))
     have jH:Hid (∀x y,Below w.heap.size w ((W6.setCell ⟨w.heap.size,0,none⟩ x).setCell ⟨w.heap.size,1,none⟩ y)):=fun x y=>(XW.setCell (p:=⟨w.heap.size,0,none⟩) (by simp) x).setCell (p:=⟨w.heap.size,1,none⟩) (by simp) y
     clear hq1 hq2 hq3 hq4 hq5 UC hx0 hx1 hon XW
     cases hun:dK (dK (dK (plainO d hd))) (cO d hd (cB i p)) with
     | none =>
      have HX6:=hide (abm (d:=d) (hd:=hd) (i:=i) (p:=p) rZ.out.1 rZ.out.2 HN5.out hun)
      clear hun hys
      simp only[Option.isSome_none]
      go_wp2_with fail
      exact bodyPost_ret (v:=.tuple #[.agg #[.string ⟨#[]⟩,.slice none 0 0],.int .i64 6]) (by simp[results,Tryz.results30,go_sem,hy1,hy2,hy3,hy4,Uq]) rfl (Bb HX6.out rfl (jH.out _ _))
     | some gs =>
      have VW:=hide (YD (d:=d) (hd:=hd) (i:=i) (p:=p) rZ.out.1 rZ.out.2 HN5.out hun)
      have Kk:=hys gs hun
      have GY:Hid (∀x y,aN ((W6.setCell ⟨w.heap.size,0,none⟩ x).setCell ⟨w.heap.size,1,none⟩ y) (.slice a3 (cO d hd (cB i p)).length c3) gs bs):=fun x y =>
       bS.kept bQ Kk (by rw[Deep.nblk_setCell,Deep.nblk_setCell];exact aS _) (fun e he=>by
        have:=sQ.out e he
        rw[Deep.blk_setCell_other _ _ _ _ (by simp;omega),Deep.blk_setCell_other _ _ _ _ (by simp;omega)])
      clear hun hys Kk
      simp only[Option.isSome_some]
      go_wp2_with fail
      exact bodyPost_ret (v:=.tuple #[.agg #[.string ((txt p).extract 0 3),.slice a3 (cO d hd (cB i p)).length c3],.int .i64 0]) (by simp[results,Tryz.results30,go_sem,hy1,hy2,hy3,hy4,Uq]) rfl
       ⟨_,_,_,rfl,fun n hn=>(by rw[VW.out] at hn;cases hn),fun x hx=>by
        rw[VW.out] at hx
        injection hx with hx
        subst hx
        exact⟨rfl,HTN.out,bs,GY.out _ _,GX.out,fun b hb=>by have:=sQ.out b hb;omega⟩,⟨_,_,_,rfl⟩,jH.out _ _⟩
    ·have HX5:=hide (Xo (d:=d) (hd:=hd) (i:=i) (p:=p) rZ.out.1 rZ.out.2 (.inr hlg))
     have jH:Hid (∀x y,Below w.heap.size w ((W5.setCell ⟨w.heap.size,0,none⟩ x).setCell ⟨w.heap.size,1,none⟩ y)):=fun x y=>(UC.setCell (p:=⟨w.heap.size,0,none⟩) (by simp) x).setCell (p:=⟨w.heap.size,1,none⟩) (by simp) y
     clear hlg
     go_wp2_with fail
     exact bodyPost_ret (v:=.tuple #[.agg #[.string ⟨#[]⟩,.slice none 0 0],.int .i64 5]) (by simp[results,Tryz.results30,go_sem,hq1,hq2,hq3,hq4,hq5]) rfl (Bb HX5.out rfl (jH.out _ _))
end Go.Proofs.YtfdihjnlgdiioaaGreatDoor.dB
