import Derived.Test.YtglcdcekkglmiaaGreatDoorG41
import Derived.Test.YtglcdcekkglmiaaGreatDoorG23
import Derived.Deep.LoopGhost
import Derived.Deep.DeepCutAuto
namespace Go.Proofs.YtglcdcekkglmiaaGreatDoor.Msg
open Go.ChangeShapes Go.WideShapes Go.ChangeAt Go.RowKit
set_option linter.unusedVariables false
set_option linter.unusedSimpArgs false
def fS (i:Nat):ByteArray:=⟨#[102]⟩++decT i
def fullS (dead i:Nat):Sess :=
 if i=dead then ⟨((i % 4:Nat):Int),fS i,⟨#[]⟩,2,4,[],0⟩ else ⟨((i % 4:Nat):Int),fS i,⟨#[]⟩,2,2,[⟨#[97]⟩,⟨#[98]⟩],((i % 3:Nat):Int)⟩
def fullT (dead:Nat):List Sess:=(List.range 16).map (fullS dead)
theorem fS_sz (i:Nat) (h:i≤1000):(fS i).size≤11:=by
 unfold fS
 rw[ByteArray.size_append]
 have h2:=decT_small i h
 have e1:(⟨#[102]⟩:ByteArray).size=1:=rfl
 omega
theorem fullS_sm (dead i:Nat) (h:i≤1000):SmS (fullS dead i):=by
 have hs:=fS_sz i h
 unfold fullS
 split
 ·exact⟨by show (fS i).size≤_;omega,by show (⟨#[]⟩:ByteArray).size≤_;decide,by show ([]:List ByteArray).length≤_;decide,fun r hr=>by cases hr⟩
 ·refine⟨by show (fS i).size≤_;omega,by show (⟨#[]⟩:ByteArray).size≤_;decide,by show ([⟨#[97]⟩,⟨#[98]⟩]:List ByteArray).length≤_;decide,fun r hr=>?_⟩
  have hr':r∈[(⟨#[97]⟩:ByteArray),⟨#[98]⟩]:=hr
  simp only[List.mem_cons,List.not_mem_nil,or_false] at hr'
  rcases hr' with rfl|rfl <;> decide
theorem two_rows (V:World) (s1 s2:ByteArray) (base:Nat) (hb:base≤V.heap.size):FB tC 1 9 base (V.alloc (.cells #[.string s1,.string s2] 9)) (.slice (some ⟨V.heap.size,0,none⟩) 2 2) [s1,s2]:=by
 have h:=World.ownsRow_lit (base:=base) (e:=9) (size:=1) V #[.string s1,.string s2] 2 hb (by unfold maxLen;omega) rfl
 exact h
theorem fullT_step (dead k:Nat):(List.range (k+1)).map (fullS dead)=(List.range k).map (fullS dead)++[fullS dead k]:=by rw[List.range_succ,List.map_append];rfl
set_option maxRecDepth 100000 in
set_option maxHeartbeats 8000000 in
theorem fullTb_any (dead:Nat) (hd:dead≤1000) (w:World) :
  Calls Tryz.prog 18 #[.int .i64 (dead:Int)] w fun e w'=>∃t,e=.returned (.agg #[t])∧SesssAt w.heap.size w' t (fullT dead)∧Below w.heap.size w w':=by
 obtain⟨X0,hX0⟩:∃x,(w.alloc (Obj.cells #[.slice none 0 0] 25)).alloc (Obj.cells #[.slice none 0 0] 25)=x:=⟨_,rfl⟩
 have HR:Hid (Box X0 w.heap.size 25 #[.slice none 0 0]):=by rw[←hX0];exact(Box.new _ _ _).alloc _
 have HT:Hid (Box X0 (w.heap.size+1) 25 #[.slice none 0 0]):=by
  rw[←hX0]
  have:=Box.new (w.alloc (Obj.cells #[.slice none 0 0] 25)) 25 #[.slice none 0 0]
  rw[Deep.nblk_alloc] at this
  exact this
 have HB0:Hid (Below w.heap.size w X0):=by
  rw[←hX0]
  have h1:=(Below.refl w.heap.size w).alloc (leR _) (Obj.cells #[.slice none 0 0] 25)
  exact h1.alloc h1.size _
 have HX0:=hide hX0
 clear hX0
 go_enter Tryz.func18,Tryz.ntmps18
 go_wp2_with fail
 (try rw[HX0.out])
 go_loopg [4] 16 (fun z i wr=>∃(k:Nat) (a:Option Addr) (c:Nat),k≤16∧z=16 - k∧i=.int .i64 (k:Int)∧Box wr w.heap.size 25 #[.slice none 0 0]∧Box wr (w.heap.size+1) 25 #[.slice a k c]∧(∃ps,TE (w.heap.size+2) wr (.slice a k c) ps∧ps.map Prod.fst=(List.range k).map (fullS dead))∧Below w.heap.size w wr)
 case atStart=>exact⟨0,none,0,by omega,rfl,rfl,HR.out,HT.out,⟨[],TE.nil _ _,rfl⟩,HB0.out⟩
 case round =>
  obtain⟨k,ak,ck,hk,rfl,rfl,hr,htb,hte,hb⟩:=hrel
  obtain⟨Y,rfl⟩:∃x,x=wr:=⟨_,rfl⟩
  have HRY:=hide hr
  have HTY:=hide htb
  have HTE:=hide hte
  have HBY:=hide hb
  clear hr htb hte hb
  by_cases hlt:k<16
  ·have hki:(k:Int)<16:=by omega
   have hsm:=fullS_sm dead k (by omega)
   have HSH:=hide (fun W=>show_any k W (by omega))
   have hds:=decT_small k (by omega)
   have hfe:fS k=⟨#[102]⟩++decT k:=rfl
   obtain⟨dt,hdt⟩:∃t,decT k=t:=⟨_,rfl⟩
   rw[hdt] at HSH hds hfe
   obtain⟨tg,htg⟩:∃c,(⟨#[102]⟩:ByteArray)++dt=c:=⟨_,rfl⟩
   have HFS:Hid (fS k=tg):=by show _=_;rw[hfe,htg]
   have HTG:=hide htg
   have hc1:(⟨#[102]⟩:ByteArray).size=1:=rfl
   obtain⟨k4,hk4⟩:∃q,k % 4=q:=⟨_,rfl⟩
   obtain⟨k3,hk3⟩:∃q,k % 3=q:=⟨_,rfl⟩
   have m4:(k:Int).tmod 4=(k4:Int):=by rw[Int.tmod_eq_emod_of_nonneg (by omega),←hk4];omega
   have m3:(k:Int).tmod 3=(k3:Int):=by rw[Int.tmod_eq_emod_of_nonneg (by omega),←hk3];omega
   have n4:(k:Int) % 4=(k4:Int):=by omega
   have n3:(k:Int) % 3=(k3:Int):=by omega
   have b4:k4<4:=by omega
   have b3:k3<3:=by omega
   obtain⟨x,hx⟩:∃x,fullS dead k=x:=⟨_,rfl⟩
   have HXD:Hid (k=dead→x=⟨(k4:Int),tg,⟨#[]⟩,2,4,[],0⟩):=fun h=>by rw[←hx];unfold fullS;rw[if_pos h,HFS.out,hk4]
   have HXL:Hid (¬k=dead→x=⟨(k4:Int),tg,⟨#[]⟩,2,2,[⟨#[97]⟩,⟨#[98]⟩],(k3:Int)⟩):=fun h=>by rw[←hx];unfold fullS;rw[if_neg h,HFS.out,hk4,hk3]
   rw[hx] at hsm
   have HSM:=hide hsm
   have HNX:Hid ((List.range (k+1)).map (fullS dead)=(List.range k).map (fullS dead)++[x]):=by show _=_;rw[fullT_step,hx]
   clear hx hsm hk4 hk3 hdt htg hfe
   go_wp2_with fail
   refine(HSH.out _).mono ?_
   rintro e V1 ⟨rfl,hb1⟩
   obtain⟨V2,hV2⟩:∃q,V1.alloc (Obj.cells #[.string ⟨#[97]⟩,.string ⟨#[98]⟩] 9)=q:=⟨_,rfl⟩
   obtain⟨V3,hV3⟩:∃q,V2.alloc (Obj.cells #[.int .i64 (k4:Int),.string tg,.string ⟨#[]⟩,.int .i64 2,.int .i64 2,.slice (some ⟨V1.heap.size,0,none⟩) 2 2,.int .i64 (k3:Int)] 41)=q:=⟨_,rfl⟩
   have hs1:Y.heap.size≤V1.heap.size:=hb1.size
   have hsY:w.heap.size+2≤Y.heap.size:=HTY.out.lt
   have hf2:FB tC 1 9 (w.heap.size+2) V2 (.slice (some ⟨V1.heap.size,0,none⟩) 2 2) [⟨#[97]⟩,⟨#[98]⟩]:=by rw[←hV2];exact two_rows V1 _ _ _ (by omega)
   have hb2:Below V1.heap.size V1 V2:=by rw[←hV2];exact alcB _ _
   have hs2:V2.heap.size=V1.heap.size+1:=by rw[←hV2];simp
   have hb3:Below V2.heap.size V2 V3:=by rw[←hV3];exact alcB _ _
   have HS3:Hid (Box V3 V2.heap.size 41 #[.int .i64 (k4:Int),.string tg,.string ⟨#[]⟩,.int .i64 2,.int .i64 2,.slice (some ⟨V1.heap.size,0,none⟩) 2 2,.int .i64 (k3:Int)]):=by rw[←hV3];exact Box.new _ _ _
   have HF3:=hide (hf2.below hb3)
   have HBY3:=hide (bjoin (bjoin hb3 hb2) hb1)
   obtain⟨S,hS⟩:∃q,V2.heap.size=q:=⟨_,rfl⟩
   obtain⟨B,hB⟩:∃q,V1.heap.size=q:=⟨_,rfl⟩
   rw[hS] at HS3
   rw[hB] at HS3 HF3
   have HSB:Hid (Y.heap.size≤B∧B<S):=⟨by omega,by omega⟩
   have HV:Hid ((V1.alloc (Obj.cells #[.string ⟨#[97]⟩,.string ⟨#[98]⟩] 9)).alloc (Obj.cells #[.int .i64 (k4:Int),.string tg,.string ⟨#[]⟩,.int .i64 2,.int .i64 2,.slice (some ⟨V1.heap.size,0,none⟩) 2 2,.int .i64 (k3:Int)] 41)=V3):=by show _=_;rw[hV2,hV3]
   have HSV:Hid (V1.heap.size+1=S):=by show _=_;omega
   have HBV:=hide hB
   clear hb1 hb2 hb3 hf2 hV2 hV3 hs1 hs2 hS hB hsY
   have htgE:=HTG.out
   go_upto_if 22 with(rw[HV.out])
   (try rw[HV.out])
   (try rw[HSV.out])
   (try rw[HBV.out])
   clear htgE
   go_cut [5] (fun s wx=>s=.pointer (some ⟨S,0,none⟩)∧∃ar nr cr,Box wx S 41 #[.int .i64 x.client,.string x.tag,.string x.query,.int .i64 x.page,.int .i64 x.state,.slice ar nr cr,.int .i64 x.cursor]∧FB tC 1 9 (w.heap.size+2) wx (.slice ar nr cr) x.rows∧(∀b,(Value.slice ar nr cr).ownBlock=some b→Y.heap.size≤b)∧Below Y.heap.size Y wx)
   case first =>
    by_cases hdd:k=dead
    ·have hdi:((k:Int) == (dead:Int))=true:=by simp;omega
     have hx:=HXD.out hdd
     subst hx
     clear hdd
     go_wp2_with fail
     refine(HSH.out _).mono ?_
     rintro e V4 ⟨rfl,hb4⟩
     have hs4:=HS3.out.below hb4
     have c0:=hs4.cell 0 (by simp)
     have c1:=hs4.cell 1 (by simp)
     have c2:=hs4.cell 2 (by simp)
     have c3:=hs4.cell 3 (by simp)
     have c4:=hs4.cell 4 (by simp)
     have c5:=hs4.cell 5 (by simp)
     have c6:=hs4.cell 6 (by simp)
     have f0:=hs4.frozen 0
     have f1:=hs4.frozen 1
     have f2:=hs4.frozen 2
     have f3:=hs4.frozen 3
     have f4:=hs4.frozen 4
     have f5:=hs4.frozen 5
     have f6:=hs4.frozen 6
     have sl:=hs4.lt
     have HBB:=hide (Box.fill7 hs4 (.int .i64 (k4:Int)) (.string tg) (.string ⟨#[]⟩) (.int .i64 2) (.int .i64 4) (.slice none 0 0) (.int .i64 0))
     have HBL:=hide (Below.fill7 (bjoin hb4 HBY3.out) (b:=S) (by have:=HSB.out;omega) (.int .i64 (k4:Int)) (.string tg) (.string ⟨#[]⟩) (.int .i64 2) (.int .i64 4) (.slice none 0 0) (.int .i64 0))
     simp only[List.getElem_toArray,List.getElem_cons_zero,List.getElem_cons_succ] at c0 c1 c2 c3 c4 c5 c6
     clear hs4 hb4
     have htgE:=HTG.out
     go_wp2_with fail
     go_meet
     case rel=>exact⟨rfl,none,0,0,HBB.out,FB.nil _ _ _ _ _,fun b hb=>by simp[Value.ownBlock] at hb,HBL.out⟩
    ·have hdi:((k:Int) == (dead:Int))=false:=by simp;omega
     have hx:=HXL.out hdd
     subst hx
     clear hdd
     go_wp2_with fail
     go_meet
     case rel=>exact⟨rfl,some ⟨B,0,none⟩,2,2,HS3.out,HF3.out,fun b hb=>by simp[Value.ownBlock] at hb;have:=HSB.out;omega,HBY3.out⟩
   case rest =>
    clear HS3 HF3 HBY3
    obtain⟨Z,rfl⟩:∃x,x=wc:=⟨_,rfl⟩
    obtain⟨rfl,ar,nr,cr,hsb,hfr,hown,hbz⟩:=hcut
    have hTZ:=HTY.out.below hbz
    have hRZ:=HRY.out.below hbz
    obtain⟨ps,hte,hps⟩:=HTE.out
    have hteZ:=hte.below hbz
    have hpl:ps.length=k:=by have:=congrArg List.length hps;simpa using this
    obtain⟨a',c',w',hr,hte',ho⟩:=hteZ.more x (.slice ar nr cr) HSM.out hfr (fun b hb q hq e=>by
     have h1:=hown b hb
     have h2:=(hte.own (.inr ⟨q,hq,e⟩)).2
     omega) (by have:=hTZ.lt;omega) hpl (by omega)
    have hn1:w.heap.size+1 ∉ (Value.slice ak k ck).ownBlock.toList:=fun hm=>by have:=(hteZ.own (.inl (by simpa using hm))).1;omega
    have hn0:w.heap.size ∉ (Value.slice ak k ck).ownBlock.toList:=fun hm=>by have:=(hteZ.own (.inl (by simpa using hm))).1;omega
    have hT':=hTZ.only ho hn1
    have hR':=hRZ.only ho hn0
    have hb':Below w.heap.size w w':=(bjoin hbz HBY.out).trans (ho.below (bjoin hbz HBY.out).size fun d hd=>by have:=(hteZ.own (.inl (by simpa using hd))).1;omega)
    have t0:Z.cell? ⟨w.heap.size+1,0,none⟩=some (.slice ak k ck):=hTZ.cell 0 (by simp)
    have r0:w'.cell? ⟨w.heap.size+1,0,none⟩=some (.slice ak k ck):=hT'.cell 0 (by simp)
    have rf:=hT'.frozen 0
    have rl:=hT'.lt
    have s0:Z.cell? ⟨S,0,none⟩=some (.int .i64 x.client):=hsb.cell 0 (by simp)
    have s1:Z.cell? ⟨S,1,none⟩=some (.string x.tag):=hsb.cell 1 (by simp)
    have s2:Z.cell? ⟨S,2,none⟩=some (.string x.query):=hsb.cell 2 (by simp)
    have s3:Z.cell? ⟨S,3,none⟩=some (.int .i64 x.page):=hsb.cell 3 (by simp)
    have s4:Z.cell? ⟨S,4,none⟩=some (.int .i64 x.state):=hsb.cell 4 (by simp)
    have s5:Z.cell? ⟨S,5,none⟩=some (.slice ar nr cr):=hsb.cell 5 (by simp)
    have s6:Z.cell? ⟨S,6,none⟩=some (.int .i64 x.cursor):=hsb.cell 6 (by simp)
    have hT4:Box (w'.setCell ⟨w.heap.size+1,0,none⟩ (.slice a' (k+1) c')) (w.heap.size+1) 25 #[.slice a' (k+1) c']:=by have:=hT'.set 0 (.slice a' (k+1) c');simpa using this
    have HNEW:Hid (Box (w'.setCell ⟨w.heap.size+1,0,none⟩ (.slice a' (k+1) c')) w.heap.size 25 #[.slice none 0 0]∧Box (w'.setCell ⟨w.heap.size+1,0,none⟩ (.slice a' (k+1) c')) (w.heap.size+1) 25 #[.slice a' (k+1) c']∧(∃ps,TE (w.heap.size+2) (w'.setCell ⟨w.heap.size+1,0,none⟩ (.slice a' (k+1) c')) (.slice a' (k+1) c') ps∧ps.map Prod.fst=(List.range (k+1)).map (fullS dead))∧Below w.heap.size w (w'.setCell ⟨w.heap.size+1,0,none⟩ (.slice a' (k+1) c'))) :=
     ⟨hR'.other (by simp) _,hT4,⟨_,hte'.setBox hT' _,by rw[List.map_append,hps,HNX.out];rfl⟩,hb'.setCell (p:=⟨w.heap.size+1,0,none⟩) (by show w.heap.size≤w.heap.size+1;omega) _⟩
    clear hsb hfr hown hbz hTZ hRZ hte hps hteZ hpl hte' ho hn1 hn0 hT' hR' hb' hT4
    go_wp2_with (first|(at_builtin;refine wpList_app rfl _ _ 23 rfl hr (by first|rfl|simp[Act.eval,Act.put]) (by first|rfl|simp[Act.eval,Act.put]) ?_))
    go_roundg (16 - (k+1))
    case measure=>omega
    case rel=>exact⟨k+1,a',c',by omega,rfl,by go_num,HNEW.out⟩
  ·obtain rfl:k=16:=by omega
   have hki:¬((16:Nat):Int)<16:=by omega
   have d0:Y.cell? ⟨w.heap.size+1,0,none⟩=some (.slice ak 16 ck):=HTY.out.cell 0 (by simp)
   have r0:Y.cell? ⟨w.heap.size,0,none⟩=some (.slice none 0 0):=HRY.out.cell 0 (by simp)
   have rf:=HRY.out.frozen 0
   have rl:=HRY.out.lt
   have HRES:Hid (SesssAt w.heap.size (Y.setCell ⟨w.heap.size,0,none⟩ (.slice ak 16 ck)) (.slice ak 16 ck) (fullT dead)∧Below w.heap.size w (Y.setCell ⟨w.heap.size,0,none⟩ (.slice ak 16 ck))):=by
    obtain⟨ps,h,he⟩:=HTE.out
    refine⟨?_,HBY.out.setCell (p:=⟨w.heap.size,0,none⟩) (leR _) _⟩
    exact((h.low (by omega)).setBox HRY.out _).reads he (by show ((List.range 16).map (fullS dead)).length≤100000;rw[List.length_map,List.length_range];decide)
   go_wp2_with fail
   exact bodyPost_ret (v:=.agg #[.slice ak 16 ck]) (by simp[results,Tryz.results18,go_sem,r0,rl]) rfl ⟨_,rfl,HRES.out.1,HRES.out.2⟩
end Go.Proofs.YtglcdcekkglmiaaGreatDoor.Msg
