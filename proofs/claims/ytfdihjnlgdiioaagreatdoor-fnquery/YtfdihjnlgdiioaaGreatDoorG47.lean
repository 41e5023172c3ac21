import Derived.Test.YtfdihjnlgdiioaaGreatDoorG39
import Derived.Test.YtfdihjnlgdiioaaGreatDoorG45
import Derived.Test.YtfdihjnlgdiioaaGreatDoorG46
namespace Go.Proofs.YtfdihjnlgdiioaaGreatDoor.dB
open Go.ChangeShapes Go.WideShapes Go.ChangeAt Go.RowKit
set_option linter.unusedVariables false
set_option linter.unusedSimpArgs false
theorem TT {s:ByteArray} (h:jX s≠0):kS s=.error (jX s)∧(((jX s:Nat):Int) != 0)=true:=by
 refine⟨?_,by rw[bne_iff_ne];omega⟩
 unfold jX at h ⊢
 unfold kS
 by_cases h1:s.size=0∨40000<s.size
 ·rw[if_pos h1,if_pos h1]
 ·rw[if_neg h1] at h ⊢
  rw[if_neg h1]
  by_cases h2:lY s=false
  ·rw[if_pos h2,if_pos h2]
  ·rw[if_neg h2] at h ⊢
   rw[if_neg h2]
   by_cases h3:eB s=true
   ·rw[if_pos h3] at h;exact absurd rfl h
   ·rw[if_neg h3,dif_neg h3]
theorem WZ {s:ByteArray} (h:jX s=0):s.size≤40000∧lY s=true∧eB s=true:=by
 unfold jX at h
 by_cases h1:s.size=0∨40000<s.size
 ·rw[if_pos h1] at h;cases h
 ·rw[if_neg h1] at h
  by_cases h2:lY s=false
  ·rw[if_pos h2] at h;cases h
  ·rw[if_neg h2] at h
   by_cases h3:eB s=true
   ·exact⟨by omega,by simpa using h2,h3⟩
   ·rw[if_neg h3] at h;cases h
set_option maxRecDepth 100000 in
set_option maxHeartbeats 4000000 in
theorem Mv (s:ByteArray) (w:World) (hs:s.size≤1048576) (hm:Mx w) (hc:jX s≠0) :
  Calls Tryz.prog 8 #[.string s] w (qG w (kS s)):=by
 obtain⟨hX,hne⟩:=TT hc
 have HX:=hide hX
 clear hX hc
 have HB0:Hid (Below w.heap.size w (w.alloc (Obj.cells #[.slice none 0 0] 28))):=(Below.refl w.heap.size w).alloc (aS _) _
 have HM0:=hide (hm.kept HB0.out)
 go_enter Tryz.func8,Tryz.ntmps8
 go_wp2_with fail
 refine(yC s _ hs HM0.out).mono ?_
 rintro e W1 ⟨rfl,hb1⟩
 have hb2:Below (w.heap.size+1) (w.alloc (Obj.cells #[.slice none 0 0] 28)) W1:=by simpa using hb1
 have hq1:W1.cell? ⟨w.heap.size,0,none⟩=some (.slice none 0 0):=by rw[hb2.cell (p:=⟨w.heap.size,0,none⟩) (by simp)];simp
 have hq2:W1.frozen? ⟨w.heap.size,0,none⟩=false:=by rw[hb2.frozen (p:=⟨w.heap.size,0,none⟩) (by simp)];simp
 have hq3:w.heap.size<W1.heap.size:=by have:=hb2.size;simp at this;omega
 have HB1:Hid (Below w.heap.size w W1):=HB0.out.trans (hb2.mono (by omega))
 go_wp2_with fail
 exact bodyPost_ret (v:=.tuple #[.agg #[.slice none 0 0],.int .i64 (jX s:Int)]) (by simp[results,Tryz.results8,go_sem,hq1,hq2,hq3]) rfl (Ig HX.out rfl (HB1.out.setCell (by simp) _))
theorem PD {d:ByteArray} {hd:d.size=5} {i n:Nat} {p:List UInt8} (h:nk d hd i p=.error n):((n:Int) != 0)=true:=by
 rw[bne_iff_ne]
 unfold nk at h
 split at h
 ·injection h with h;omega
 ·split at h
  ·injection h with h;omega
  ·split at h
   ·injection h with h;omega
   ·split at h
    ·injection h with h;omega
    ·cases h
theorem PE {d:ByteArray} {hd:d.size=5} {i:Nat} {p:List UInt8} {x:Seg} (h:nk d hd i p=.ok x):x.name.size≤p.length:=by
 unfold nk at h
 split at h
 ·cases h
 ·split at h
  ·cases h
  ·split at h
   ·cases h
   ·split at h
    ·cases h
    ·injection h with h
     subst h
     rw[dn,List.length_take];omega
theorem Ac (c:UInt8):∀(l cur:List UInt8),∃t rest,bU c cur l=(cur++t) :: rest∧(l=t∨∃r,l=t++c :: r)
 | [],cur=>⟨[],[],by simp[bU],.inl rfl⟩
 | x :: l,cur=>by
  unfold bU
  by_cases hx:x=c
  ·rw[if_pos hx]
   exact⟨[],bU c [] l,by simp,.inr ⟨l,by rw[hx];rfl⟩⟩
  ·rw[if_neg hx]
   obtain⟨t,rest,h1,h2⟩:=Ac c l (cur++[x])
   refine⟨x :: t,rest,by rw[h1];simp,?_⟩
   rcases h2 with h2|⟨r,h2⟩
   ·exact .inl (by rw[h2])
   ·exact .inr ⟨r,by rw[h2];rfl⟩
theorem Mw (c:UInt8) (l:List UInt8):∃t rest,bI c l=t :: rest∧(l=t∨∃r,l=t++r):=by
 obtain⟨t,rest,h1,h2⟩:=Ac c l []
 refine⟨t,rest,by unfold bI;rw[h1];rfl,?_⟩
 rcases h2 with h2|⟨r,h2⟩
 ·exact .inl h2
 ·exact .inr ⟨_,h2⟩
theorem DU (c:UInt8):∀(l cur:List UInt8),(c ∉ cur)→∀t∈bU c cur l,c ∉ t
 | [],cur,h,t,ht=>by
  simp only[bU,List.mem_singleton] at ht
  rw[ht];exact h
 | x :: l,cur,h,t,ht=>by
  unfold bU at ht
  by_cases hx:x=c
  ·rw[if_pos hx,List.mem_cons] at ht
   rcases ht with ht|ht
   ·rw[ht];exact h
   ·exact DU c l [] (by simp) t ht
  ·rw[if_neg hx] at ht
   exact DU c l (cur++[x]) (by simp[h];exact fun e=>hx e.symm) t ht
theorem Xa (c:UInt8) (l:List UInt8) (t:List UInt8) (h:t∈bI c l):c ∉ t:=DU c l [] (by simp) t h
theorem aaP {s:ByteArray} (h:eB s=true) (hd:(s.extract 3 8).size=5) (h0:0<(dL s.data.toList).length):Td (s.extract 3 8) hd ((dL s.data.toList)[0]):=by
 have hp8:=Ik h h0
 obtain⟨h8,hm,hdl,hsep⟩:=BM h
 obtain⟨h2,e⟩:=rF s.data.toList 0 h0
 have hl:8≤s.data.toList.length:=by simpa using h8
 obtain⟨t,rest,hc,ht⟩:=Mw 13 s.data.toList
 have e0:(dL s.data.toList)[0]=t:=by rw[e];simp only[hc,List.getElem_cons_zero]
 rw[e0] at hp8 ⊢
 refine⟨hp8,?_,?_⟩
 ·have hm':s.data.toList.take 3=[77,83,72]:=by
   have:=beq_iff_eq.1 hm
   rw[jc,kR] at this
   simpa using this
  rw[←hm']
  rcases ht with ht|⟨r,ht⟩
  ·rw[ht]
  ·rw[ht,List.take_append_of_le_length (by omega)]
 ·have hd0:(s.extract 3 8)[0]=s[3]:=JN s h8 (by omega)
  rw[hd0,List.head?_drop]
  by_cases ht8:t.length≤8
  ·rw[List.getElem?_eq_none ht8];rfl
  ·have Xb:8<t.length:=by omega
   have adw:8<s.data.toList.length:=by
    rcases ht with ht|⟨r,ht⟩
    ·rw[ht];exact Xb
    ·rw[ht,List.length_append];omega
   have L9:8<s.size:=by simpa using adw
   have hg:t[8]=s[8]:=by
    have:s.data.toList[8]'adw=t[8]:=by
     rcases ht with ht|⟨r,ht⟩
     ·simp only[ht]
     ·simp only[ht];rw[List.getElem_append_left Xb]
    rw[←this];rfl
   rw[List.getElem?_eq_getElem Xb,hg]
   show (s[8] != s[3])=false
   rcases hsep with hsep|⟨_,hsep|hsep⟩
   ·omega
   ·exfalso
    have h13:t[8]=13:=by rw[hg];exact UInt8.toNat_inj.1 hsep
    exact Xa 13 s.data.toList t (by rw[hc];simp) (by rw[←h13];exact List.getElem_mem Xb)
   ·rw[UInt8.toNat_inj.1 hsep];simp
theorem GU {s:ByteArray} (h:lY s=true) (i:Nat) (hi:i<(dL s.data.toList).length):∀x∈(dL s.data.toList)[i],bZ x=true:=by
 obtain⟨h2,e⟩:=rF s.data.toList i hi
 rw[e]
 rw[←yB,List.all_eq_true] at h
 have:=h _ (List.getElem_mem h2)
 rw[List.all_eq_true] at this
 exact this
theorem TU {Wc WR W6:World} {a1:Option Addr} {iH:Nat} {acc:List Seg} {us:List Value} {bss:List (List Nat)} {name:ByteArray} {gs:List Field} {XC:List Nat} {u:Value}
  (AQ:j6 (Wc.heap.size+1) WR (.slice a1 acc.length iH) acc us bss) (hws:Wc.heap.size<WR.heap.size) (hb6:Below WR.heap.size WR W6) (adx:Below Wc.heap.size Wc W6)
  (hoc:W6.cell? ⟨Wc.heap.size,0,none⟩=some (.slice a1 acc.length iH)) (hof:W6.frozen? ⟨Wc.heap.size,0,none⟩=false) (hn:name.size≤9223372036854775807)
  (hO3:aN W6 u gs XC) (afz:XC.Nodup) (afA:∀b∈XC,WR.heap.size≤b) {g7 yD:Nat} {w7:World}
  (hown:w7.ownsRow (Wc.heap.size+1) 54 2 (.slice (some ⟨g7,0,none⟩) (acc.length+1) yD) (acc.length+1) (dw acc us++[.string name,u]))
  (hgrow:(W6.alloc (Obj.cells #[.string name,u] 54)).grownBy w7 (Value.slice a1 acc.length iH).ownBlock) (hat:(Value.slice a1 acc.length iH).ownBlock=some g7∨g7=W6.heap.size+1) :
  w7.cell? ⟨Wc.heap.size,0,none⟩=some (.slice a1 acc.length iH)∧w7.frozen? ⟨Wc.heap.size,0,none⟩=false ∧
  ∃(us':List Value) (aaQ:List (List Nat)),j6 (Wc.heap.size+1) (w7.setCell ⟨Wc.heap.size,0,none⟩ (.slice (some ⟨g7,0,none⟩) (acc.length+1) yD)) (.slice (some ⟨g7,0,none⟩) (acc.length+1) yD) (acc++[⟨name,gs⟩]) us' aaQ ∧
   (w7.setCell ⟨Wc.heap.size,0,none⟩ (.slice (some ⟨g7,0,none⟩) (acc.length+1) yD)).cell? ⟨Wc.heap.size,0,none⟩=some (.slice (some ⟨g7,0,none⟩) (acc.length+1) yD) ∧
   (w7.setCell ⟨Wc.heap.size,0,none⟩ (.slice (some ⟨g7,0,none⟩) (acc.length+1) yD)).frozen? ⟨Wc.heap.size,0,none⟩=false ∧
   Below Wc.heap.size Wc (w7.setCell ⟨Wc.heap.size,0,none⟩ (.slice (some ⟨g7,0,none⟩) (acc.length+1) yD))∧Wc.heap.size<(w7.setCell ⟨Wc.heap.size,0,none⟩ (.slice (some ⟨g7,0,none⟩) (acc.length+1) yD)).heap.size:=by
 have hsA:(W6.alloc (Obj.cells #[.string name,u] 54)).heap.size=W6.heap.size+1:=by simp
 have ady:∀b,(Value.slice a1 acc.length iH).ownBlock=some b→Wc.heap.size+1≤b:=fun b hb=>(rz AQ.row hb).1
 have afB:Wc.heap.size<W6.heap.size:=Nat.lt_of_lt_of_le hws hb6.size
 have hblk:w7.heap[Wc.heap.size]?=W6.heap[Wc.heap.size]?:=(hgrow.block Wc.heap.size (by rw[hsA];omega) (fun e=>by have:=ady _ e.symm;omega)).trans (Deep.blk_alloc_lt _ _ _ afB)
 have Q0:w7.cell? ⟨Wc.heap.size,0,none⟩=some (.slice a1 acc.length iH):=by rw[fZ hblk];exact hoc
 have y7:w7.frozen? ⟨Wc.heap.size,0,none⟩=false:=by rw[kK hblk];exact hof
 have hs7:=hgrow.size
 rw[hsA] at hs7
 have hs6:=hb6.size
 have hBA:Below WR.heap.size WR (W6.alloc (Obj.cells #[.string name,u] 54)):=hb6.alloc hb6.size _
 have Kh:=bS.kept bQ hO3 (w':=W6.alloc (Obj.cells #[.string name,u] 54)) (by rw[hsA];omega) (fun c hc=>Deep.blk_alloc_lt _ _ _ (bS.lt dD hO3 c hc))
 have hPU:=j6.push (x:=⟨name,gs⟩) AQ (by omega) hBA hn Kh afA afz rfl hown hgrow (by
  rw[hsA]
  rcases hat with h|h
  ·exact .inl (by rw[h];rfl)
  ·exact .inr (by rw[h];rfl))
 have adz:Below Wc.heap.size Wc w7:=(adx.alloc adx.size (Obj.cells #[.string name,u] 54)).grown hgrow (by rw[hsA];omega) (fun b hb'=>by have:=ady b hb';omega)
 exact⟨Q0,y7,_,_,j6.above hPU (by rw[Deep.nblk_setCell];exact aS _) (fun b hb'=>Deep.blk_setCell_other _ _ _ _ (by simp;omega)),World.cell?_setCell_same _ _ _ Q0,by rw[World.frozen?_setCell];exact y7,adz.setCell (by simp) _,by rw[Deep.nblk_setCell];omega⟩
set_option maxRecDepth 100000 in
set_option maxHeartbeats 8000000 in
theorem MB (s:ByteArray) (w:World) (h40:s.size≤40000) (hby:lY s=true) (hh:eB s=true) (hm:Mx w) (hc:jX s=0) :
  Calls Tryz.prog 8 #[.string s] w (qG w (kS s)):=by
 obtain⟨h8,_,_,_⟩:=BM hh
 have h3:(3:Int)≤(s.size:Int):=by omega
 have h38:(8:Int)≤(s.size:Int):=by omega
 have h5:(s.extract 3 8).size=5:=by rw[ByteArray.size_extract];omega
 have HX:Hid (kS s=dS (s.extract 3 8) h5 0 (dL s.data.toList)):=by
  unfold kS
  rw[if_neg (by omega),if_neg (by rw[hby];simp),dif_pos hh];trivial
 have HHP:=hide (fun h0=>aaP hh h5 h0)
 have Uu:=hide (GU hby)
 have hcz:((jX s:Int) != 0)=false:=by rw[hc];rfl
 clear hby hh hc
 have HB0:Hid (Below w.heap.size w (w.alloc (Obj.cells #[.slice none 0 0] 28))):=(Below.refl w.heap.size w).alloc (aS _) _
 have HM0:=hide (hm.kept HB0.out)
 have hmp:=hm.pos
 go_enter Tryz.func8,Tryz.ntmps8
 go_wp2_with fail
 refine(yC s _ (by omega) HM0.out).mono ?_
 rintro e W1 ⟨rfl,hb1⟩
 have hb2:Below (w.heap.size+1) (w.alloc (Obj.cells #[.slice none 0 0] 28)) W1:=by simpa using hb1
 have Yn:=hide (HM0.out.kept hb1)
 go_wp2_with fail
 refine(lG s 13 _ (by omega) Yn.out).mono ?_
 rintro e Wb ⟨u,rfl,hu,hb3⟩
 have hpos:=jC 13 s.data.toList
 obtain⟨g,cap,rfl,hg,hgl,hcap,hcm,hcell⟩:=lu hu hpos
 have HC:=hide hcell
 have nA:Hid (Below (w.heap.size+1) (w.alloc (Obj.cells #[.slice none 0 0] 28)) Wb):=hb2.trans (hb3.mono (by have:=hb2.size;simp at this;omega))
 have Uj:=hide (Yn.out.kept hb3)
 have hlen:(bI 13 s.data.toList).length≤40001:=by have:=lX 13 s.data.toList;simp at this;omega
 have HL:=hide hlen
 have hn1:(((bI 13 s.data.toList).length:Int) - 1).toNat=(bI 13 s.data.toList).length - 1:=by omega
 have hn2:(0:Int)≤((bI 13 s.data.toList).length:Int) - 1:=by omega
 have hlast:=(HC.out ((bI 13 s.data.toList).length - 1) (by omega)).1
 have hls:=jQ 13 s.data.toList _ (List.getElem_mem (show (bI 13 s.data.toList).length - 1<(bI 13 s.data.toList).length by omega))
 have hsl:s.data.toList.length=s.size:=by simp
 clear hu hcell hb1 hb2 hb3
 go_upto_if 28 with fail
 go_cut [6] (fun v wx=>v=.slice (some ⟨g,0,none⟩) (dL s.data.toList).length cap∧wx=Wb)
 case first =>
  cases he:((bI 13 s.data.toList)[(bI 13 s.data.toList).length - 1]'(by omega)).isEmpty
  ·have hne0:¬(bI 13 s.data.toList)[(bI 13 s.data.toList).length - 1]'(by omega)=[]:=fun h=>by rw[h] at he;cases he
   have hne:(txt ((bI 13 s.data.toList)[(bI 13 s.data.toList).length - 1]'(by omega))).toList.isEmpty=false:=by rw[kR];exact he
   have hne2:¬(txt ((bI 13 s.data.toList)[(bI 13 s.data.toList).length - 1]'(by omega))).toList=[]:=by rw[kR];exact hne0
   have HP:=hide (BD s.data.toList hne0)
   clear he hne0
   go_wp2_with fail
   all_goals first
    | (rename_i h;exact absurd (h.symm.trans hne) (by decide))
    | (go_meet
       case rel=>exact⟨by rw[HP.out],rfl⟩)
  ·have hne0:(bI 13 s.data.toList)[(bI 13 s.data.toList).length - 1]'(by omega)=[]:=List.isEmpty_iff.1 he
   have hne:(txt ((bI 13 s.data.toList)[(bI 13 s.data.toList).length - 1]'(by omega))).toList.isEmpty=true:=by rw[kR];exact he
   have hne2:(txt ((bI 13 s.data.toList)[(bI 13 s.data.toList).length - 1]'(by omega))).toList=[]:=by rw[kR];exact hne0
   have HP:=hide (zJ s.data.toList hne0)
   clear he hne0
   have hc2:¬(cap:Int)<((bI 13 s.data.toList).length:Int) - 1:=by omega
   go_wp2_with fail
   all_goals first
    | (rename_i h;exact absurd (h.symm.trans hne) (by decide))
    | (go_meet
       case rel=>exact⟨by rw[HP.out,List.length_dropLast],rfl⟩)
 case rest =>
  obtain⟨rfl,rfl⟩:=hcut
  obtain⟨Wc,rfl⟩:∃x,x=wc:=⟨_,rfl⟩
  have HCP:Hid (∀i (h:i<(dL s.data.toList).length),Wc.cell? ⟨g,i,none⟩=some (.string (txt (dL s.data.toList)[i]))∧((dL s.data.toList)[i]).length≤40000):=fun i h=>by
   obtain⟨h2,e⟩:=rF s.data.toList i h
   have h3:=jQ 13 s.data.toList _ (List.getElem_mem h2)
   rw[e]
   exact⟨(HC.out i h2).1,by omega⟩
  have hpl:(dL s.data.toList).length≤40001:=by have:=KG s.data.toList;have:=HL.out;omega
  generalize dL s.data.toList=ps at *
  clear hlast hls hn1 hn2 hcap hcm HC HL
  generalize hdd:s.extract 3 8=d at *
  clear hdd
  have hwc:w.heap.size<Wc.heap.size:=by have:=nA.out.size;simp at this;omega
  have fM:Hid (∀wX,Below Wc.heap.size Wc wX→wX.cell? ⟨w.heap.size,0,none⟩=some (.slice none 0 0)∧wX.frozen? ⟨w.heap.size,0,none⟩=false∧w.heap.size<wX.heap.size∧Below w.heap.size w wX∧Mx wX):=fun wX h=>by
   have hs0:=nA.out.size
   simp at hs0
   have hb2:Below (w.heap.size+1) (w.alloc (Obj.cells #[.slice none 0 0] 28)) wX:=nA.out.trans (h.mono (by omega))
   refine⟨?_,?_,by have:=h.size;omega,HB0.out.trans (hb2.mono (by omega)),Uj.out.kept h⟩
   ·rw[hb2.cell (p:=⟨w.heap.size,0,none⟩) (by simp)];simp
   ·rw[hb2.frozen (p:=⟨w.heap.size,0,none⟩) (by simp)];simp
  go_wp2_with fail
  go_loopg [36] ps.length (fun n i wr=>∃(k:Nat) (acc:List Seg) (us:List Value) (bss:List (List Nat)) (a1:Option Addr) (iH:Nat),k≤ps.length∧n=ps.length - k∧i=.int .i64 k∧acc.length=k ∧
   wr.cell? ⟨Wc.heap.size,0,none⟩=some (.slice a1 acc.length iH)∧wr.frozen? ⟨Wc.heap.size,0,none⟩=false∧j6 (Wc.heap.size+1) wr (.slice a1 acc.length iH) acc us bss∧Below Wc.heap.size Wc wr∧Wc.heap.size<wr.heap.size ∧
   dS d h5 0 ps=(dS d h5 k (ps.drop k)).map (acc++·))
  case atStart=>exact⟨0,[],[],[],none,0,eH _,by simp,rfl,rfl,by simp,by simp,j6.nil _ _,aO _ _,by simp,KH d h5 ps⟩
  case round =>
   obtain⟨k,acc,us,bss,a1,iH,hk,rfl,rfl,hacc,hoc,hof,Xz,hbr,hws,hE⟩:=hrel
   obtain⟨WR,rfl⟩:∃x,x=wr:=⟨_,rfl⟩
   have HE:=hide hE
   have HAC:=hide hacc
   have AQ:=hide Xz
   have GZ:=hide hbr
   have HOC:=hide (And.intro hoc hof)
   obtain⟨hq1,hq2,hq3,hq4,hMR⟩:=fM.out _ hbr
   have hal:acc.length≤40001:=by omega
   clear hE Xz hacc
   by_cases hlt:k<ps.length
   ·have hgc:g<Wc.heap.size:=hgl
    have hpc:WR.cell? ⟨g,k,none⟩=some (.string (txt ps[k])):=by rw[hbr.cell (p:=⟨g,k,none⟩) hgc];exact(HCP.out k hlt).1
    have hki:(k:Int)<(ps.length:Int):=by omega
    go_wp2_with fail
    refine(zo ps[k] k d _ h5 (HCP.out k hlt).2 (Uu.out k hlt) (by omega) (fun hk0=>by subst hk0;exact HHP.out hlt) hMR).mono ?_
    rintro e W5 ⟨nm,u5,c5,rfl,aaR,hok,⟨a5,n5,Yf,rfl⟩,hb5⟩
    have hs5:=hb5.size
    have Jm:=hide (GZ.out.trans (hb5.mono GZ.out.size))
    have Av:=hide hb5
    clear hq1 hq2 hq3 hq4 hMR hpc
    obtain⟨hq1,hq2,hq3,hq4,hM5⟩:=fM.out _ Jm.out
    clear hM5
    cases hsg:nk d h5 k ps[k] with
    | error n =>
     have P7:Hid (kS s=.error n):=by rw[HX.out];exact ND hlt HE.out hsg
     have hcn:=aaR n hsg
     have hnz:=PD hsg
     subst hcn
     clear aaR hok hsg hb5
     have jH:Hid (∀v o,Below w.heap.size w ((W5.setCell ⟨w.heap.size,0,none⟩ v).alloc o)):=fun v o=>(hq4.setCell (p:=⟨w.heap.size,0,none⟩) (by simp) v).alloc (by rw[Deep.nblk_setCell];omega) o
     go_wp2_with fail
     exact bodyPost_ret (v:=.tuple #[.agg #[.slice none 0 0],.int .i64 (n:Int)]) (by simp[results,Tryz.results8,go_sem,hq1,hq2,hq3]) rfl (Ig P7.out rfl (jH.out _ _))
    | ok x =>
     obtain⟨hc0,hnm,Xm,qF,Bw,Ag⟩:=hok x hsg
     subst hc0 hnm
     clear aaR hok hb5
     obtain⟨i3,hi3,hw0,hw1,hw2⟩:=gV qH
     have hns:x.name.size≤9223372036854775807:=by
      have h1:=PE hsg
      have h2:=(HCP.out k hlt).2
      omega
     have Ll:=hide hsg
     clear hsg hoc hof
     have adA:Wc.heap.size<W5.heap.size:=Nat.lt_of_lt_of_le hws hs5
     have afC:W5.cell? ⟨Wc.heap.size,0,none⟩=some (.slice a1 acc.length iH):=by rw[Av.out.cell (p:=⟨Wc.heap.size,0,none⟩) hws];exact HOC.out.1
     have afD:W5.frozen? ⟨Wc.heap.size,0,none⟩=false:=by rw[Av.out.frozen (p:=⟨Wc.heap.size,0,none⟩) hws];exact HOC.out.2
     have gI:Below W5.heap.size W5 (W5.alloc (Obj.cells #[.string x.name,.slice a5 n5 Yf] 54)):=aO _ _
     have hs6:(W5.alloc (Obj.cells #[.string x.name,.slice a5 n5 Yf] 54)).heap.size=W5.heap.size+1:=by simp
     have aaS:=hide (aj gI Av.out)
     have aaT:=hide (aj gI Jm.out)
     have adB:(W5.alloc (Obj.cells #[.string x.name,.slice a5 n5 Yf] 54)).cell? ⟨Wc.heap.size,0,none⟩=some (.slice a1 acc.length iH):=by rw[gI.cell (p:=⟨Wc.heap.size,0,none⟩) adA];exact afC
     have adC:(W5.alloc (Obj.cells #[.string x.name,.slice a5 n5 Yf] 54)).frozen? ⟨Wc.heap.size,0,none⟩=false:=by rw[gI.frozen (p:=⟨Wc.heap.size,0,none⟩) adA];exact afD
     have Kk:=bS.kept bQ qF gI.size (fun e he=>gI.block e (bS.lt dD qF e he))
     have AB:=hide (aaS.out.alloc aaS.out.size (Obj.cells #[.string x.name,.slice a5 n5 Yf] 54))
     have Ju:=hide (jF AQ.out.row AB.out)
     have afE:=hide (fun(g7 yD:Nat) (w7:World)=>TU (name:=x.name) (gs:=x.fields) (g7:=g7) (yD:=yD) (w7:=w7) AQ.out hws aaS.out aaT.out adB adC hns Kk Bw Ag)
     clear qF Kk Bw Ag gI adB adC
     go_wp2_with (first
      | (at_builtin;refine wpList_append_lies _ rfl _ _ 26 rfl (Wc.heap.size+1) 54 i3 (.agg #[.string ByteArray.empty,.slice none 0 0]) 2 40 Tryz.underlying26 hi3 hw0 hw1 hw2 rfl (by decide) _ _ _ rfl Ju.out ⟨W5.heap.size+1,0,none⟩ 1 1 [.string x.name,.slice a5 n5 Yf] rfl rfl ?c1 ?c2 ?c3 ?c4 ?c5 ?c6 (W5.heap.size+1+1) ?c7 ?_)
      | fail)
     case c1 =>
      have:=kT (W5.alloc (Obj.cells #[.string x.name,.slice a5 n5 Yf] 54)) (.string x.name) (.slice a5 n5 Yf) 54
      rw[hs6] at this
      exact this
     case c2=>exact kU _ _ _ _
     case c3=>omega
     case c4=>unfold maxLen;omega
     case c5=>omega
     case c6=>simp;omega
     case c7=>simp
     intro g7 yD w7 hown' hgrow hat acj
     have HG7:=hide (afE.out g7 yD w7 hown' hgrow (by rw[hs6];exact hat))
     have Q0:=HG7.out.1
     have y7:=HG7.out.2.1
     clear hown' hgrow hat
     obtain⟨us',aaQ,hS',adD,adE,adF,adG⟩:=HG7.out.2.2
     have lZ:=hide (And.intro hS' (And.intro adD (And.intro adE (And.intro adF adG))))
     clear hS' adD adE adF adG
     go_wp2_with fail
     go_roundg (ps.length - (k+1))
     case measure=>omega
     case rel =>
      exact⟨k+1,acc++[⟨x.name,x.fields⟩],us',aaQ,some ⟨g7,0,none⟩,yD,by omega,rfl,by go_num,by rw[List.length_append,List.length_singleton,HAC.out],by rw[List.length_append,List.length_singleton];exact lZ.out.2.1,lZ.out.2.2.1,by rw[List.length_append,List.length_singleton];exact lZ.out.1,lZ.out.2.2.2.1,lZ.out.2.2.2.2,NC hlt HE.out Ll.out⟩
   ·have P7:Hid (kS s=.ok acc):=by rw[HX.out];exact NG (by omega) HE.out
    have hki:¬(k:Int)<(ps.length:Int):=by omega
    obtain⟨bs,hO,hnd,hfr⟩:=AQ.out.kg (by omega)
    have jG:Hid (∀xs,kS s=.ok xs→∃bs,pV (WR.setCell ⟨w.heap.size,0,none⟩ (.slice a1 acc.length iH)) (.slice a1 acc.length iH) xs bs∧bs.Nodup∧∀b∈bs,w.heap.size≤b):=fun xs hx=>by
     rw[P7.out] at hx
     injection hx with hx
     subst hx
     exact⟨bs,bS.kept iR hO (by rw[Deep.nblk_setCell];exact aS _) (fun c hc=>Deep.blk_setCell_other _ _ _ _ (by have:=hfr c hc;simp;omega)),hnd,fun b hb=>by have:=hfr b hb;omega⟩
    clear hO hnd hfr
    go_wp2_with fail
    exact bodyPost_ret (v:=.tuple #[.agg #[.slice a1 acc.length iH],.int .i64 0]) (by simp[results,Tryz.results8,go_sem,hq1,hq2,hq3]) rfl ⟨_,_,rfl,fun n hn=>(by rw[P7.out] at hn;cases hn),fun xs hx=>⟨rfl,jG.out xs hx⟩,hq4.setCell (by simp) _⟩
theorem PG (s:ByteArray) (w:World) (hs:s.size≤1048576) (hm:Mx w):Calls Tryz.prog 8 #[.string s] w (qG w (kS s)):=by
 by_cases hc:jX s=0
 ·obtain⟨h1,h2,h3⟩:=WZ hc
  exact MB s w h1 h2 h3 hm hc
 ·exact Mv s w hs hm hc
theorem fA.eG {w:World} {xs:List Seg} {e:Ending} {w':World} (h:fA w xs e w'):lQ w xs e w' :=
 let ⟨u,he,bs,hO,_,hf,hb⟩:=h
 ⟨u,he,bS.pO sW hO hf,hb⟩
theorem PI (n:Int) (h0:0≤n) (h1:n≤9223372036854775807) (w:World) (hT:Lib.TabIs Tryz.prog w "internal/strconv.uint64pow10" .u64 Lib.pow10Tab) :
  Calls Tryz.prog 100 #[.int .i64 n] w fun e w'=>e=.returned (.string (bR n.toNat))∧Below w.heap.size w w':=by
 refine(Tryz.strconv_Itoa n (by omega) h1 w hT).mono fun e w' ⟨h,k,os,h2⟩=>⟨?_,by subst h2;exact Lib.below_grow _ _ (aS _) _ _⟩
 rw[h]
 unfold Lib.itoa bR
 rw[if_neg (by omega)]
theorem ltP (a b c d:Value) (w:World):(Go.method 350 120 (.agg #[a,b,c,d]) "loop.example/s01639/impl.lacks").run Tryz.prog w=.ok (207,.agg #[a,b,c,d]) w:=by kernel_rfl
theorem wtP (a b c d:Value) (w:World):(Go.method 350 120 (.agg #[a,b,c,d]) "loop.example/s01639/impl.write").run Tryz.prog w=.ok (208,.agg #[a,b,c,d]) w:=by kernel_rfl
theorem ltE (a b c d:Value) (w:World):(Go.method 350 122 (.agg #[a,b,c,d]) "loop.example/s01639/impl.lacks").run Tryz.prog w=.ok (211,.agg #[a,b,c,d]) w:=by kernel_rfl
theorem wtE (a b c d:Value) (w:World):(Go.method 350 122 (.agg #[a,b,c,d]) "loop.example/s01639/impl.write").run Tryz.prog w=.ok (212,.agg #[a,b,c,d]) w:=by kernel_rfl
theorem adH:∀args w,(callFunc 207 args).run Tryz.prog w=.ok (.enter 207 args) w:=enters_of Tryz.func207 (by kernel_rfl) rfl
theorem afF:∀args w,(callFunc 208 args).run Tryz.prog w=.ok (.enter 208 args) w:=enters_of Tryz.func208 (by kernel_rfl) rfl
theorem adI:∀args w,(callFunc 211 args).run Tryz.prog w=.ok (.enter 211 args) w:=enters_of Tryz.func211 (by kernel_rfl) rfl
theorem afG:∀args w,(callFunc 212 args).run Tryz.prog w=.ok (.enter 212 args) w:=enters_of Tryz.func212 (by kernel_rfl) rfl
theorem FD (w w':World) (a:Option Addr) (c:Nat) (hb:Below w.heap.size w w'):lQ w [] (.returned (.agg #[.slice a 0 c])) w':=⟨_,rfl,⟨by simp,.inl ⟨a,c,rfl,rfl⟩⟩,hb⟩
set_option maxRecDepth 100000 in
set_option maxHeartbeats 4000000 in
theorem yE (T fl fw:Nat) (av:Value) (xs:List Seg) (w:World) (m1:∀w,(Go.method 350 T av "loop.example/s01639/impl.lacks").run Tryz.prog w=.ok (fl,av) w) (m2:∀w,(Go.method 350 T av "loop.example/s01639/impl.write").run Tryz.prog w=.ok (fw,av) w)
  (hl:∀W,Below w.heap.size w W→Calls Tryz.prog fl #[av] W fun e w'=>e=.returned .nilIface∧Below W.heap.size W w') (hw:∀W,Below w.heap.size w W→Calls Tryz.prog fw #[av] W (lQ W xs)) (hsz:aT xs≤1048576) (e1:∀args w,(callFunc fl args).run Tryz.prog w=.ok (.enter fl args) w) (e2:∀args w,(callFunc fw args).run Tryz.prog w=.ok (.enter fw args) w) :
  Calls Tryz.prog 22 #[.iface T av] w (lQ w (gq xs)):=by
 obtain⟨w1,hw1⟩:∃w1,w.alloc (Obj.cells #[.slice none 0 0] 28)=w1:=⟨_,rfl⟩
 have hb1:Below w.heap.size w w1:=by rw[←hw1];exact aO _ _
 have vE:Hid (aU w1 w.heap.size 28 #[.slice none 0 0]):=by rw[←hw1];exact aU.new _ _ _
 have l1:w.heap.size<w1.heap.size:=by rw[←hw1];simp
 have HL:=hide hl
 have HW:=hide hw
 clear hl hw
 go_enter Tryz.func22,Tryz.ntmps22
 go_wp2_with fail
 refine(HL.out _ hb1).mono ?_
 rintro e w2 ⟨rfl,hb2⟩
 have hB2:=aj hb2 hb1
 go_wp2_with fail
 refine(HW.out _ hB2).mono ?_
 rintro e w3 ⟨u,rfl,hS,hb3⟩
 obtain⟨a,c,rfl,_⟩:=hS.form
 have hB3:=aj hb3 hb2
 have hs2:=hb2.size
 have hs3:=hB3.size
 obtain⟨w4,hw4⟩:∃w4,w3.alloc (Obj.cells #[.slice a xs.length c] 28)=w4:=⟨_,rfl⟩
 have hb4:Below w3.heap.size w3 w4:=by rw[←hw4];exact aO _ _
 have HM4:Hid (aU w4 w3.heap.size 28 #[.slice a xs.length c]):=by rw[←hw4];exact aU.new _ _ _
 have d4:w4.cell? ⟨w3.heap.size,0,none⟩=some (.slice a xs.length c):=HM4.out.cell 0 (by simp)
 have QD:=hide (At.kept bA hS hb4)
 have o7:=hide (aj hb4 hB3)
 clear hS hb3 hB3 hb4
 go_wp2_with fail
 refine(uX xs _ _ hsz QD.out).mono ?_
 rintro e w5 ⟨rfl,hb5⟩
 have Av:=hide (aj hb5 o7.out)
 have Np:=hide (vE.out.below Av.out)
 have d5:w5.cell? ⟨w3.heap.size,0,none⟩=some (.slice a xs.length c):=(HM4.out.below hb5).cell 0 (by simp)
 have r0:w5.cell? ⟨w.heap.size,0,none⟩=some (.slice none 0 0):=Np.out.cell 0 (by simp)
 have rf:w5.frozen? ⟨w.heap.size,0,none⟩=false:=Np.out.frozen 0
 have rl:w.heap.size<w5.heap.size:=Np.out.lt
 have Yc:=hide (At.kept bA QD.out hb5)
 have HSF:Hid (∀x,aX w.heap.size (w5.setCell ⟨w.heap.size,0,none⟩ x) (.slice a xs.length c) xs):=fun x =>
  At.mono qy (At.same bA Yc.out ⟨by rw[Deep.nblk_setCell];exact aS _,fun b h1 h2=>Deep.blk_setCell_other _ ⟨w.heap.size,0,none⟩ _ b (by dsimp only;omega)⟩) (by omega)
 have jH:Hid (∀x,Below w.heap.size w (w5.setCell ⟨w.heap.size,0,none⟩ x)):=fun x=>(aj Av.out hb1).setCell (p:=⟨w.heap.size,0,none⟩) (aS _) x
 clear hb5 hs2 hs3 d4
 have hbb:dW xs=true∨dW xs=false:=by cases dW xs;exact .inr rfl;exact .inl rfl
 rcases hbb with hbb|hbb
 ·have Wp:Hid (gq xs=xs):=by unfold gq;rw[hbb];exact rfl
  rw[hbb]
  clear hbb
  go_wp2_with fail
  exact bodyPost_ret (v:=.agg #[.slice a xs.length c]) (by simp[results,Tryz.results22,go_sem,r0,rl]) rfl (by rw[Wp.out];exact⟨_,rfl,HSF.out _,jH.out _⟩)
 ·have Wp:Hid (gq xs=[]):=by unfold gq;rw[hbb];exact rfl
  rw[hbb]
  clear hbb
  go_wp2_with fail
  exact bodyPost_ret (v:=.agg #[.slice none 0 0]) (by simp[results,Tryz.results22,go_sem,r0,rl]) rfl (by rw[Wp.out];exact FD _ _ _ _ (jH.out _))
set_option maxRecDepth 100000 in
set_option maxHeartbeats 2000000 in
theorem yF (T fl:Nat) (av:Value) (c:Int) (w:World) (m1:∀w,(Go.method 350 T av "loop.example/s01639/impl.lacks").run Tryz.prog w=.ok (fl,av) w)
  (hl:∀W,Below w.heap.size w W→Calls Tryz.prog fl #[av] W fun e w'=>e=.returned (sD c)∧Below W.heap.size W w') (e1:∀args w,(callFunc fl args).run Tryz.prog w=.ok (.enter fl args) w) :
  Calls Tryz.prog 22 #[.iface T av] w (lQ w []):=by
 obtain⟨w1,hw1⟩:∃w1,w.alloc (Obj.cells #[.slice none 0 0] 28)=w1:=⟨_,rfl⟩
 have hb1:Below w.heap.size w w1:=by rw[←hw1];exact aO _ _
 have vE:Hid (aU w1 w.heap.size 28 #[.slice none 0 0]):=by rw[←hw1];exact aU.new _ _ _
 have HL:=hide hl
 clear hl
 go_enter Tryz.func22,Tryz.ntmps22
 go_wp2_with fail
 refine(HL.out _ hb1).mono ?_
 rintro e w2 ⟨rfl,hb2⟩
 dsimp only[sD]
 have HR2:=hide (vE.out.below hb2)
 have c2:w2.cell? ⟨w.heap.size,0,none⟩=some (.slice none 0 0):=HR2.out.cell 0 (by simp)
 have f2:w2.frozen? ⟨w.heap.size,0,none⟩=false:=HR2.out.frozen 0
 have l2:w.heap.size<w2.heap.size:=HR2.out.lt
 have jH:Hid (∀x,Below w.heap.size w (w2.setCell ⟨w.heap.size,0,none⟩ x)):=fun x=>(aj hb2 hb1).setCell (p:=⟨w.heap.size,0,none⟩) (aS _) x
 clear hb2
 go_wp2_with fail
 exact bodyPost_ret (v:=.agg #[.slice none 0 0]) (by simp[results,Tryz.results22,go_sem,c2,l2]) rfl (FD _ _ _ _ (jH.out _))
theorem aaU (r:jM) (a:Option Addr) (c:Nat) (w:World) {lo:Nat} (h0:r.ack.size≤1048576) (h1:r.control.size≤1048576) (h2:r.tag.size≤1048576) (h3:r.pointer.size≤1048576) (hv:bq lo w (.slice a r.rows.length c) r.rows) (hE:Env w) :
  Calls Tryz.prog 22 #[pR r (.slice a r.rows.length c)] w (lQ w (fE r)):=by
 unfold pR
 rcases LA r with hk|hk|hk
 ·rw[hk]
  have:fE r=[]:=by unfold fE;rw[ok_none hk];rfl
  rw[this]
  exact(Ar w).mono fun e w' h=>h.eG
 ·rw[hk]
  obtain⟨ha,hc,hok⟩:=VT hk
  have hsp:lJ r=kH r.control r.tag r.rows r.pointer:=by unfold lJ;rw[ha];rfl
  have Qa:=fun W (h:Below w.heap.size w W)=>Ed r.control r.tag r.pointer r.rows (.slice a r.rows.length c) W (lo:=lo) (by omega) (by omega) (by omega) (At.kept bE hv h)
  cases hL:uw r.control r.tag r.rows r.pointer with
  | some k =>
   rw[hL] at hok Qa
   have:fE r=[]:=by unfold fE;rw[hok];rfl
   rw[this]
   exact yF _ _ _ k w (fun W=>ltP _ _ _ _ W) Qa adH
  | none =>
   rw[hL] at hok Qa
   have hM:fE r=gq (kH r.control r.tag r.rows r.pointer):=by unfold fE;rw[hok,hsp];rfl
   have hparts:fB r.control r.tag=true∧lH r.rows 200=true∧aW r.pointer=true:=by
    unfold uw at hL
    split at hL
    ·rename_i h;simpa [Bool.and_eq_true] using h
    ·cases hL
   rw[hM]
   obtain⟨q1,q2⟩:=Gg hparts.2.1
   exact yE _ _ _ _ _ w (fun W=>ltP _ _ _ _ W) (fun W=>wtP _ _ _ _ W) Qa (fun W h=>Eo r.control r.tag r.pointer r.rows a c W (lo:=lo) h1 h2 h3 q1 (fun s hs=>Nat.le_trans (q2 s hs) (by decide)) (At.kept bE hv h)) (Jt hparts.1 hparts.2.1 hparts.2.2) adH afF
 ·rw[hk]
  obtain⟨ha,hc,hok⟩:=ZB hk
  have hsp:lJ r=nU r.ack r.control r.tag (bR r.code.toNat):=by unfold lJ;rw[ha];rfl
  have Qa:=fun W (h:Below w.heap.size w W)=>Cw r.ack r.control r.tag r.code W (by omega) (by omega)
  cases hL:mX r.control r.code r.tag with
  | some k =>
   rw[hL] at hok Qa
   have:fE r=[]:=by unfold fE;rw[hok];rfl
   rw[this]
   exact yF _ _ _ k w (fun W=>ltE _ _ _ _ W) Qa adI
  | none =>
   rw[hL] at hok Qa
   have hM:fE r=gq (nU r.ack r.control r.tag (bR r.code.toNat)):=by unfold fE;rw[hok,hsp];rfl
   have hparts:fB r.control r.tag=true∧1≤r.code∧r.code≤999:=by
    unfold mX at hL
    split at hL
    ·rename_i h;simpa [Bool.and_eq_true] using h
    ·cases hL
   rw[hM]
   have hd:=wQ r.code.toNat (by omega)
   exact yE _ _ _ _ _ w (fun W=>ltE _ _ _ _ W) (fun W=>wtE _ _ _ _ W) Qa (fun W h=>(CF r.ack r.control r.tag (bR r.code.toNat) r.code W h0 h1 h2 (by omega) (hide fun V hV=>PI r.code (by omega) (by omega) V (Je hV (hE.kept h).tab))).mono fun e w' q=>q.eG) (Nb hparts.1 (by have:=Sm hc;omega) (by omega)) adI afG
set_option maxRecDepth 100000 in
set_option maxHeartbeats 4000000 in
theorem wz (r:jM) (a:Option Addr) (c:Nat) (w:World) {lo:Nat} (h0:r.ack.size≤1048576) (h1:r.control.size≤1048576) (h2:r.tag.size≤1048576) (h3:r.pointer.size≤1048576) (hl:r.rows.length≤9223372036854775807) (hv:bq lo w (.slice a r.rows.length c) r.rows) (hE:Env w) :
  Calls Tryz.prog 12 #[gU r (.slice a r.rows.length c)] w (lQ w (fE r)):=by
 have GY:=hide (fun W=>Jq r a c W hl)
 have Uv:=hide (fun W (h:Below w.heap.size w W)=>aaU r a c W (lo:=lo) h0 h1 h2 h3 (At.kept bE hv h) (hE.kept h))
 obtain⟨xs,hxs⟩:∃xs,fE r=xs:=⟨_,rfl⟩
 rw[hxs] at Uv ⊢
 obtain⟨lv,hlv⟩:∃lv,pR r (.slice a r.rows.length c)=lv:=⟨_,rfl⟩
 rw[hlv] at GY Uv
 clear hxs hlv hv hE
 obtain⟨ack,control,code,tag,rows,pointer⟩:=r
 unfold gU at GY ⊢
 dsimp only at GY Uv h0 h1 h2 h3 hl ⊢
 obtain⟨x1,hx1⟩:∃x1,w.alloc (Obj.cells #[.string ack,.string control,.int .i64 code,.string tag,.slice a rows.length c,.string pointer] 38)=x1:=⟨_,rfl⟩
 obtain⟨w1,hw1⟩:∃w1,x1.alloc (Obj.cells #[.slice none 0 0] 28)=w1:=⟨_,rfl⟩
 have bN:x1.heap.size=w.heap.size+1:=by rw[←hx1];simp
 have dG:w1.heap.size=w.heap.size+1+1:=by rw[←hw1];simp[bN]
 have bx1:Below w.heap.size w x1:=by rw[←hx1];exact aO _ _
 have dV:Below x1.heap.size x1 w1:=by rw[←hw1];exact aO _ _
 have HP:Hid (aU w1 w.heap.size 38 #[.string ack,.string control,.int .i64 code,.string tag,.slice a rows.length c,.string pointer]):=by rw[←hw1,←hx1];exact(aU.new _ _ _).alloc _
 have vE:Hid (aU w1 (w.heap.size+1) 28 #[.slice none 0 0]):=by rw[←hw1,←bN];exact aU.new _ _ _
 have HB1:=hide (aJ dV bx1)
 refine Ba HP.out ?_
 rintro _ ⟨⟨z0,z1,z2,z3,z4,z5⟩,-⟩
 have wZ:=hide dG
 clear bx1 dV dG
 go_enter Tryz.func12,Tryz.ntmps12
 go_wp2_with fail
 refine(GY.out _).mono ?_
 rintro e w2 ⟨rfl,hb2⟩
 have HB2:=hide (aJ hb2 HB1.out)
 have HR2:=hide (vE.out.below hb2)
 clear z0 z1 z2 z3 z4 z5 hb2
 go_wp2_with fail
 refine(Uv.out _ HB2.out).mono ?_
 rintro e w3 ⟨u,rfl,hS,hb3⟩
 obtain⟨a3,c3,rfl,_⟩:=hS.form
 have HR3:=hide (HR2.out.below hb3)
 have r0:w3.cell? ⟨w.heap.size+1,0,none⟩=some (.slice none 0 0):=HR3.out.cell 0 (by simp)
 have rf:w3.frozen? ⟨w.heap.size+1,0,none⟩=false:=HR3.out.frozen 0
 have rl:w.heap.size+1<w3.heap.size:=HR3.out.lt
 have h2s:w.heap.size+1<w2.heap.size:=HR2.out.lt
 have HSF:Hid (∀x,aX w.heap.size (w3.setCell ⟨w.heap.size+1,0,none⟩ x) (.slice a3 xs.length c3) xs):=fun x =>
  At.mono qy (At.same bA hS ⟨by rw[Deep.nblk_setCell];exact aS _,fun b h1 h2=>Deep.blk_setCell_other _ ⟨w.heap.size+1,0,none⟩ _ b (by dsimp only;omega)⟩) (by omega)
 have jH:Hid (∀x,Below w.heap.size w (w3.setCell ⟨w.heap.size+1,0,none⟩ x)):=fun x=>(aj hb3 HB2.out).setCell (p:=⟨w.heap.size+1,0,none⟩) (Nat.le_succ _) x
 clear hS hb3
 go_wp2_with fail
 exact bodyPost_ret (v:=.agg #[.slice a3 xs.length c3]) (by simp[results,Tryz.results12,go_sem,r0,rl]) rfl ⟨_,rfl,HSF.out _,jH.out _⟩
def zy (w:World) (p:jM × Bool) (e:Ending) (w':World):Prop:=∃ar cr,e=.returned (.tuple #[gU p.1 (.slice ar p.1.rows.length cr),.bool p.2])∧FB sP 1 9 w.heap.size w' (.slice ar p.1.rows.length cr) p.1.rows∧Below w.heap.size w w'
theorem J8 {xs:List Seg} (h:encoded xs=⟨#[]⟩):lM xs=(yj,false):=by
 unfold lM
 exact if_neg fun h'=>h'.1 h
theorem TV {xs:List Seg} (h:¬encoded xs=encoded (fE (dQ xs))):lM xs=(yj,false):=by
 unfold lM
 exact if_neg fun h'=>h h'.2
theorem PK {xs:List Seg} (h1:encoded xs≠⟨#[]⟩) (h2:encoded xs=encoded (fE (dQ xs))):lM xs=(dQ xs,true):=by
 unfold lM
 exact if_pos ⟨h1,h2⟩
theorem Xc (r:jM):aT (fE r)≤1048576:=by
 unfold fE
 cases h:iD r
 ·simp[aT,aH,sumOf]
 ·have:=JA h
  simp only[if_true]
  unfold gq
  split
  ·exact this
  ·simp[aT,aH,sumOf]
theorem J9 (xs:List Seg):(encoded xs).size≤40000:=by
 cases h:dW xs
 ·rw[rE h];exact eH _
 ·rw[jI h]
  unfold dW at h
  simp only[Bool.and_eq_true,decide_eq_true_eq] at h
  show (iq xs).toArray.size≤40000
  simpa using h.2
theorem qw {X:World} {R:Nat} {tmps:Array Value} {t0 t1 t3 t5:ByteArray} {k2:Int} {ad:Option Addr} {ln cp:Nat} {x:Bool} (h2:tmps[2]?=some (.pointer (some ⟨R,0,none⟩))) (h3:tmps[3]?=some (.bool x)) (h:aU X R 38 #[.string t0,.string t1,.int .i64 k2,.string t3,.slice ad ln cp,.string t5]) :
  (results Tryz.f14 tmps).run Tryz.prog X=.ok (.tuple #[.agg #[.string t0,.string t1,.int .i64 k2,.string t3,.slice ad ln cp,.string t5],.bool x]) X:=by
 have c0:=h.cell 0 (by simp)
 have c1:=h.cell 1 (by simp)
 have c2:=h.cell 2 (by simp)
 have c3:=h.cell 3 (by simp)
 have c4:=h.cell 4 (by simp)
 have c5:=h.cell 5 (by simp)
 simp at c0 c1 c2 c3 c4 c5
 have hl:=h.lt
 simp[results,Tryz.results14,go_sem,h2,h3,c0,c1,c2,c3,c4,c5,hl]
theorem eq_of_toList {a b:ByteArray} (h:a.toList=b.toList):a=b:=by
 apply ByteArray.ext
 rw[ByteArray.toList_eq,ByteArray.toList_eq] at h
 exact Array.toList_inj.1 h
set_option maxRecDepth 100000 in
set_option maxHeartbeats 16000000 in
theorem yG (xs:List Seg) (a:Option Addr) (cap:Nat) (w:World) {lo:Nat} (hv:aX lo w (.slice a xs.length cap) xs) (hsz:aT xs≤1048576) (hE:Env w) :
  Calls Tryz.prog 14 #[.agg #[.slice a xs.length cap]] w (zy w (lM xs)):=by
 obtain⟨x1,hx1⟩:∃x1,w.alloc (Obj.cells #[.slice a xs.length cap] 28)=x1:=⟨_,rfl⟩
 obtain⟨w1,hw1⟩:∃w1,x1.alloc (Obj.cells #[.string ⟨#[]⟩,.string ⟨#[]⟩,.int .i64 0,.string ⟨#[]⟩,.slice none 0 0,.string ⟨#[]⟩] 38)=w1:=⟨_,rfl⟩
 have bN:x1.heap.size=w.heap.size+1:=by rw[←hx1];simp
 have dG:w1.heap.size=w.heap.size+1+1:=by rw[←hw1];simp[bN]
 have bx1:Below w.heap.size w x1:=by rw[←hx1];exact aO _ _
 have dV:Below x1.heap.size x1 w1:=by rw[←hw1];exact aO _ _
 have k0:w1.cell? ⟨w.heap.size,0,none⟩=some (.slice a xs.length cap):=(dV.cell (p:=⟨w.heap.size,0,none⟩) (by rw[bN];simp)).trans (by rw[←hx1];simp)
 have vE:Hid (aU w1 (w.heap.size+1) 38 #[.string ⟨#[]⟩,.string ⟨#[]⟩,.int .i64 0,.string ⟨#[]⟩,.slice none 0 0,.string ⟨#[]⟩]):=by rw[←hw1,←bN];exact aU.new _ _ _
 have HB1:=hide (aJ dV bx1)
 have F4:=hide (At.kept bA hv HB1.out)
 have KM:Hid (∀X,Below w1.heap.size w1 X→X.cell? ⟨w.heap.size,0,none⟩=some (.slice a xs.length cap)):=fun X h=>(h.cell (p:=⟨w.heap.size,0,none⟩) (by rw[dG];dsimp only;omega)).trans k0
 have Yg:=hide (fun W (h:Below w1.heap.size w1 W)=>mh xs (.slice a xs.length cap) W (lo:=lo) hsz (At.kept bA F4.out h))
 have Ah:=hide (fun W (h:Below w1.heap.size w1 W)=>Mt xs a cap W (lo:=lo) (At.kept bA F4.out h) hsz ((hE.kept HB1.out).kept h))
 have HES:=J9 xs
 have Ka:Hid ((dQ xs).ack.size≤1048576∧(dQ xs).control.size≤1048576∧(dQ xs).tag.size≤1048576∧(dQ xs).pointer.size≤1048576∧(dQ xs).rows.length≤1048576∧∀s∈(dQ xs).rows,s.size≤1048576) :=
  ⟨Nat.le_trans (bK xs _ _ _) hsz,Nat.le_trans (bK xs _ _ _) hsz,Nat.le_trans (bK xs _ _ _) hsz,Nat.le_trans (bK xs _ _ _) hsz,Nat.le_trans (Di xs) (by unfold aT aH at hsz;omega),zm hsz⟩
 have HEV:=hide (fun W (h:Below w1.heap.size w1 W)=>(hE.kept HB1.out).kept h)
 have NS:=hide (J8 (xs:=xs))
 have HRN:=hide (TV (xs:=xs))
 have zY:=hide (PK (xs:=xs))
 obtain⟨lr,hlr⟩:∃r,dQ xs=r:=⟨_,rfl⟩
 rw[hlr] at Ah Ka HRN zY
 obtain⟨en,hen⟩:∃e,encoded xs=e:=⟨_,rfl⟩
 rw[hen] at Yg HES NS HRN zY
 obtain⟨P,hP⟩:∃P,lM xs=P:=⟨_,rfl⟩
 rw[hP] at NS HRN zY ⊢
 have wZ:=hide dG
 have HW1:Hid ((w.alloc (Obj.cells #[.slice a xs.length cap] 28)).alloc (Obj.cells #[.string ⟨#[]⟩,.string ⟨#[]⟩,.int .i64 0,.string ⟨#[]⟩,.slice none 0 0,.string ⟨#[]⟩] 38)=w1):=by rw[hx1];exact hw1
 have Yh:Hid (∀W,Below w1.heap.size w1 W→P=(yj,false)→zy w P (.returned (.tuple #[.agg #[.string ⟨#[]⟩,.string ⟨#[]⟩,.int .i64 0,.string ⟨#[]⟩,.slice none 0 0,.string ⟨#[]⟩],.bool false])) ((((((W.setCell ⟨w.heap.size+1,0,none⟩ (.string ⟨#[]⟩)).setCell ⟨w.heap.size+1,1,none⟩ (.string ⟨#[]⟩)).setCell ⟨w.heap.size+1,2,none⟩ (.int .i64 0)).setCell ⟨w.heap.size+1,3,none⟩ (.string ⟨#[]⟩)).setCell ⟨w.heap.size+1,4,none⟩ (.slice none 0 0)).setCell ⟨w.heap.size+1,5,none⟩ (.string ⟨#[]⟩))):=fun W h e=>by
  rw[e]
  exact⟨none,0,rfl,FB.nil _ _ _ _ _,jO (aJ h HB1.out) (Nat.le_succ _) _ _ _ _ _ _⟩
 clear hlr hen hP hx1 hw1 bN dG bx1 dV hv hsz hE
 go_enter Tryz.func14,Tryz.ntmps14
 go_wp2_with fail
 rw[HW1.out]
 refine(Yg.out _ (Below.refl _ _)).mono ?_
 rintro e w2 ⟨rfl,hb2⟩
 have HB2:=hide hb2
 have HR2:=hide (vE.out.below hb2)
 have km2:=KM.out w2 hb2
 refine Ba HR2.out ?_
 rintro _ ⟨⟨q0,q1,q2,q3,q4,q5⟩,f0,f1,f2,f3,f4,f5⟩
 have hRl:w.heap.size+1<w2.heap.size:=HR2.out.lt
 clear hb2 k0
 by_cases he0:en.size=0
 ·obtain⟨p1,p2,p3⟩:=mU he0
  have HX:Hid (P=(yj,false)):=NS.out (ByteArray.ext (Array.eq_empty_of_size_eq_zero he0))
  clear he0 p1 km2
  go_wp2_with fail
  exact bodyPost_ret (qw (R:=w.heap.size+1) rfl rfl (HR2.out.yt _ _ _ _ _ _)) rfl (Yh.out _ HB2.out HX.out)
 ·obtain⟨p1,p2,p3⟩:=oW he0
  have K5:Hid (en≠⟨#[]⟩):=fun h=>he0 (by rw[h];rfl)
  clear he0
  go_wp2_with fail
  refine(Ah.out _ HB2.out).mono ?_
  rintro e w3 ⟨ar,cr,rfl,hF,hb3⟩
  obtain⟨ack,control,code,tag,rows,pointer⟩:=lr
  unfold gU
  dsimp only at Ka hF ⊢
  have HB3:=hide (aj hb3 HB2.out)
  have HR3:=hide (HR2.out.below hb3)
  obtain⟨nr,hnr⟩:∃n,rows.length=n:=⟨_,rfl⟩
  have sF:=hide hnr
  rw[hnr] at hF ⊢
  have HF3:=hide hF
  obtain⟨w4,hw4⟩:∃w4,w3.alloc (Obj.cells #[.string ack,.string control,.int .i64 code,.string tag,.slice ar nr cr,.string pointer] 38)=w4:=⟨_,rfl⟩
  have hb4:Below w3.heap.size w3 w4:=by rw[←hw4];exact aO _ _
  have adJ:Hid (aU w4 w3.heap.size 38 #[.string ack,.string control,.int .i64 code,.string tag,.slice ar nr cr,.string pointer]):=by rw[←hw4];exact aU.new _ _ _
  have o7:=hide (aj hb4 HB3.out)
  have Zi:=hide (hF.below hb4)
  have HR4:=hide (HR3.out.below hb4)
  have Ph:=hide (A9 Zi.out (by have:=Ka.out.2.2.2.2.1;omega) (fun s hs=>Nat.le_trans (Ka.out.2.2.2.2.2 s hs) (by decide)))
  have DK:=hide (wz ⟨ack,control,code,tag,rows,pointer⟩ ar cr w4 (lo:=w2.heap.size) Ka.out.1 Ka.out.2.1 Ka.out.2.2.1 Ka.out.2.2.2.1 (by have:=Ka.out.2.2.2.2.1;dsimp only;omega) (by show bq _ w4 (.slice ar rows.length cr) rows;rw[hnr];exact Ph.out) (HEV.out _ o7.out))
  obtain⟨ys,hys⟩:∃ys,fE ⟨ack,control,code,tag,rows,pointer⟩=ys:=⟨_,rfl⟩
  have HYZ:Hid (aT ys≤1048576):=by rw[←hys];exact Xc _
  rw[hys] at DK HRN zY
  unfold gU at DK
  dsimp only at DK
  rw[hnr] at DK
  refine Ba adJ.out ?_
  rintro _ ⟨⟨z0,z1,z2,z3,z4,z5⟩,-⟩
  clear hF hb3 hb4 hnr q0 q1 q2 q3 q4 q5 f0 f1 f2 f3 f4 f5 hRl hys km2
  go_wp2_with fail
  refine DK.out.mono ?_
  rintro e w5 ⟨u,rfl,hS5,hb5⟩
  have Yc:=hide hS5
  have Av:=hide (aj hb5 o7.out)
  have Jm:=hide (adJ.out.below hb5)
  have HF5:=hide (Zi.out.below hb5)
  have ahE:=hide (J9 ys)
  clear hS5 hb5 z0 z1 z2 z3 z4 z5
  go_wp2_with fail
  refine(mh ys u w5 HYZ.out Yc.out).mono ?_
  rintro e w6 ⟨rfl,hb6⟩
  have Jz:=hide (aj hb6 Av.out)
  have aaT:=hide (Jm.out.below hb6)
  have HF6:=hide (HF5.out.below hb6)
  have TL:=hide (vE.out.below Jz.out)
  refine Ba aaT.out ?_
  rintro _ ⟨⟨z0,z1,z2,z3,z4,z5⟩,-⟩
  refine Ba TL.out ?_
  rintro _ ⟨⟨q0,q1,q2,q3,q4,q5⟩,f0,f1,f2,f3,f4,f5⟩
  have hRl:w.heap.size+1<w6.heap.size:=TL.out.lt
  obtain⟨e2,he2⟩:∃e,encoded ys=e:=⟨_,rfl⟩
  rw[he2] at HRN zY ⊢
  clear hb6 he2
  by_cases heq:en.toList=e2.toList
  ·have hq1:(en.toList == e2.toList)=true:=by rw[heq];exact beq_self_eq_true _
   have hq2:(!(en.toList == e2.toList))=false:=by rw[hq1];rfl
   have HX:=hide (zY.out K5.out (eq_of_toList heq))
   clear p1 p2 p3
   go_wp2_with fail
   refine bodyPost_ret (v:=.tuple #[.agg #[.string ack,.string control,.int .i64 code,.string tag,.slice ar nr cr,.string pointer],.bool true]) (qw (R:=w.heap.size+1) rfl rfl (TL.out.yt _ _ _ _ _ _)) rfl ?_
   rw[HX.out]
   refine⟨ar,cr,by unfold gU;dsimp only;rw[sF.out],?_,jO (aJ Jz.out HB1.out) (Nat.le_succ _) _ _ _ _ _ _⟩
   show FB sP 1 9 w.heap.size _ (.slice ar rows.length cr) rows
   rw[sF.out]
   have hsw:=wZ.out
   have hw2:=HB2.out.size
   refine FB.mono (FB.keep HF6.out fun b hb=>?_) (by omega)
   have:=(HF6.out.own b hb).1
   iterate 6 (refine(Deep.blk_setCell_other _ _ _ _ (by dsimp only;omega)).trans ?_)
   rfl
  ·have hq1:(en.toList == e2.toList)=false:=by
    cases hh:(en.toList == e2.toList)
    ·rfl
    ·exact absurd (eq_of_beq hh) heq
   have hq2:(!(en.toList == e2.toList))=true:=by rw[hq1];rfl
   have HX:Hid (P=(yj,false)):=HRN.out fun h=>heq (by rw[h])
   clear p1 p2 p3
   go_wp2_with fail
   exact bodyPost_ret (qw (R:=w.heap.size+1) rfl rfl (TL.out.yt _ _ _ _ _ _)) rfl (Yh.out _ Jz.out HX.out)
end Go.Proofs.YtfdihjnlgdiioaaGreatDoor.dB
