import Derived.Test.YtglcdcekkglmiaaGreatDoorG8
import Derived.Test.YtglcdcekkglmiaaGreatDoorShelf
import Derived.Lib.Builder
import Derived.Test.YtglcdcekkglmiaaGreatDoorG1
import Derived.BigQuiet
import Derived.Deep.RegionHeld3
namespace Go.Proofs.YtglcdcekkglmiaaGreatDoor.Msg
set_option linter.unusedVariables false
set_option linter.unusedSimpArgs false
def unmC (L:List UInt8):Nat→List UInt8
 | 0=>[]
 | k+1=>unmC L k++(L.drop (32 * k)).take 31
def plainU (L:List UInt8):Nat→List UInt8
 | 0=>[]
 | i+1=>plainU L i++[L.getD (i / 31 * 32+i % 31) 0]
theorem plainU_length (L:List UInt8):∀i,(plainU L i).length=i
 | 0=>rfl
 | i+1=>by simp[plainU,plainU_length L i]
theorem plainU_run (L:List UInt8) (k:Nat):∀c,c≤31→32 * k+c≤L.length→plainU L (31 * k+c)=plainU L (31 * k)++(L.drop (32 * k)).take c
 | 0,_,_=>by simp
 | c+1,hc,hl=>by
  have ih:=plainU_run L k c (by omega) (by omega)
  show plainU L (31 * k+c+1)=_
  conv=>lhs;unfold plainU
  have e:(31 * k+c) / 31 * 32+(31 * k+c) % 31=32 * k+c:=by omega
  rw[e,ih,List.append_assoc,List.take_succ_eq_append_getElem (by rw[List.length_drop];omega),List.getElem_drop,List.getD_eq_getElem?_getD,List.getElem?_eq_getElem (by omega)]
  rfl
theorem plain_eq (L:List UInt8):∀k,32 * k≤L.length→plainU L (31 * k)=unmC L k
 | 0,_=>rfl
 | k+1,h=>by
  have ih:=plain_eq L k (by omega)
  have:=plainU_run L k 31 (by omega) (by omega)
  rw[show 31 * (k+1)=31 * k+31 by omega,this,ih]
  rfl
theorem unmC_length (L:List UInt8) (k:Nat) (h:32 * k≤L.length):(unmC L k).length=31 * k:=by rw[←plain_eq L k h,plainU_length]
def sizeL (L:List UInt8):Nat:=(L.getD 0 0).toNat+(L.getD 1 0).toNat * 256+(L.getD 2 0).toNat * 65536
theorem sizeL_le (L:List UInt8):sizeL L≤16777215:=by
 have h0:=(L.getD 0 0).toNat_lt
 have h1:=(L.getD 1 0).toNat_lt
 have h2:=(L.getD 2 0).toNat_lt
 unfold sizeL
 omega
def textL (L:List UInt8):List UInt8:=((unmC L (sectN (sizeL L))).drop 3).take (sizeL L)
theorem textL_length (L:List UInt8) (h:32 * sectN (sizeL L)≤L.length):(textL L).length=sizeL L:=by
 unfold textL
 rw[List.length_take,List.length_drop,unmC_length L _ h]
 unfold sectN
 omega
def recText (I:ByteArray):ByteArray:=⟨(textL I.data.toList).toArray⟩
theorem recText_size (I:ByteArray) (h:32 * sectN (sizeL I.data.toList)≤I.size):(recText I).size=sizeL I.data.toList:=by
 show (textL I.data.toList).toArray.size=_
 rw[List.size_toArray,textL_length _ (by simpa using h)]
def firstB (I:ByteArray):Option (ByteArray × Nat) :=
 if I.size<32 then none
 else if I.size<32 * sectN (sizeL I.data.toList) then none
 else if (recB (recText I)).toList == (I.extract 0 (32 * sectN (sizeL I.data.toList))).toList then some (recText I,32 * sectN (sizeL I.data.toList)) else none
theorem toList_length (s:ByteArray):s.toList.length=s.size:=by rw[ByteArray.toList_eq];simp
theorem firstB_big (I:ByteArray) (h:60000<sizeL I.data.toList):firstB I=none:=by
 unfold firstB
 split
 ·rfl
 split
 ·rfl
 ·rename_i h1 h2
  rw[if_neg]
  intro e
  have e:=congrArg List.length (eq_of_beq e)
  rw[toList_length,toList_length,ByteArray.size_extract] at e
  have h3:recB (recText I)=⟨#[]⟩:=by
   unfold recB
   rw[if_neg (by rw[recText_size I (by omega)];omega)]
  rw[h3] at e
  have:(⟨#[]⟩:ByteArray).size=0:=rfl
  have h4:1≤sectN (sizeL I.data.toList):=by unfold sectN;omega
  omega
theorem firstB_some {I:ByteArray} {t:ByteArray} {k:Nat} (h:firstB I=some (t,k)):32≤k∧k≤I.size∧t.size≤60000:=by
 by_cases hb:60000<sizeL I.data.toList
 ·rw[firstB_big I hb] at h;cases h
 unfold firstB at h
 split at h
 ·cases h
 split at h
 ·cases h
 split at h
 ·rename_i h1 h2 h3
  injection h with h
  injection h with ht hk
  have h4:1≤sectN (sizeL I.data.toList):=by unfold sectN;omega
  refine⟨by omega,by omega,?_⟩
  rw[←ht,recText_size I (by omega)]
  omega
 ·cases h
def endOf (l:List (ByteArray × Nat)):Nat:=(l.getLast?.map (·.2)).getD 0
def recsK (img:ByteArray):Nat→List (ByteArray × Nat)
 | 0=>[]
 | k+1=>match firstB (img.extract (endOf (recsK img k)) img.size) with
  | some p=>recsK img k++[(p.1,endOf (recsK img k)+p.2)]
  | none=>recsK img k
theorem endOf_snoc (l:List (ByteArray × Nat)) (t:ByteArray) (n:Nat):endOf (l++[(t,n)])=n:=by simp[endOf]
theorem recsK_yes {img:ByteArray} {k:Nat} {t:ByteArray} {n:Nat} (h:firstB (img.extract (endOf (recsK img k)) img.size)=some (t,n)):recsK img (k+1)=recsK img k++[(t,endOf (recsK img k)+n)]:=by
 conv=>lhs;unfold recsK
 rw[h]
theorem recsK_no {img:ByteArray} {k:Nat} (h:firstB (img.extract (endOf (recsK img k)) img.size)=none):∀j,recsK img (k+j)=recsK img k
 | 0=>rfl
 | j+1=>by
  have ih:=recsK_no h j
  show recsK img (k+j+1)=_
  conv=>lhs;unfold recsK
  rw[ih,h]
theorem recsK_len (img:ByteArray):∀k,(recsK img k).length≤k∧32 * (recsK img k).length≤endOf (recsK img k)∧endOf (recsK img k)≤img.size∧∀p∈recsK img k,p.1.size≤60000∧p.2≤img.size
 | 0=>⟨leR _,leR _,zrL _,fun p hp=>by simp[recsK] at hp⟩
 | k+1=>by
  obtain⟨h1,h2,h3,h4⟩:=recsK_len img k
  cases hf:firstB (img.extract (endOf (recsK img k)) img.size) with
  | none=>rw[recsK_no hf 1];exact⟨by omega,h2,h3,h4⟩
  | some p =>
   obtain⟨t,n⟩:=p
   obtain⟨g1,g2,g3⟩:=firstB_some hf
   rw[ByteArray.size_extract] at g2
   rw[recsK_yes hf,endOf_snoc]
   refine⟨by simp;omega,by simp;omega,by omega,fun p hp=>?_⟩
   rcases List.mem_append.1 hp with hp|hp
   ·exact h4 p hp
   ·simp only[List.mem_singleton] at hp
    subst hp
    exact⟨g3,by simp only;omega⟩
def recsA (img:ByteArray):List (ByteArray × Nat):=recsK img img.size
theorem recsA_of {img:ByteArray} {k:Nat} (hk:k≤img.size) (h:firstB (img.extract (endOf (recsK img k)) img.size)=none):recsA img=recsK img k:=by
 unfold recsA
 have:=recsK_no h (img.size - k)
 rwa [show k+(img.size - k)=img.size by omega] at this
theorem recsK_full {img:ByteArray} {k:Nat} (h:(recsK img k).length=k):32 * k≤img.size:=by
 have:=recsK_len img k
 omega
theorem firstB_at_end (img:ByteArray) (n:Nat) (h:img.size<n+32):firstB (img.extract n img.size)=none:=by
 unfold firstB
 rw[if_pos (by rw[ByteArray.size_extract];omega)]
def firstL (L:List UInt8):Option (ByteArray × Nat):=firstB ⟨L.toArray⟩
theorem sectN_pos (n:Nat):1≤sectN n:=by unfold sectN;omega
theorem toList_mk (l:List UInt8):(⟨l.toArray⟩:ByteArray).toList=l:=by rw[ByteArray.toList_eq]
theorem firstL_mk {L:List UInt8} {k:Nat} (hk:k=32 * sectN (sizeL L)) (hl:k≤L.length) (hs:sizeL L≤60000) (he:recL (textL L)=L.take k):firstL L=some (⟨(textL L).toArray⟩,k):=by
 have hsz:(⟨L.toArray⟩:ByteArray).size=L.length:=by show L.toArray.size=_;simp
 have hp:=sectN_pos (sizeL L)
 have hts:(recText ⟨L.toArray⟩).size=sizeL L:=recText_size ⟨L.toArray⟩ (by rw[hsz];show 32 * sectN (sizeL L)≤_;omega)
 unfold firstL firstB
 rw[hsz,if_neg (by omega),if_neg (by show ¬L.length<32 * sectN (sizeL L);omega),if_pos]
 ·show some (recText ⟨L.toArray⟩,32 * sectN (sizeL L))=_
  rw[←hk]
  rfl
 ·show ((recB (recText ⟨L.toArray⟩)).toList == ((⟨L.toArray⟩:ByteArray).extract 0 (32 * sectN (sizeL L))).toList)=true
  rw[beq_iff_eq]
  unfold recB
  rw[if_pos (by rw[hts];exact hs),toList_mk]
  have e1:(recText ⟨L.toArray⟩).data.toList=textL L:=rfl
  rw[e1,he,hk,ByteArray.toList_eq]
  simp only[ByteArray.data_extract,Array.toList_extract,List.extract_eq_take_drop,List.drop_zero,Nat.sub_zero]
def mkAt (k:Nat):UInt8:=if k=0 then 65 else 66
theorem markU_prefix (P:List UInt8) (i:Nat):∀j,∃r,markU P (i+j)=markU P i++r
 | 0=>⟨[],by simp⟩
 | j+1=>by
  obtain⟨r,hr⟩:=markU_prefix P i j
  refine⟨r++([P.getD (i+j) 0]++(if (i+j) % 31=30 then [if i+j<31 then 65 else 66] else [])),?_⟩
  show markU P (i+j+1)=_
  conv=>lhs;unfold markU
  rw[hr]
  simp only[List.append_assoc]
theorem recL_sector (l:List UInt8) (k:Nat) (hk:k<sectN l.length) :
  ((recL l).drop (32 * k)).take 32=((paddedL (bodyL l)).drop (31 * k)).take 31++[mkAt k]:=by
 have hp:=padded_length (bodyL l)
 have hb:=bodyL_length l
 have hP:(paddedL (bodyL l)).length=31 * sectN l.length:=by rw[hp,hb];unfold sectN;omega
 unfold recL
 generalize hPP:paddedL (bodyL l)=P at *
 obtain⟨r,hr⟩:=markU_prefix P (31 * (k+1)) (P.length - 31 * (k+1))
 rw[show 31 * (k+1)+(P.length - 31 * (k+1))=P.length by omega] at hr
 have hs:=markU_sector P k (by omega)
 have hl:=markU_length P (31 * k)
 have e:(31 * k) / 31=k:=by omega
 rw[e] at hl
 rw[hr,hs]
 have h31:((P.drop (31 * k)).take 31).length=31:=by rw[List.length_take,List.length_drop];omega
 simp only[List.append_assoc]
 rw[List.drop_append_of_le_length (by omega),List.drop_of_length_le (by omega),List.nil_append,←List.append_assoc,List.take_append_of_le_length (by simp[h31]),List.take_of_length_le (by simp[h31])]
 rfl
theorem recL_plain (l:List UInt8) (r:List UInt8):∀k,k≤sectN l.length→unmC (recL l++r) k=(paddedL (bodyL l)).take (31 * k)
 | 0,_=>by simp[unmC]
 | k+1,hk=>by
  have hlen:=recL_length l
  unfold unmC
  rw[recL_plain l r k (by omega),List.drop_append_of_le_length (by omega),List.take_append_of_le_length (by rw[List.length_drop];omega)]
  have h:=recL_sector l k (by omega)
  have hp:=padded_length (bodyL l)
  have hb:=bodyL_length l
  have h31:(((paddedL (bodyL l)).drop (31 * k)).take 31).length=31:=by
   rw[List.length_take,List.length_drop,hp,hb]
   unfold sectN at hk
   omega
  have e:((recL l).drop (32 * k)).take 31=((paddedL (bodyL l)).drop (31 * k)).take 31:=by
   have e0:((recL l).drop (32 * k)).take 31=(((recL l).drop (32 * k)).take 32).take 31:=by rw[List.take_take,Nat.min_eq_left (by omega)]
   rw[e0,h,List.take_append_of_le_length (by omega),List.take_take,Nat.min_self]
  rw[e,←List.take_add]
  congr 1
theorem firstL_rec (l r:List UInt8) (hl:l.length≤60000):firstL (recL l++r)=some (⟨l.toArray⟩,32 * sectN l.length):=by
 have hlen:=recL_length l
 have hb:=bodyL_length l
 have hpl:=padded_length (bodyL l)
 have hp:=sectN_pos l.length
 have hplain:=recL_plain l r (sectN l.length) (leR _)
 have hfull:(paddedL (bodyL l)).take (31 * sectN l.length)=paddedL (bodyL l):=List.take_of_length_le (by rw[hpl,hb];unfold sectN;omega)
 rw[hfull] at hplain
 have h3:∀i,i<3→(recL l++r).getD i 0=(szL l.length).getD i 0:=fun i hi=>by
  have h:=recL_sector l 0 (by omega)
  have e:(((recL l).drop (32 * 0)).take 32)[i]?=(szL l.length)[i]?:=by
   rw[h,List.getElem?_append_left (by rw[List.length_take,List.length_drop,hpl,hb];omega),List.getElem?_take,if_pos (by omega),Nat.mul_zero,List.drop_zero]
   unfold paddedL bodyL
   rw[List.append_assoc,List.getElem?_append_left (by simp[szL];omega)]
  rw[List.getElem?_take,if_pos (by omega),Nat.mul_zero,List.drop_zero] at e
  rw[List.getD_eq_getElem?_getD,List.getElem?_append_left (by omega),e,List.getD_eq_getElem?_getD]
 have hsize:sizeL (recL l++r)=l.length:=by
  unfold sizeL
  rw[h3 0 (by omega),h3 1 (by omega),h3 2 (by omega)]
  simp only[szL,List.getD_cons_zero,List.getD_cons_succ]
  rw[UInt8.toNat_ofNat',UInt8.toNat_ofNat',UInt8.toNat_ofNat']
  omega
 have htext:textL (recL l++r)=l:=by
  unfold textL
  rw[hsize,hplain]
  unfold paddedL bodyL
  rw[List.append_assoc,List.drop_append_of_le_length (by simp[szL]),List.drop_of_length_le (by simp[szL]),List.nil_append,List.take_append_of_le_length (by omega),List.take_of_length_le (by omega)]
 have:=firstL_mk (L:=recL l++r) (k:=32 * sectN l.length) (by rw[hsize]) (by rw[List.length_append];omega) (by rw[hsize];exact hl) (by rw[htext,List.take_append_of_le_length (by omega),List.take_of_length_le (by omega)])
 rw[htext] at this
 exact this
end Go.Proofs.YtglcdcekkglmiaaGreatDoor.Msg
namespace Go.Proofs.YtglcdcekkglmiaaGreatDoor.Msg
open Go.ChangeShapes Go.WideShapes Go.ChangeAt Go.RowKit Go.Shelf
set_option linter.unusedVariables false
set_option linter.unusedSimpArgs false
theorem bld_size:(Tryz.prog.info? 68).map (·.size)=some 2:=by kernel_rfl
theorem bld_lies:liesAt Tryz.prog Tryz.prog.depth 68 (2 / Tryz.prog.cellsOf 68) 0 68 1=true:=by kernel_rfl
set_option maxHeartbeats 1000000 in
set_option maxRecDepth 100000 in
theorem copyCheck_used (b:Nat) (w:World) (h0:w.cell? ⟨b,0,none⟩=some (.pointer (some ⟨b,0,none⟩))) :
  Calls Tryz.prog 76 #[.pointer (some ⟨b,0,none⟩)] w fun e w'=>e=.returned (.tuple #[])∧w'=w:=by
 obtain⟨j,hj,_⟩:=Option.map_eq_some_iff.1 bld_size
 go_enter Tryz.func76,Tryz.ntmps76
 go_wp2
 first
  | (go_end0;exact⟨rfl,rfl⟩)
  | (rw[Lib.run_neq_ptr_same w _ Tryz.underlying66 hj]
     go_wp2
     go_end0
     exact⟨rfl,rfl⟩)
set_option maxHeartbeats 1000000 in
set_option maxRecDepth 100000 in
theorem copyCheck_fresh (b:Nat) (w:World) (h0:w.cell? ⟨b,0,none⟩=some (.pointer none)) (hsh:w.shape? b=some (68,2)) (hfz:w.frozen? ⟨b,0,none⟩=false) :
  Calls Tryz.prog 76 #[.pointer (some ⟨b,0,none⟩)] w fun e w'=>e=.returned (.tuple #[])∧w'=w.setCell ⟨b,0,none⟩ (.pointer (some ⟨b,0,none⟩)):=by
 obtain⟨j,hj,hjs⟩:=Option.map_eq_some_iff.1 bld_size
 go_enter Tryz.func76,Tryz.ntmps76
 go_wp2
 rw[Lib.run_to_unsafe w ⟨b,0,none⟩ Tryz.underlying66 Tryz.underlying119 hj (by rw[hjs];decide) hsh (Nat.zero_lt_succ 1)]
 simp only[Result.andThen]
 rw[Oper.upon_value]
 go_wp2
 rw[run_callFunc_extern Tryz.func94 (by kernel_rfl) (by kernel_rfl) (by kernel_rfl) (e:=Extern.AbiNoEscape.same) (by kernel_rfl)]
 rw[Lib.run_noEscape]
 simp only[Result.andThen]
 rw[Oper.upon_value]
 go_wp2
 rw[Lib.run_from_unsafe w ⟨b,0,none⟩ Tryz.underlying119 Tryz.underlying66 hj hsh bld_lies]
 simp only[Result.andThen]
 rw[Oper.upon_value]
 go_wp2
 go_end0
 exact⟨rfl,rfl⟩
theorem copyCheck_any (B b:Nat) (bs:List Value) (w:World) (h:Lib.IsBuilder 68 5 B b bs w) :
  Calls Tryz.prog 76 #[.pointer (some ⟨b,0,none⟩)] w fun e w'=>e=.returned (.tuple #[])∧(Lib.BuilderAt 68 5 B b (.pointer (some ⟨b,0,none⟩)) bs w'∧Below B w w'):=by
 rcases h with h|h
 ·refine(copyCheck_fresh b w h.cell0 h.shape h.frozen0).mono ?_
  rintro e w' ⟨rfl,rfl⟩
  exact⟨rfl,h.used _,(Below.refl B w).setCell (p:=⟨b,0,none⟩) h.1 _⟩
 ·refine(copyCheck_used b w h.cell0).mono ?_
  rintro e w' ⟨rfl,rfl⟩
  exact⟨rfl,h,Below.refl B _⟩
set_option maxHeartbeats 2000000 in
set_option maxRecDepth 100000 in
theorem writeStr_any (B b:Nat) (bs:List Value) (s:ByteArray) (w:World) (h:Lib.IsBuilder 68 5 B b bs w) (hlen:bs.length+s.size≤70368744177664) (hBw:B≤w.heap.size) :
  Calls Tryz.prog 39 #[.pointer (some ⟨b,0,none⟩),.string s] w fun e w'=>e=.returned (.tuple #[.int .i64 s.size,.nilIface])∧(Lib.BuilderAt 68 5 B b (.pointer (some ⟨b,0,none⟩)) (bs++Lib.strCells s) w'∧Below B w w'):=by
 obtain⟨i0,hi,hz0,hz1,hz2⟩:=u8_facts
 go_enter Tryz.func39,Tryz.ntmps39
 go_wp2_with (go_at_call 76;refine(copyCheck_any B b bs _ h).mono ?_)
 rintro e w1 ⟨rfl,h1,hb1⟩
 obtain⟨hB,v,hbk,hown,hne⟩:=h1
 have c0:w1.cell? ⟨b,0,none⟩=some (.pointer (some ⟨b,0,none⟩)):=by rw[Lib.cell_of_heap hbk];rfl
 have c1:w1.cell? ⟨b,1,none⟩=some v:=by rw[Lib.cell_of_heap hbk];rfl
 go_wp2_with (at_builtin;refine Lib.wpList_append_own_string _ rfl _ _ 22 9 rfl B 5 i0 Tryz.underlying22 Tryz.underlying9 hi hz0 hz1 hz2 _ _ _ rfl hown s rfl ?c3 ?c4 ?c5 ?_)
 case c3=>unfold maxLen;omega
 case c4=>omega
 case c5=>have:=hb1.size;omega
 intro v' w2 hown' hgrow _
 have hlt:b<w1.heap.size:=by
  rcases Nat.lt_or_ge b w1.heap.size with h'|h'
  ·exact h'
  ·simp[Array.getElem?_eq_none h'] at hbk
 have hb2:w2.heap[b]?=some (.cells #[.pointer (some ⟨b,0,none⟩),v] 68 (0,0)):=by
  rw[hgrow.block b hlt (fun e=>hne e.symm)]
  exact hbk
 have d0:w2.cell? ⟨b,0,none⟩=some (.pointer (some ⟨b,0,none⟩)):=by rw[Lib.cell_of_heap hb2];rfl
 have d1:w2.cell? ⟨b,1,none⟩=some v:=by rw[Lib.cell_of_heap hb2];rfl
 have f1:w2.frozen? ⟨b,1,none⟩=false:=Lib.frozen_of_heap hb2 1
 obtain⟨ao,n',cap,rfl⟩:∃ao n' cap,v'=.slice ao n' cap:=by
  rcases hown'.2 with⟨hv,_⟩|⟨g,cap,cur,hv,_⟩
  ·exact⟨_,_,_,hv⟩
  ·exact⟨_,_,_,hv⟩
 go_wp2
 go_ret2
 refine⟨rfl,?_,?_⟩
 ·exact Lib.BuilderAt.put (T:=68) (e:=5) hB hb2 (bs':=bs++Lib.strCells s) (by simpa [Lib.strCells_length] using hown') (by decide)
 ·exact(hb1.grown hgrow (by have:=hb1.size;omega) (fun k hk=>(hown.lt k hk).1)).setCell (p:=⟨b,1,none⟩) hB _
set_option maxRecDepth 100000 in
set_option maxHeartbeats 1000000 in
theorem unmark_any (s:ByteArray) (m:Nat) (w:World) (hs:s.size=32 * m) (hm:m≤1048576) :
  Calls Tryz.prog 97 #[.string s] w fun e w'=>e=.returned (.string ⟨(unmC s.data.toList m).toArray⟩)∧Below w.heap.size w w':=by
 have HS:=hide hs
 have hsz:s.size≤33554432:=by omega
 have HFR:=hide (Lib.fresh_isBuilder 68 5 w)
 obtain⟨w1,hw1⟩:∃w1,w.alloc (.cells #[.pointer none,.slice none 0 0] 68)=w1:=⟨_,rfl⟩
 rw[hw1] at HFR
 have bel1:Below w.heap.size w w1:=by rw[←hw1];exact alcB _ _
 have HB1:=hide bel1
 clear hs bel1
 go_enter Tryz.func97,Tryz.ntmps97
 go_wp2_with fail
 go_loopg [4] m (fun q i wr=>∃k:Nat,k≤m∧q=m - k∧i=.int .i64 ((32 * k:Nat):Int)∧Lib.IsBuilder 68 5 w.heap.size w.heap.size (Lib.byteCells (unmC s.data.toList k)) wr∧Below w.heap.size w wr)
 case atStart=>exact⟨0,zrL _,rfl,rfl,HFR.out,HB1.out⟩
 case round =>
  obtain⟨k,hk,rfl,rfl,hI,hb⟩:=hrel
  have HI:=hide hI
  have HB:=hide hb
  have hbs:=hb.size
  have hpl:=unmC_length s.data.toList k (by have:=HS.out;simp;omega)
  have HPL:=hide hpl
  clear hI hb hpl
  by_cases hlt:k<m
  ·have hki:((32 * k:Nat):Int)<(s.size:Int):=by have:=HS.out;omega
   have hex:(s.extract (32 * k) (32 * k+31)).size≤31:=by rw[ByteArray.size_extract];omega
   have HD:Hid (Lib.byteCells (unmC s.data.toList (k+1))=Lib.byteCells (unmC s.data.toList k)++Lib.strCells (s.extract (32 * k) (32 * k+31))):=by
    show _=_
    conv=>lhs;unfold unmC
    simp only[Lib.byteCells,Lib.strCells,List.map_append,ByteArray.data_extract,Array.toList_extract,List.extract_eq_take_drop]
    rw[show 32 * k+31 - 32 * k=31 by omega]
   have hkl:32 * k+31≤s.size:=by have:=HS.out;omega
   obtain⟨p,hp⟩:∃p,32 * k+31=p:=⟨_,rfl⟩
   obtain⟨o,ho⟩:∃o,32 * k=o:=⟨_,rfl⟩
   rw[hp] at HD hex hkl
   rw[ho] at HD hex hki
   rw[ho]
   have h1:(o:Int)+31=(p:Int):=by omega
   have h2:(o:Int)≤(p:Int):=by omega
   have h3:(p:Int)≤(s.size:Int):=by omega
   have HEND:Hid ((o:Int)+32=((32 * (k+1):Nat):Int)):=by show _=_;omega
   have ho6:o≤33554432:=by omega
   have HLEN:Hid ((Lib.byteCells (unmC s.data.toList k)).length+(s.extract o p).size≤70368744177664):=by show _≤_;rw[Lib.byteCells_length,HPL.out];omega
   clear hp ho
   go_wp2_with fail
   refine(writeStr_any w.heap.size w.heap.size _ _ _ HI.out HLEN.out hbs).mono ?_
   rintro e w5 ⟨rfl,hI5,hb5⟩
   rw[←HD.out] at hI5
   have HI5:=hide hI5
   have HB5:=hide (HB.out.trans hb5)
   clear hI5 hb5
   go_wp2_with fail
   go_roundg (m - (k+1))
   case measure=>omega
   case rel=>exact⟨k+1,by omega,rfl,by rw[←HEND.out],.inr HI5.out,HB5.out⟩
  ·obtain rfl:k=m:=by omega
   have hki:¬((32 * k:Nat):Int)<(s.size:Int):=by have:=HS.out;omega
   have hki2:¬(32 * (k:Int))<(s.size:Int):=by omega
   go_wp2_with fail
   refine(Tryz.Builder_String_any w.heap.size w.heap.size _ _ HI.out hbs).mono ?_
   rintro e w5 ⟨rfl,hb5⟩
   have HB5:=hide (HB.out.trans hb5)
   clear hb5
   go_wp2_with fail
   go_ret
   exact⟨rfl,HB5.out⟩
theorem w64 (n:Int) (h1:-9223372036854775808≤n) (h2:n≤9223372036854775807):wrap64 n=n:=by unfold wrap64;omega
theorem bits_or_i64 (a b:Nat) (ha:a<1099511627776) (hb:b<1099511627776):bits .or .i64 (a:Int) (b:Int)=((a ||| b:Nat):Int):=by
 have hx:a ||| b<2 ^ 40:=Nat.or_lt_two_pow (by omega) (by omega)
 have h1:(BitVec.ofInt 64 (a:Int)).toNat=a:=by
  rw[BitVec.ofInt_natCast,BitVec.toNat_ofNat];exact Nat.mod_eq_of_lt (by omega)
 have h2:(BitVec.ofInt 64 (b:Int)).toNat=b:=by
  rw[BitVec.ofInt_natCast,BitVec.toNat_ofNat];exact Nat.mod_eq_of_lt (by omega)
 show IntKind.i64.wrap ((BitVec.ofInt 64 (a:Int) ||| BitVec.ofInt 64 (b:Int)).toNat:Int)=_
 rw[BitVec.toNat_or,h1,h2,IntKind.wrap_i64]
 omega
theorem or_sum (k a b:Nat) (ha:a<2 ^ k):a ||| 2 ^ k * b=a+2 ^ k * b:=by
 rw[Nat.or_comm,←Nat.two_pow_add_eq_or_of_lt ha,Nat.add_comm]
theorem or_three (a b c:Nat) (ha:a<256) (hb:b<256) (hc:c<256) :
  bits .or .i64 (bits .or .i64 (wrap64 (a:Int)) (wrap64 (wrap64 (b:Int) * 256))) (wrap64 (wrap64 (c:Int) * 65536))=((a+b * 256+c * 65536:Nat):Int):=by
 have e1:wrap64 (a:Int)=(a:Int):=w64 _ (by omega) (by omega)
 have e2:wrap64 (b:Int)=(b:Int):=w64 _ (by omega) (by omega)
 have e3:wrap64 (c:Int)=(c:Int):=w64 _ (by omega) (by omega)
 have e4:wrap64 ((b:Int) * 256)=((2 ^ 8 * b:Nat):Int):=by rw[w64 _ (by omega) (by omega)];omega
 have e5:wrap64 ((c:Int) * 65536)=((2 ^ 16 * c:Nat):Int):=by rw[w64 _ (by omega) (by omega)];omega
 rw[e1,e2,e3,e4,e5,bits_or_i64 _ _ (by omega) (by omega),or_sum 8 a b (by omega),bits_or_i64 _ _ (by omega) (by omega),or_sum 16 _ c (by omega)]
 omega
theorem getD_byte (s:ByteArray) (i:Nat) (h:i<s.size):s.data.toList.getD i 0=s[i]:=byteD s i h
set_option maxRecDepth 100000 in
set_option maxHeartbeats 1000000 in
theorem sizeOf_any (s:ByteArray) (w:World) (h:32≤s.size) (hs:s.size≤1048576) :
  Calls Tryz.prog 96 #[.string s] w fun e w'=>e=.returned (.int .i64 ((sizeL s.data.toList:Nat):Int))∧Below w.heap.size w w':=by
 have h0:0<s.size:=by omega
 have h1:(1:Int)<(s.size:Int):=by omega
 have h2:(2:Int)<(s.size:Int):=by omega
 go_enter Tryz.func96,Tryz.ntmps96
 go_wp2_with fail
 go_quiet (fail)
 go_wp2_with fail
 go_ret
 have e:((sizeL s.data.toList:Nat):Int)=bits .or .i64 (bits .or .i64 (wrap64 ((s[0]'(by omega)).toNat:Int)) (wrap64 (wrap64 ((s[1]'(by omega)).toNat:Int) * 256))) (wrap64 (wrap64 ((s[2]'(by omega)).toNat:Int) * 65536)):=by
  rw[or_three _ _ _ (UInt8.toNat_lt _) (UInt8.toNat_lt _) (UInt8.toNat_lt _)]
  unfold sizeL
  rw[getD_byte s 0 (by omega),getD_byte s 1 (by omega),getD_byte s 2 (by omega)]
 rw[e]
 exact⟨rfl,below_drewN (Below.refl _ _) nq⟩
def firstV (I:ByteArray):Value:=match firstB I with
 | some p=>.tuple #[.string p.1,.int .i64 (p.2:Int)]
 | none=>.tuple #[.string ⟨#[]⟩,.int .i64 0]
set_option maxRecDepth 100000 in
set_option maxHeartbeats 2000000 in
theorem firstRecord_any (I:ByteArray) (w:World) (hI:I.size≤1048576) :
  Calls Tryz.prog 81 #[.string I] w fun e w'=>e=.returned (firstV I)∧Below w.heap.size w w':=by
 by_cases h32:(I.size:Int)<32
 ·have HX:Hid (firstV I=.tuple #[.string ⟨#[]⟩,.int .i64 0]):=by unfold firstV firstB;rw[if_pos (by omega)];exact rfl
  go_enter Tryz.func81,Tryz.ntmps81
  go_wp2_with fail
  go_ret2
  exact⟨by rw[HX.out];rfl,Below.refl _ _⟩
 ·obtain⟨n,hn⟩:∃n,sizeL I.data.toList=n:=⟨_,rfl⟩
  have hn6:n≤16777215:=by rw[←hn];exact sizeL_le _
  obtain⟨k,hk⟩:∃k,32 * sectN n=k:=⟨_,rfl⟩
  have hk6:k≤19200000:=by rw[←hk];unfold sectN;omega
  have HSO:=hide (fun W=>sizeOf_any I W (by omega) hI)
  have HRS:=hide (fun W=>recordSize_any n W (by omega))
  rw[hn] at HSO
  rw[hk] at HRS
  by_cases hbig:(I.size:Int)<(k:Int)
  ·have HX:Hid (firstV I=.tuple #[.string ⟨#[]⟩,.int .i64 0]):=by unfold firstV firstB;rw[if_neg (by omega),if_pos (by rw[hn,hk];omega)];exact rfl
   clear hn hk
   go_enter Tryz.func81,Tryz.ntmps81
   go_wp2_with fail
   refine(HSO.out _).mono ?_
   rintro e W1 ⟨rfl,hb1⟩
   go_wp2_with fail
   refine(HRS.out _).mono ?_
   rintro e W2 ⟨rfl,rfl⟩
   go_wp2_with fail
   go_ret2
   exact⟨by rw[HX.out];rfl,hb1⟩
  ·have hkI:k≤I.size:=by omega
   have hkI2:(k:Int)≤(I.size:Int):=by omega
   have hP:(I.extract 0 k).size=k:=by rw[ByteArray.size_extract];omega
   have HUM:=hide (fun W=>unmark_any (I.extract 0 k) (sectN n) W (by rw[hP,hk]) (by unfold sectN;omega))
   have hpl:unmC (I.extract 0 k).data.toList (sectN n)=unmC I.data.toList (sectN n):=by
    have:∀j,32 * j≤k→unmC (I.extract 0 k).data.toList j=unmC I.data.toList j:=by
     intro j
     induction j with
     | zero=>intro _;rfl
     | succ j ih =>
      intro hj
      unfold unmC
      rw[ih (by omega)]
      congr 1
      simp only[ByteArray.data_extract,Array.toList_extract,List.extract_eq_take_drop,List.drop_zero,Nat.sub_zero]
      rw[List.drop_take,List.take_take,Nat.min_eq_left (by omega)]
    exact this _ (by omega)
   rw[hpl] at HUM
   obtain⟨U,hU⟩:∃U:ByteArray,(⟨(unmC I.data.toList (sectN n)).toArray⟩:ByteArray)=U:=⟨_,rfl⟩
   have hUs:U.size=31 * sectN n:=by
    rw[←hU]
    show (unmC I.data.toList (sectN n)).toArray.size=_
    rw[List.size_toArray,unmC_length _ _ (by simp;omega)]
   have hUn:3+n≤U.size:=by rw[hUs];unfold sectN;omega
   have hUn2:3+(n:Int)≤(U.size:Int):=by omega
   have hT:U.extract 3 (3+n)=recText I:=by
    apply bytes_ext
    rw[←hU]
    simp only[recText,textL,ByteArray.data_extract,Array.toList_extract,List.extract_eq_take_drop,hn]
    rw[show 3+n - 3=n by omega]
   rw[hU] at HUM
   obtain⟨T,hTT⟩:∃T,recText I=T:=⟨_,rfl⟩
   rw[hTT] at hT
   have hTs:T.size=n:=by rw[←hTT,recText_size I (by rw[hn,hk];omega),hn]
   have HRC:=hide (fun W=>record_any T W (by rw[hTs];have:=hUs;unfold sectN at this hk;omega))
   obtain⟨P,hPP⟩:∃P,I.extract 0 k=P:=⟨_,rfl⟩
   rw[hPP] at HUM
   have HV:Hid (firstV I=if ((recB T).toList == P.toList) then .tuple #[.string T,.int .i64 (k:Int)] else .tuple #[.string ⟨#[]⟩,.int .i64 0]):=by
    unfold firstV firstB
    rw[if_neg (by omega),if_neg (by rw[hn,hk];omega),hn,hk,hTT,hPP]
    show _=_
    cases ((recB T).toList == P.toList) <;> rfl
   obtain⟨R,hR⟩:∃R,recB T=R:=⟨_,rfl⟩
   rw[hR] at HV HRC
   obtain⟨p,hp⟩:∃p,3+n=p:=⟨_,rfl⟩
   rw[hp] at hT
   have hp1:(3:Int)+(n:Int)=(p:Int):=by omega
   have hp2:(3:Int)≤(p:Int):=by omega
   have hp3:(p:Int)≤(U.size:Int):=by omega
   clear hp hUn2 hUn hn hk hpl hU hUs hR hTs hTT hP
   go_enter Tryz.func81,Tryz.ntmps81
   go_wp2_with fail
   refine(HSO.out _).mono ?_
   rintro e W1 ⟨rfl,hb1⟩
   go_wp2_with fail
   refine(HRS.out _).mono ?_
   rintro e W2 ⟨rfl,rfl⟩
   go_wp2_with fail
   refine(HUM.out _).mono ?_
   rintro e W3 ⟨rfl,hb3⟩
   have HB3:=hide (bj hb3 hb1)
   have hbr:=Below.refl W3.heap.size W3
   have KB:Hid (∀X,Below W3.heap.size W3 X→Below w.heap.size w X):=fun X h=>bj h HB3.out
   clear hb1 hb3
   cases hcmp:(R.toList == P.toList)
   ·have HX:Hid (firstV I=.tuple #[.string ⟨#[]⟩,.int .i64 0]):=by rw[HV.out,hcmp];exact rfl
    go_wp2_with fail
    go_region_held3 (fun X=>Below W3.heap.size W3 X)
     (first|exact(Below.refl _ _).drew|exact hb5)
     (first|(go_at_call 40;refine(HRC.out _).mono ?_;rintro e2 w5 ⟨rfl,hb2⟩;have hb5:Below W3.heap.size W3 w5:=bj hb2 ((Below.refl _ _).drew)))
    have HB5:=hide (KB.out _ hb5)
    clear hb5 hbr
    go_wp2_with fail
    go_ret2
    exact⟨by rw[HX.out];rfl,HB5.out⟩
   ·have HX:Hid (firstV I=.tuple #[.string T,.int .i64 (k:Int)]):=by rw[HV.out,hcmp];exact rfl
    go_wp2_with fail
    go_region_held3 (fun X=>Below W3.heap.size W3 X)
     (first|exact(Below.refl _ _).drew|exact hb5)
     (first|(go_at_call 40;refine(HRC.out _).mono ?_;rintro e2 w5 ⟨rfl,hb2⟩;have hb5:Below W3.heap.size W3 w5:=bj hb2 ((Below.refl _ _).drew)))
    have HB5:=hide (KB.out _ hb5)
    clear hb5 hbr
    go_wp2_with fail
    go_ret2
    exact⟨by rw[HX.out];rfl,HB5.out⟩
theorem rest_list (img:ByteArray) (a:Nat):(img.extract a img.size).data.toList=img.data.toList.drop a:=by
 simp only[ByteArray.data_extract,Array.toList_extract,List.extract_eq_take_drop]
 rw[List.take_of_length_le (by simp)]
def TBuf (base:Nat) (w:World) (v:Value) (xs:List ByteArray):Prop:=w.ownsRow base 9 1 v xs.length (xs.map Value.string)
attribute [local go_sem] Oper.semAt_some
theorem grown_of_below {W W':World} (h:Below W.heap.size W W'):W.grownBy W' none:=⟨h.os,h.tape,h.output,h.size,fun k hk _=>h.block k hk⟩
set_option maxHeartbeats 1000000 in
theorem records_in (s:ByteArray) (n:Nat) (w:World) :
  CallsIn Fence.wide n Tryz.prog 43 #[.string s] w fun e w' =>
   e=.returned (.func (.func 80) #[] #[.pointer (some ⟨w.heap.size,0,none⟩)])∧w'=w.alloc (.cells #[.string s] 9):=by
 refine callsIn_of_wp Tryz.func43 rfl trivial ?_ rfl
 simp only[Tryz.ntmps43,List.size_toArray,List.length_cons,List.length_nil,Nat.reduceAdd,Nat.reduceSub,Array.replicate_succ,Array.replicate_zero,List.push_toArray,List.append_toArray,List.nil_append,List.cons_append]
 gi_wp2
 go_ret
 exact⟨rfl,rfl⟩
set_option maxRecDepth 100000 in
set_option maxHeartbeats 2000000 in
theorem records1_sz (n l Bi:Nat) (img:ByteArray) (hn:1≤n) (hI:img.size≤1048576) (J Jx:List (ByteArray × Nat)→World→Prop) (W:World)
  (hJ:AbidesFrom W.heap.size J)
  (hY:∀pre x W1,J pre W1→pre.length<32769→x.1.size≤60000→YieldAt Fence.wide (n - 1) Tryz.prog l #[.string x.1,.int .i64 ((x.2:Nat):Int)] W1 fun e W' =>
   (e=.returned (.bool true)∧J (pre++[x]) W'∧W'.heap[Bi]?=W1.heap[Bi]?)∨(e=.returned (.bool false)∧Jx (pre++[x]) W'))
  (hBi:W.heap[Bi]?=some (.cells #[.string img] 9 (0,0))) (h0:J [] W) :
  CallsIn Fence.wide n Tryz.prog 80 #[.func (.yield l) #[] #[],.pointer (some ⟨Bi,0,none⟩)] W fun e W'=>(∃v,e=.returned v) ∧
   ((∃ys,ys=recsA img∧J ys W')∨(∃pre,(∃k,pre=recsK img k)∧Jx pre W')):=by
 have HY:=hide hY
 have HJ:=hide hJ
 have hnot:¬(4194304:Int)<(img.size:Int):=by omega
 have c0:W.cell? ⟨Bi,0,none⟩=some (.string img):=by simp[World.cell?,hBi]
 clear hY hJ
 refine callsIn_of_wp Tryz.func80 rfl trivial ?_ rfl
 simp only[Tryz.ntmps80,List.size_toArray,List.length_cons,List.length_nil,Nat.reduceAdd,Nat.reduceSub,Array.replicate_succ,Array.replicate_zero,List.push_toArray,List.append_toArray,List.nil_append,List.cons_append]
 gi_wp2
 gi_loopw [3] (fun i wr=>∃k:Nat,(recsK img k).length=k∧i=.int .i64 ((endOf (recsK img k):Nat):Int)∧J (recsK img k) wr∧wr.heap[Bi]?=some (.cells #[.string img] 9 (0,0)))
  (fun i _=>img.size+1 - (intOf i).toNat)
 case atStart=>exact⟨0,rfl,rfl,h0,hBi⟩
 case round =>
  obtain⟨k,hk,rfl,hJs,hs1⟩:=hrel
  have c1:wr.cell? ⟨Bi,0,none⟩=some (.string img):=by simp[World.cell?,hs1]
  have hlens:=recsK_len img k
  have hk6:k≤img.size:=by have:=recsK_full hk;omega
  obtain⟨a,haE⟩:∃a,endOf (recsK img k)=a:=⟨_,rfl⟩
  have ha:a≤img.size:=by rw[←haE];exact hlens.2.2.1
  rw[haE]
  have hai:(a:Int)≤(img.size:Int):=by omega
  obtain⟨X,hX⟩:∃X,img.extract a img.size=X:=⟨_,rfl⟩
  have hXs:X.size≤1048576:=by rw[←hX,ByteArray.size_extract];omega
  have HFR:=hide (fun W=>firstRecord_any X W hXs)
  cases hf:firstB X with
  | none =>
   have HRV:Hid (firstV X=.tuple #[.string ⟨#[]⟩,.int .i64 0]):=by unfold firstV;rw[hf];exact rfl
   have HA:Hid (recsA img=recsK img k):=recsA_of hk6 (by rw[haE,hX];exact hf)
   clear hf hlens haE
   gi_wp2_with fail
   refine⟨trivial,?_⟩
   refine(callsIn_wide.2 (HFR.out _)).mono ?_
   rintro e W2 ⟨rfl,hb2⟩
   rw[HRV.out]
   have hJ2:J (recsA img) W2:=by rw[HA.out];exact HJ.out _ _ _ _ hJs (grown_of_below hb2) (fun _ e=>by cases e)
   have HJ2:=hide hJ2
   clear hJ2 hb2
   gi_wp2_with fail
   refine⟨fun _ h=>(by cases h),?_⟩
   gi_wp2_with fail
   refine bodyPost_ret (results_none rfl _ _ _) rfl ?_
   exact⟨⟨_,rfl⟩,.inl ⟨_,rfl,HJ2.out⟩⟩
  | some p =>
   obtain⟨t,m⟩:=p
   have hs:=firstB_some hf
   have htz:t.size≤60000:=hs.2.2
   rw[←hX,ByteArray.size_extract] at hs
   have HRV:Hid (firstV X=.tuple #[.string t,.int .i64 (m:Int)]):=by unfold firstV;rw[hf];exact rfl
   obtain⟨y,hy⟩:∃y,a+m=y:=⟨_,rfl⟩
   have y1:(a:Int)+(m:Int)=(y:Int):=by omega
   have hm0:¬(m:Int)=0:=by omega
   have hmb:((m:Int) == 0)=false:=by simpa using hm0
   have HNX:Hid (recsK img (k+1)=recsK img k++[(t,y)]):=by
    have e:=recsK_yes (img:=img) (k:=k) (t:=t) (n:=m) (by rw[haE,hX];exact hf)
    rw[e,haE,hy]
    exact rfl
   have hya:a+32≤y∧y≤img.size:=by omega
   have hklen:(recsK img k).length<32769:=by have:=recsK_full hk;rw[hk];omega
   have HE:=hide haE
   clear hf hlens haE hs hy
   gi_wp2_with fail
   refine⟨trivial,?_⟩
   refine(callsIn_wide.2 (HFR.out _)).mono ?_
   rintro e W2 ⟨rfl,hb2⟩
   rw[HRV.out]
   have hJ2:J (recsK img k) W2:=HJ.out _ _ _ _ hJs (grown_of_below hb2) (fun _ e=>by cases e)
   have hs2:W2.heap[Bi]?=some (.cells #[.string img] 9 (0,0)):=(hb2.block Bi (by rw[Array.getElem?_eq_some_iff] at hs1;exact hs1.1)).trans hs1
   obtain⟨fn,tmps,assign,body,hy,hR⟩:=HY.out (recsK img k) (t,y) W2 hJ2 hklen htz
   dsimp only at hy
   have HS2:=hide hs2
   clear hJ2 hb2 hs2
   gi_wp2_with fail
   refine hR.mono ?_
   rintro e W3 (⟨rfl,hJ3,hk3⟩|⟨rfl,hJx3⟩)
   ·have hs3:W3.heap[Bi]?=some (.cells #[.string img] 9 (0,0)):=hk3.trans HS2.out
    have c3:W3.cell? ⟨Bi,0,none⟩=some (.string img):=by simp[World.cell?,hs3]
    have HJ3:Hid (J (recsK img (k+1)) W3):=by rw[HNX.out];exact hJ3
    have HL:Hid ((recsK img (k+1)).length=k+1∧endOf (recsK img (k+1))=y):=by rw[HNX.out,endOf_snoc,List.length_append,hk];exact⟨rfl,rfl⟩
    have HS3:=hide hs3
    clear hJ3 hk3 hs3
    gi_wp2_with fail
    go_roundw
    case rel=>exact⟨k+1,HL.out.1,by rw[HL.out.2],HJ3.out,HS3.out⟩
    case measure=>simp[intOf];omega
   ·have HJX:=hide hJx3
    clear hJx3
    gi_wp2_with fail
    refine bodyPost_ret (results_none rfl _ _ _) rfl ?_
    exact⟨⟨_,rfl⟩,.inr ⟨_,⟨k+1,HNX.out.symm⟩,HJX.out⟩⟩
structure LogV (w W0:World) (Bt Be:Nat) (e:Int) (xs:List ByteArray) (W:World) (v:Value):Prop where
 box:Boxed W Bt 26 v
 buf:TBuf w.heap.size W v xs
 lies:∀g,v.ownBlock=some g→W0.heap.size≤g
 endB:Boxed W Be 3 (.int .i64 e)
 old:∀k,k<W0.heap.size→k≠Bt→k≠Be→W.heap[k]?=W0.heap[k]?
 size:W0.heap.size≤W.heap.size
 below:Below w.heap.size w W
structure LPlaces (w W0:World) (Bt Be:Nat):Prop where
 a:w.heap.size≤Bt
 b:Bt<Be
 c:Be<W0.heap.size
end Go.Proofs.YtglcdcekkglmiaaGreatDoor.Msg
