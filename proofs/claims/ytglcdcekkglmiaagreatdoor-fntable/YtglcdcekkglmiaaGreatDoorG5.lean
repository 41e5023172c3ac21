import Derived.Test.YtglcdcekkglmiaaGreatDoorG4
import Derived.Lib.ConvBytes
import Derived.BigQuiet
import Derived.Deep.RegionHeld3
import Derived.Deep.CutBlock
import Derived.Deep.DeepCutAuto
namespace Go.Proofs.YtglcdcekkglmiaaGreatDoor.Msg
open Go.ChangeShapes Go.WideShapes Go.ChangeAt Go.RowKit
set_option linter.unusedVariables false
set_option linter.unusedSimpArgs false
theorem bytesWorld_below (w:World) (s:ByteArray):Below w.heap.size w (Lib.bytesWorld w 5 s) :=
 ⟨rfl,rfl,rfl,by rw[Lib.bytesWorld_size];omega,fun k hk=>Lib.bytesWorld_at_old w 5 s k hk⟩
theorem add_none' (g o j:Nat):(⟨g,o,none⟩:Addr).add j=⟨g,o+j,none⟩:=by
 unfold Addr.add
 split <;> simp_all
end Go.Proofs.YtglcdcekkglmiaaGreatDoor.Msg
namespace Go.Proofs.YtglcdcekkglmiaaGreatDoor.Msg
set_option linter.unusedVariables false
set_option linter.unusedSimpArgs false
def szL (n:Nat):List UInt8:=[UInt8.ofNat n,UInt8.ofNat (n / 256),UInt8.ofNat (n / 65536)]
def bodyL (l:List UInt8):List UInt8:=szL l.length++l
def padN (m:Nat):Nat:=(31 - m % 31) % 31
def paddedL (B:List UInt8):List UInt8:=B++List.replicate (padN B.length) 0
def markU (P:List UInt8):Nat→List UInt8
 | 0=>[]
 | i+1=>markU P i++[P.getD i 0]++(if i % 31=30 then [if i<31 then 65 else 66] else [])
def recL (l:List UInt8):List UInt8:=markU (paddedL (bodyL l)) (paddedL (bodyL l)).length
def recB (s:ByteArray):ByteArray:=if s.size≤60000 then ⟨(recL s.data.toList).toArray⟩ else ⟨#[]⟩
theorem bodyL_length (l:List UInt8):(bodyL l).length=l.length+3:=by simp[bodyL,szL]
theorem padded_length (B:List UInt8):(paddedL B).length=(B.length+30) / 31 * 31:=by
 simp only[paddedL,List.length_append,List.length_replicate,padN]
 omega
theorem markU_length (P:List UInt8):∀i,(markU P i).length=i+i / 31
 | 0=>rfl
 | i+1=>by
  have ih:=markU_length P i
  unfold markU
  split
  ·simp only[List.length_append,List.length_cons,List.length_nil,ih];omega
  ·simp only[List.length_append,List.length_cons,List.length_nil,ih];omega
theorem markU_run (P:List UInt8) (k:Nat):∀c,c≤30→31 * k+c≤P.length→markU P (31 * k+c)=markU P (31 * k)++(P.drop (31 * k)).take c
 | 0,_,_=>by simp
 | c+1,hc,hl=>by
  have ih:=markU_run P k c (by omega) (by omega)
  show markU P (31 * k+c+1)=_
  conv=>lhs;unfold markU
  rw[if_neg (by omega),ih,List.append_nil,List.append_assoc,List.take_succ_eq_append_getElem (by rw[List.length_drop];omega),List.getElem_drop,List.getD_eq_getElem?_getD,List.getElem?_eq_getElem (by omega)]
  rfl
theorem markU_sector (P:List UInt8) (k:Nat) (hl:31 * (k+1)≤P.length):markU P (31 * (k+1))=markU P (31 * k)++(P.drop (31 * k)).take 31++[if k=0 then 65 else 66]:=by
 have ih:=markU_run P k 30 (by omega) (by omega)
 show markU P (31 * k+30+1)=_
 conv=>lhs;unfold markU
 rw[if_pos (by omega),ih,List.take_succ_eq_append_getElem (i:=30) (by rw[List.length_drop];omega),List.getElem_drop,List.getD_eq_getElem?_getD,List.getElem?_eq_getElem (by omega)]
 have e:(if 31 * k+30<31 then (65:UInt8) else 66)=if k=0 then 65 else 66:=by
  by_cases h:k=0
  ·rw[if_pos h,if_pos (by omega)]
  ·rw[if_neg h,if_neg (by omega)]
 rw[e]
 simp only[Option.getD_some,List.append_assoc]
def chunkL (B:List UInt8) (j:Nat):List UInt8:=(B.drop (31 * j)).take 31
theorem chunkL_length (B:List UInt8) (j:Nat):(chunkL B j).length=min 31 (B.length - 31 * j):=by simp[chunkL]
def recStep (B acc:List UInt8) (j:Nat):List UInt8:=acc++chunkL B j++List.replicate (31 - (chunkL B j).length) 0++[if acc.length=0 then 65 else 66]
def recP (B:List UInt8) (pre:List Nat):List UInt8:=pre.foldl (recStep B) []
theorem recP_snoc (B:List UInt8) (pre:List Nat) (j:Nat):recP B (pre++[j])=recStep B (recP B pre) j:=by simp[recP]
theorem recStep_length (B acc:List UInt8) (j:Nat):(recStep B acc j).length=acc.length+32:=by
 have:=chunkL_length B j
 simp only[recStep,List.length_append,List.length_replicate,List.length_cons,List.length_nil]
 omega
theorem recP_length (B:List UInt8) (pre:List Nat):(recP B pre).length=32 * pre.length:=by
 unfold recP
 have:∀(pre:List Nat) (acc:List UInt8),(pre.foldl (recStep B) acc).length=acc.length+32 * pre.length:=by
  intro pre
  induction pre with
  | nil=>intro acc;simp
  | cons j pre ih=>intro acc;simp only[List.foldl_cons,ih,recStep_length,List.length_cons];omega
 simpa using this pre []
theorem take_padded (B:List UInt8) (k:Nat) (hk:31 * k<B.length):((paddedL B).drop (31 * k)).take 31=chunkL B k++List.replicate (31 - (chunkL B k).length) 0:=by
 have hc:=chunkL_length B k
 unfold paddedL
 rw[List.drop_append_of_le_length (by omega),List.take_append]
 unfold chunkL at hc ⊢
 congr 1
 rw[hc,List.length_drop,List.take_replicate]
 congr 1
 unfold padN
 omega
theorem recP_range (B:List UInt8):∀k,k≤(B.length+30) / 31→recP B (List.range k)=markU (paddedL B) (31 * k)
 | 0,_=>rfl
 | k+1,hk=>by
  have ih:=recP_range B k (by omega)
  have hl:(recP B (List.range k)).length=32 * k:=by rw[recP_length,List.length_range]
  rw[List.range_succ,recP_snoc,markU_sector _ _ (by rw[padded_length];omega),←ih,take_padded B k (by omega)]
  unfold recStep
  rw[hl]
  have e:(if 32 * k=0 then (65:UInt8) else 66)=if k=0 then 65 else 66:=by
   by_cases h:k=0
   ·rw[if_pos h,if_pos (by omega)]
   ·rw[if_neg h,if_neg (by omega)]
  rw[e]
  simp only[List.append_assoc]
def sectN (n:Nat):Nat:=(n+33) / 31
theorem recL_eq (l:List UInt8):recL l=recP (bodyL l) (List.range (sectN l.length)):=by
 unfold recL
 have h:=padded_length (bodyL l)
 have e:((bodyL l).length+30) / 31=sectN l.length:=by rw[bodyL_length];unfold sectN;omega
 rw[e] at h
 rw[h,Nat.mul_comm,recP_range (bodyL l) _ (by rw[e];exact leR _)]
theorem recL_length (l:List UInt8):(recL l).length=32 * sectN l.length:=by rw[recL_eq,recP_length,List.length_range]
theorem recB_size {s:ByteArray} (h:s.size≤60000):(recB s).size=32 * sectN s.size:=by
 unfold recB
 rw[if_pos h]
 show (recL s.data.toList).toArray.size=_
 rw[List.size_toArray,recL_length]
 simp
end Go.Proofs.YtglcdcekkglmiaaGreatDoor.Msg
namespace Go.Proofs.YtglcdcekkglmiaaGreatDoor.Msg
open Go.ChangeShapes Go.WideShapes Go.ChangeAt Go.RowKit
set_option linter.unusedVariables false
set_option linter.unusedSimpArgs false
theorem bj {w W c:World} (h2:Below W.heap.size W c) (h1:Below w.heap.size w W):Below w.heap.size w c:=h1.trans (h2.mono h1.size)
theorem byteD (N:ByteArray) (i:Nat) (h:i<N.size):N.data.toList.getD i 0=N[i]:=by
 rw[List.getD_eq_getElem?_getD,List.getElem?_eq_getElem (by simpa using h)]
 rfl
end Go.Proofs.YtglcdcekkglmiaaGreatDoor.Msg
