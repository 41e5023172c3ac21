import Derived.Test.YtglcdcekkglmiaaGreatDoorG0
namespace Go.Proofs.YtglcdcekkglmiaaGreatDoor.Msg
open Go.ChangeShapes Go.WideShapes Go.ChangeAt Go.RowKit
set_option linter.unusedVariables false
set_option linter.unusedSimpArgs false
def zeroB (n:Nat):ByteArray:=⟨(List.replicate n (0:UInt8)).toArray⟩
theorem zeroB_size (n:Nat):(zeroB n).size=n:=by simp[zeroB,ByteArray.size]
theorem zeroB_data (n:Nat):(zeroB n).data.toList=List.replicate n 0:=by simp[zeroB]
theorem zeroB_cells (n:Nat):(Lib.strCells (zeroB n)).toArray=Builtin.zeroCells (Value.int .u8 0).cells n:=by
 apply Array.ext'
 simp only[Lib.strCells,zeroB_data,Builtin.zeroCells,Value.cells]
 apply List.ext_getElem
 ·simp
 ·intro i h1 h2
  simp[Nat.mod_one]
theorem wrap_small (n:Nat) (h:n≤140737488355328):IntKind.i64.wrap (n:Int)=(n:Int):=by
 rw[IntKind.wrap_i64]
 omega
theorem append_zeros {P:Program} (w:World) (t u st ty e:TypeId) (i:TypeInfo) (ht:P.underlying t=some (.slice e)) (hu:P.underlying u=some (.int .i64)) (hst:P.underlying st=some .string) (hi:P.info? e=some i) (hz:i.zero=some (.int .u8 0))
  (hsize:i.size=1) (hby:i.bytes=1) (b:Option Addr) (sLen sCap n:Nat) (hn:sLen+n≤140737488355328) :
  (Builtin.append_ #[t,u] ty #[.slice b sLen sCap,.int .i64 (n:Int)]).run P w=(Builtin.append_ #[t,st] ty #[.slice b sLen sCap,.string (zeroB n)]).run P w:=by
 have h1:IntKind.i64.wrap (n:Int)=(n:Int):=by
  exact wrap_small n (by omega)
 have h2:¬(n:Int)<0:=by omega
 have h3:¬(281474976710656:Int)<(n:Int):=by omega
 have h4:¬(9223372036854775807:Int)<(sLen:Int)+(n:Int):=by omega
 have hf:∀W:World,(Builtin.firstCells 1 n (.string (zeroB n))).run P W=.ok (Builtin.zeroCells (Value.int .u8 0).cells n) W:=fun W=>by
  have:=Lib.run_firstCells_string (P:=P) W 1 (zeroB n)
  rw[zeroB_size,zeroB_cells] at this
  exact this
 have h10:IntKind.i64.wrap 0=0:=by have:=wrap_small 0 (by omega);simpa using this
 have hz0:Builtin.zeroCells (Value.int .u8 0).cells 0=#[]:=by simp[Builtin.zeroCells]
 by_cases hroom:sLen+n≤sCap
 ·by_cases h0:n=0
  ·subst h0
   simp[Builtin.append_,run_underlying ht,run_underlying hu,run_underlying hst,sizeOf,typeInfo,hi,hsize,hby,Builtin.lenOf,asInt,asIntOf,h10,zeroB_size,zeroValue,hz,hf,hz0]
   simp only[Nat.add_zero] at hroom
   simp[hroom]
  ·simp[Builtin.append_,run_underlying ht,run_underlying hu,run_underlying hst,sizeOf,typeInfo,hi,hsize,hby,Builtin.lenOf,asInt,asIntOf,h1,h2,h3,zeroB_size,zeroValue,hz,hroom,hf,h0]
 ·have h5:¬(281474976710656<Builtin.nextslicecap (sLen+n) sCap):=by
   have:=growslice_fits (need:=sLen+n) (old:=sCap) (bytes:=1) (by omega) (by omega)
   omega
  by_cases h0:n=0
  ·subst h0
   simp[Builtin.append_,run_underlying ht,run_underlying hu,run_underlying hst,sizeOf,typeInfo,hi,hsize,hby,Builtin.lenOf,asInt,asIntOf,h10,zeroB_size,zeroValue,hz,hf,hz0]
   simp only[Nat.add_zero,Int.ofNat_zero,Int.add_zero] at hroom h4 h5
   simp[hroom,h4,h5]
  ·simp[Builtin.append_,run_underlying ht,run_underlying hu,run_underlying hst,sizeOf,typeInfo,hi,hsize,hby,Builtin.lenOf,asInt,asIntOf,h1,h2,h3,h4,h5,zeroB_size,zeroValue,hz,hroom,hf,h0]
end Go.Proofs.YtglcdcekkglmiaaGreatDoor.Msg
