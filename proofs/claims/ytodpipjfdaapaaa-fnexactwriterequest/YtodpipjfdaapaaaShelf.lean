import Derived.Shelf.Strings.Builder1
import Derived.Shelf.Small.Strs
import Derived.Shelf.Strconv.Itoa0
import Derived.Shelf.Strconv.Itoa1
import Derived.Shelf.LaysM
import Derived.Shelf.Strconv.Itoa2
import Derived.Shelf.Strconv.Itoa3
import Derived.Shelf.Strings.Search1
import Derived.Shelf.Strings.Prefix
import Derived.Test.YtodpipjfdaapaaaProg
namespace Go.Proofs
open Go.Shelf
def Try.lays171_ren : Go.Shelf.Ren := ⟨fun | 171 => 125 | 243 => 129 | 246 => 131 | 283 => 132 | 284 => 133 | 285 => 134 | 286 => 135 | 129 => 137 | 317 => 136 | 318 => 138 | 319 => 139 | 320 => 140 | 337 => 141 | 338 => 142 | n => n, fun | 3 => 3 | 9 => 9 | 2 => 2 | 4 => 4 | 171 => 156 | 0 => 0 | 53 => 157 | 37 => 66 | 5 => 5 | 173 => 160 | 212 => 163 | 51 => 138 | 20 => 20 | 213 => 164 | 46 => 105 | 232 => 168 | 233 => 169 | n => n, fun | 17 => 1 | 18 => 2 | 19 => 3 | n => n⟩
theorem Try.lays171 : Go.Proofs.Lays.n171 Try.prog Try.lays171_ren := {
  mixed := by kernel_rfl
  f129 := Try.func137.trans (congrArg some (by kernel_rfl))
  f171 := Try.func125.trans (congrArg some (by kernel_rfl))
  f243 := Try.func129.trans (congrArg some (by kernel_rfl))
  f246 := Try.func131.trans (congrArg some (by kernel_rfl))
  f283 := Try.func132.trans (congrArg some (by kernel_rfl))
  f284 := Try.func133.trans (congrArg some (by kernel_rfl))
  f285 := Try.func134.trans (congrArg some (by kernel_rfl))
  f286 := Try.func135.trans (congrArg some (by kernel_rfl))
  f317 := Try.func136.trans (congrArg some (by kernel_rfl))
  f318 := Try.func138.trans (congrArg some (by kernel_rfl))
  f319 := Try.func139.trans (congrArg some (by kernel_rfl))
  f320 := Try.func140.trans (congrArg some (by kernel_rfl))
  f337 := Try.func141.trans (congrArg some (by kernel_rfl))
  f338 := Try.func142.trans (congrArg some (by kernel_rfl))
  t0 := Try.underlying0
  a0 := Try.isAgg0
  z0 := Try.sizeOf0
  v0 := Try.zeroValue0
  t2 := Try.underlying2
  a2 := Try.isAgg2
  z2 := Try.sizeOf2
  v2 := Try.zeroValue2
  t3 := Try.underlying3
  a3 := Try.isAgg3
  z3 := Try.sizeOf3
  v3 := Try.zeroValue3
  t4 := Try.underlying4
  a4 := Try.isAgg4
  z4 := Try.sizeOf4
  v4 := Try.zeroValue4
  t5 := Try.underlying5
  a5 := Try.isAgg5
  z5 := Try.sizeOf5
  v5 := Try.zeroValue5
  t9 := Try.underlying9
  a9 := Try.isAgg9
  z9 := Try.sizeOf9
  v9 := Try.zeroValue9
  t20 := Try.underlying20
  a20 := Try.isAgg20
  z20 := Try.sizeOf20
  v20 := Try.zeroValue20
  t37 := Try.underlying66
  a37 := Try.isAgg66
  z37 := Try.sizeOf66
  v37 := Try.zeroValue66
  t46 := Try.underlying105
  a46 := Try.isAgg105
  z46 := Try.sizeOf105
  v46 := Try.zeroValue105
  t51 := Try.underlying138
  a51 := Try.isAgg138
  z51 := Try.sizeOf138
  v51 := Try.zeroValue138
  t53 := Try.underlying157
  a53 := Try.isAgg157
  z53 := Try.sizeOf157
  v53 := Try.zeroValue157
  t171 := Try.underlying156
  a171 := Try.isAgg156
  z171 := Try.sizeOf156
  v171 := Try.zeroValue156
  t173 := Try.underlying160
  a173 := Try.isAgg160
  z173 := Try.sizeOf160
  v173 := Try.zeroValue160
  t212 := Try.underlying163
  a212 := Try.isAgg163
  z212 := Try.sizeOf163
  v212 := Try.zeroValue163
  t213 := Try.underlying164
  a213 := Try.isAgg164
  z213 := Try.sizeOf164
  t232 := Try.underlying168
  a232 := Try.isAgg168
  z232 := Try.sizeOf168
  v232 := Try.zeroValue168
  t233 := Try.underlying169
  a233 := Try.isAgg169
  z233 := Try.sizeOf169
  v233 := Try.zeroValue169
  g17 := by kernel_rfl
  g18 := by kernel_rfl
  g19 := by kernel_rfl }
open Go.RowKit Go.Sort Go.Lib in
theorem Try.strconv_Itoa_small (i : Nat) (hi : i < 100) (w : World) :
    Calls Try.prog 125 #[.int .i64 i] w fun e w' => e = .returned (.string ⟨(Lib.decDigits i).toArray⟩) ∧ w' = w := Any.strconv_Itoa_small Try.lays171 i hi w
end Go.Proofs
