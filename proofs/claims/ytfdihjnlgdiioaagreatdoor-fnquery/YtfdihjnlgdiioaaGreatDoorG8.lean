import Derived.Test.YtfdihjnlgdiioaaGreatDoorG7
namespace Go.Proofs.YtfdihjnlgdiioaaGreatDoor.dB
open Go.RowKit Go.Extern.Stop Go.Stop Go.Extern
set_option linter.unusedVariables false
set_option linter.unusedSimpArgs false
set_option maxRecDepth 100000 in
set_option maxHeartbeats 4000000 in
theorem YA (c:Int) (t:Addr) (old:Value) (w:World) (hg:w.cell? ⟨0,0,none⟩=some (.iface 141 (.agg #[.pointer (some ⟨9,72,none⟩)]))) (ht0:w.cell? t=some old) (hf0:w.frozen? t=false) :
  Calls Tryz.prog 34 #[.iface 76 (.agg #[.int .i64 c]),.iface 78 (.pointer (some t))] w fun ev w'=>ev=.returned (.bool true)∧∃w1,Below w.heap.size w w1∧w'=w1.setCell t (.int .i64 c):=by
 have h6:=@run_callFunc_extern Tryz.prog 65 _ (fun args=>ReflectliteValue.unpack (args.getD 0 (.tuple #[]))) Tryz.func65 (by kernel_rfl) (by kernel_rfl) (by kernel_rfl) (by kernel_rfl)
 have h7:=@run_callFunc_extern Tryz.prog 66 _ (ReflectliteValue.methodAny (ReflectliteValue.valueError "reflectlite.Value.Type" 0) (fun t _ _ _=>ReflectliteType.toType t)) Tryz.func66 (by kernel_rfl) (by kernel_rfl) (by kernel_rfl) (by kernel_rfl)
 have h8:=@run_callFunc_extern Tryz.prog 67 _ (ReflectliteValue.method (ReflectliteValue.valueError "reflectlite.Value.IsNil" 0) ReflectliteValue.isNil) Tryz.func67 (by kernel_rfl) (by kernel_rfl) (by kernel_rfl) (by kernel_rfl)
 have h27:=@run_callFunc_extern Tryz.prog 186 _ (ReflectliteType.abiMethod fun t=>do pure (.int .u8 (←Rtype.kind t))) Tryz.func186 (by kernel_rfl) (by kernel_rfl) (by kernel_rfl) (by kernel_rfl)
 have h37:=@run_callFunc_extern Tryz.prog 216 _ (ReflectliteType.method ReflectliteType.elem) Tryz.func216 (by kernel_rfl) (by kernel_rfl) (by kernel_rfl) (by kernel_rfl)
 have h38:=@run_callFunc_extern Tryz.prog 217 _ (ReflectliteType.relation "Implements" ReflectliteType.implements_) Tryz.func217 (by kernel_rfl) (by kernel_rfl) (by kernel_rfl) (by kernel_rfl)
 have h10:=@run_callFunc_extern Tryz.prog 93 _ ReflectliteType.typeOf Tryz.func93 (by kernel_rfl) (by kernel_rfl) (by kernel_rfl) (by kernel_rfl)
 have h35:=@run_callFunc_extern Tryz.prog 214 _ (ReflectliteType.relation "AssignableTo" ReflectliteType.assignableTo) Tryz.func214 (by kernel_rfl) (by kernel_rfl) (by kernel_rfl) (by kernel_rfl)
 have h11:=@run_callFunc_extern Tryz.prog 94 _ (ReflectliteValue.method (ReflectliteValue.valueError "reflectlite.Value.Elem" 0) ReflectliteValue.elem) Tryz.func94 (by kernel_rfl) (by kernel_rfl) (by kernel_rfl) (by kernel_rfl)
 have h12:=@run_callFunc_extern Tryz.prog 95 _ ReflectliteValue.set Tryz.func95 (by kernel_rfl) (by kernel_rfl) (by kernel_rfl) (by kernel_rfl)
 have tO:=UY
 have mA:=wE
 have aM:=Ia
 have vM:=QG
 have f6:=QE
 have f7:=abh
 have mK:=Kz
 have mE:=KA
 have mI:=yT
 have kP:=abj
 have kM:=abk
 have eP:=abl
 have iM:=H9
 have hlt:0<w.heap.size:=by
  rcases Nat.eq_zero_or_pos w.heap.size with h0|h
  ·simp[World.cell?,h0] at hg
  ·exact h
 have htl:t.block<w.heap.size:=by
  rcases Nat.lt_or_ge t.block w.heap.size with h|h
  ·exact h
  ·simp[World.cell?,Array.getElem?_eq_none h] at ht0
 obtain⟨a1,ha1⟩:∃a1,a1=w.alloc (.cells #[.pointer (some t)] 78):=⟨_,rfl⟩
 obtain⟨a2,ha2⟩:∃a2,a2=a1.alloc (.cells #[.pointer (some ⟨9,78,none⟩),.pointer (some ⟨w.heap.size,0,none⟩),.int .u64 150] 110):=⟨_,rfl⟩
 obtain⟨a3,Xn⟩:∃a3,a3=a2.alloc (.cells #[.pointer (some ⟨9,78,none⟩),.pointer (some ⟨w.heap.size,0,none⟩),.int .u64 150] 110):=⟨_,rfl⟩
 obtain⟨a4,ha4⟩:∃a4,a4=a3.alloc (.cells #[.int .i64 c] 76):=⟨_,rfl⟩
 have s1:a1.heap.size=w.heap.size+1:=by rw[ha1];simp
 have s2:a2.heap.size=w.heap.size+1+1:=by rw[ha2];simp[s1]
 have s3:a3.heap.size=w.heap.size+1+1+1:=by rw[Xn];simp[s2]
 have b1:Below w.heap.size w a1:=by rw[ha1];exact aO _ _
 have b2:Below w.heap.size w a2:=by rw[ha2];exact b1.alloc b1.size _
 have b3:Below w.heap.size w a3:=by rw[Xn];exact b2.alloc b2.size _
 have b4:Below w.heap.size w a4:=by rw[ha4];exact b3.alloc b3.size _
 have c1:a1.cell? ⟨w.heap.size,0,none⟩=some (.pointer (some t)):=by rw[ha1];simp
 have c2:a2.cell? ⟨w.heap.size,0,none⟩=some (.pointer (some t)):=by rw[ha2,World.cell?_alloc_lt _ _ ⟨w.heap.size,0,none⟩ (by rw[s1];simp)];exact c1
 have c3:a3.cell? ⟨w.heap.size,0,none⟩=some (.pointer (some t)):=by rw[Xn,World.cell?_alloc_lt _ _ ⟨w.heap.size,0,none⟩ (by rw[s2];simp;omega)];exact c2
 have n8:=Yx ⟨w.heap.size,0,none⟩ t a2 c2
 have hg2:a2.cell? ⟨0,0,none⟩=some (.iface 141 (.agg #[.pointer (some ⟨9,72,none⟩)])):=by rw[b2.cell (p:=⟨0,0,none⟩) hlt];exact hg
 have el:=Yy ⟨w.heap.size,0,none⟩ t a3 c3
 have st:=aed t ⟨w.heap.size+1+1+1,0,none⟩ c old a4 (by rw[ha4,←s3];simp) (by rw[b4.cell (p:=t) htl];exact ht0) (by rw[b4.frozen (p:=t) htl];exact hf0)
 have B4:Hid (Below w.heap.size w a4):=b4
 clear b1 b2 b3 b4 c1 c2 c3
 subst ha4 Xn ha2 ha1
 clear s1 s2 s3
 go_enter Tryz.func34,Tryz.ntmps34
 go_wp2
 refine wp_loop_rounds 1 ?_
 rw[rounds_succ]
 go_wp2
 go_ret
 exact⟨rfl,_,B4.out,rfl⟩
end Go.Proofs.YtfdihjnlgdiioaaGreatDoor.dB
