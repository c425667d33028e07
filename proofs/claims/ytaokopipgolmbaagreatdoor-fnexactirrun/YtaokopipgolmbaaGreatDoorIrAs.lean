/-
  errors.As at a target that is a struct of one int: a nil error, the target's own type, the other type.
-/
import Derived.Test.YtaokopipgolmbaaGreatDoorIrPp
import Derived.LaidEql
import Derived.Stop.Asserts
import Derived.RowKitTokens
namespace Go.Proofs.YtaokopipgolmbaaGreatDoor.As
set_option linter.unusedVariables false
set_option linter.unusedSimpArgs false
open Go.RowKit Go.Extern.Stop Go.Stop Go.Extern IntS Mch
theorem as_nil (t : Value) (w : World) : Calls Tryz.prog 49 #[.nilIface, t] w fun e w' => e = .returned (.bool false) ∧ w' = w := by
  go_enter Tryz.func49, Tryz.ntmps49
  go_wp2
  go_ret
  exact ⟨rfl, rfl⟩
theorem rlm (z : Sem Value) (f : TypeId → Addr → Nat → Nat → Sem Value) (v : Value) :
    ReflectliteValue.method z f #[v] = (do match ← ReflectliteValue.parts v with | none => z | some (t, a, fl) => f t a fl (fl % 32)) := rfl

theorem methodKind (h : Value) (w : World) : (Go.method 266 118 (.agg #[h]) "Kind").run Tryz.prog w = .ok (84, h) w := by kernel_rfl
theorem methodElem (h : Value) (w : World) : (Go.method 266 118 (.agg #[h]) "Elem").run Tryz.prog w = .ok (112, .agg #[h]) w := by kernel_rfl
theorem methodImplements (h : Value) (w : World) : (Go.method 266 118 (.agg #[h]) "Implements").run Tryz.prog w = .ok (113, .agg #[h]) w := by kernel_rfl
theorem methodAssignableTo (h : Value) (w : World) : (Go.method 266 118 (.agg #[h]) "AssignableTo").run Tryz.prog w = .ok (110, .agg #[h]) w := by kernel_rfl

theorem valueOfP_missed (a : Addr) (w : World) : (ReflectliteValue.unpack (.iface 84 (.pointer (some a)))).run Tryz.prog w = .ok (.agg #[.pointer (some ⟨3, 84, none⟩), .pointer (some ⟨w.heap.size, 0, none⟩), .int .u64 150]) (w.alloc (.cells #[.pointer (some a)] 84)) := by kernel_rfl
theorem typeP_missed (a : Addr) (w : World) : (ReflectliteValue.methodAny (ReflectliteValue.valueError "reflectlite.Value.Type" 0) (fun t _ _ _ => ReflectliteType.toType t) #[.agg #[.pointer (some ⟨3, 84, none⟩), .pointer (some a), .int .u64 150]]).run Tryz.prog w = .ok (.iface 118 (.agg #[.pointer (some ⟨3, 84, none⟩)])) w := by kernel_rfl
theorem kindP_missed (w : World) : ((ReflectliteType.abiMethod fun t => (fun a : Nat => Value.int IntKind.u8 (a : Int)) <$> Rtype.kind t) #[.pointer (some ⟨3, 84, none⟩)]).run Tryz.prog w = .ok (.int .u8 22) w := by kernel_rfl
theorem kind_missed (w : World) : ((ReflectliteType.abiMethod fun t => (fun a : Nat => Value.int IntKind.u8 (a : Int)) <$> Rtype.kind t) #[.pointer (some ⟨3, 81, none⟩)]).run Tryz.prog w = .ok (.int .u8 25) w := by kernel_rfl
theorem partsP_missed (a : Addr) (w : World) : (ReflectliteValue.parts (.agg #[.pointer (some ⟨3, 84, none⟩), .pointer (some a), .int .u64 150])).run Tryz.prog w = .ok (some (84, a, 150)) w := by kernel_rfl
theorem isNilP_missed (a b : Addr) (W : World) (ha : W.cell? a = some (.pointer (some b))) :
    (ReflectliteValue.method (ReflectliteValue.valueError "reflectlite.Value.IsNil" 0) ReflectliteValue.isNil #[.agg #[.pointer (some ⟨3, 84, none⟩), .pointer (some a), .int .u64 150]]).run Tryz.prog W = .ok (.bool false) W := by
  rw [rlm]
  simp only [Sem.run_bind, partsP_missed, Result.andThen]
  simp [ReflectliteValue.isNil, loadVar, isAgg, underlying, Tryz.underlying84, ha, Result.andThen]
theorem elemT_missed (w : World) : (ReflectliteType.method ReflectliteType.elem #[.agg #[.pointer (some ⟨3, 84, none⟩)]]).run Tryz.prog w = .ok (.iface 118 (.agg #[.pointer (some ⟨3, 81, none⟩)])) w := by kernel_rfl
theorem impl_missed (w : World) : (ReflectliteType.relation "Implements" ReflectliteType.implements_ #[.agg #[.pointer (some ⟨3, 81, none⟩)], .iface 118 (.agg #[.pointer (some ⟨3, 61, none⟩)])]).run Tryz.prog w = .ok (.bool true) w := by kernel_rfl
theorem typeOf_missed (v : Value) (w : World) : (ReflectliteType.typeOf #[.iface 81 v]).run Tryz.prog w = .ok (.iface 118 (.agg #[.pointer (some ⟨3, 81, none⟩)])) w := by kernel_rfl
theorem valueOf_missed (x : Int) (w : World) : (ReflectliteValue.unpack (.iface 81 (.agg #[.int .i64 x]))).run Tryz.prog w = .ok (.agg #[.pointer (some ⟨3, 81, none⟩), .pointer (some ⟨w.heap.size, 0, none⟩), .int .u64 153]) (w.alloc (.cells #[.int .i64 x] 81)) := by kernel_rfl
theorem elemOf_missed (w : World) : (Rtype.elem? 84).run Tryz.prog w = .ok (some 81) w := by kernel_rfl
theorem mk_missed (a : Addr) (w : World) : (ReflectliteValue.mk 81 a ReflectliteValue.flagAddr).run Tryz.prog w = .ok (.agg #[.pointer (some ⟨3, 81, none⟩), .pointer (some a), .int .u64 409]) w := by kernel_rfl
theorem elemV_missed (a b : Addr) (W : World) (ha : W.cell? a = some (.pointer (some b))) :
    (ReflectliteValue.method (ReflectliteValue.valueError "reflectlite.Value.Elem" 0) ReflectliteValue.elem #[.agg #[.pointer (some ⟨3, 84, none⟩), .pointer (some a), .int .u64 150]]).run Tryz.prog W = .ok (.agg #[.pointer (some ⟨3, 81, none⟩), .pointer (some b), .int .u64 409]) W := by
  rw [rlm]
  simp only [Sem.run_bind, partsP_missed, Result.andThen]
  simp [ReflectliteValue.elem, loadVar, isAgg, underlying, Tryz.underlying84, ha, Result.andThen, elemOf_missed, mk_missed]
theorem partsA_missed (a : Addr) (w : World) : (ReflectliteValue.parts (.agg #[.pointer (some ⟨3, 81, none⟩), .pointer (some a), .int .u64 409])).run Tryz.prog w = .ok (some (81, a, 409)) w := by kernel_rfl
theorem parts_missed (a : Addr) (w : World) : (ReflectliteValue.parts (.agg #[.pointer (some ⟨3, 81, none⟩), .pointer (some a), .int .u64 153])).run Tryz.prog w = .ok (some (81, a, 153)) w := by kernel_rfl
theorem direct_missed (w : World) : (Rtype.directlyAssignable 81 81).run Tryz.prog w = .ok true w := by kernel_rfl

theorem assign_missed_missed (w : World) : (ReflectliteType.relation "AssignableTo" ReflectliteType.assignableTo #[.agg #[.pointer (some ⟨3, 81, none⟩)], .iface 118 (.agg #[.pointer (some ⟨3, 81, none⟩)])]).run Tryz.prog w = .ok (.bool true) w := by kernel_rfl

theorem assign_overwrote_missed (w : World) : (ReflectliteType.relation "AssignableTo" ReflectliteType.assignableTo #[.agg #[.pointer (some ⟨3, 82, none⟩)], .iface 118 (.agg #[.pointer (some ⟨3, 81, none⟩)])]).run Tryz.prog w = .ok (.bool false) w := by kernel_rfl

theorem no0_missed (v : Value) (xT : TypeId) (w : World) : (Instr.typeAssert (.iface 81 v) xT 123 true).run Tryz.prog w = .ok (.tuple #[.nilIface, .bool false]) w := run_typeAssert_lacksB Tryz.underlying123 (by kernel_rfl) (by kernel_rfl) v xT w

theorem no1_missed (v : Value) (xT : TypeId) (w : World) : (Instr.typeAssert (.iface 81 v) xT 126 true).run Tryz.prog w = .ok (.tuple #[.nilIface, .bool false]) w := run_typeAssert_lacksB Tryz.underlying126 (by kernel_rfl) (by kernel_rfl) v xT w

theorem no2_missed (v : Value) (xT : TypeId) (w : World) : (Instr.typeAssert (.iface 81 v) xT 127 true).run Tryz.prog w = .ok (.tuple #[.nilIface, .bool false]) w := run_typeAssert_lacksB Tryz.underlying127 (by kernel_rfl) (by kernel_rfl) v xT w

theorem valueOfP_overwrote (a : Addr) (w : World) : (ReflectliteValue.unpack (.iface 86 (.pointer (some a)))).run Tryz.prog w = .ok (.agg #[.pointer (some ⟨3, 86, none⟩), .pointer (some ⟨w.heap.size, 0, none⟩), .int .u64 150]) (w.alloc (.cells #[.pointer (some a)] 86)) := by kernel_rfl
theorem typeP_overwrote (a : Addr) (w : World) : (ReflectliteValue.methodAny (ReflectliteValue.valueError "reflectlite.Value.Type" 0) (fun t _ _ _ => ReflectliteType.toType t) #[.agg #[.pointer (some ⟨3, 86, none⟩), .pointer (some a), .int .u64 150]]).run Tryz.prog w = .ok (.iface 118 (.agg #[.pointer (some ⟨3, 86, none⟩)])) w := by kernel_rfl
theorem kindP_overwrote (w : World) : ((ReflectliteType.abiMethod fun t => (fun a : Nat => Value.int IntKind.u8 (a : Int)) <$> Rtype.kind t) #[.pointer (some ⟨3, 86, none⟩)]).run Tryz.prog w = .ok (.int .u8 22) w := by kernel_rfl
theorem kind_overwrote (w : World) : ((ReflectliteType.abiMethod fun t => (fun a : Nat => Value.int IntKind.u8 (a : Int)) <$> Rtype.kind t) #[.pointer (some ⟨3, 82, none⟩)]).run Tryz.prog w = .ok (.int .u8 25) w := by kernel_rfl
theorem partsP_overwrote (a : Addr) (w : World) : (ReflectliteValue.parts (.agg #[.pointer (some ⟨3, 86, none⟩), .pointer (some a), .int .u64 150])).run Tryz.prog w = .ok (some (86, a, 150)) w := by kernel_rfl
theorem isNilP_overwrote (a b : Addr) (W : World) (ha : W.cell? a = some (.pointer (some b))) :
    (ReflectliteValue.method (ReflectliteValue.valueError "reflectlite.Value.IsNil" 0) ReflectliteValue.isNil #[.agg #[.pointer (some ⟨3, 86, none⟩), .pointer (some a), .int .u64 150]]).run Tryz.prog W = .ok (.bool false) W := by
  rw [rlm]
  simp only [Sem.run_bind, partsP_overwrote, Result.andThen]
  simp [ReflectliteValue.isNil, loadVar, isAgg, underlying, Tryz.underlying86, ha, Result.andThen]
theorem elemT_overwrote (w : World) : (ReflectliteType.method ReflectliteType.elem #[.agg #[.pointer (some ⟨3, 86, none⟩)]]).run Tryz.prog w = .ok (.iface 118 (.agg #[.pointer (some ⟨3, 82, none⟩)])) w := by kernel_rfl
theorem impl_overwrote (w : World) : (ReflectliteType.relation "Implements" ReflectliteType.implements_ #[.agg #[.pointer (some ⟨3, 82, none⟩)], .iface 118 (.agg #[.pointer (some ⟨3, 61, none⟩)])]).run Tryz.prog w = .ok (.bool true) w := by kernel_rfl
theorem typeOf_overwrote (v : Value) (w : World) : (ReflectliteType.typeOf #[.iface 82 v]).run Tryz.prog w = .ok (.iface 118 (.agg #[.pointer (some ⟨3, 82, none⟩)])) w := by kernel_rfl
theorem valueOf_overwrote (x : Int) (w : World) : (ReflectliteValue.unpack (.iface 82 (.agg #[.int .i64 x]))).run Tryz.prog w = .ok (.agg #[.pointer (some ⟨3, 82, none⟩), .pointer (some ⟨w.heap.size, 0, none⟩), .int .u64 153]) (w.alloc (.cells #[.int .i64 x] 82)) := by kernel_rfl
theorem elemOf_overwrote (w : World) : (Rtype.elem? 86).run Tryz.prog w = .ok (some 82) w := by kernel_rfl
theorem mk_overwrote (a : Addr) (w : World) : (ReflectliteValue.mk 82 a ReflectliteValue.flagAddr).run Tryz.prog w = .ok (.agg #[.pointer (some ⟨3, 82, none⟩), .pointer (some a), .int .u64 409]) w := by kernel_rfl
theorem elemV_overwrote (a b : Addr) (W : World) (ha : W.cell? a = some (.pointer (some b))) :
    (ReflectliteValue.method (ReflectliteValue.valueError "reflectlite.Value.Elem" 0) ReflectliteValue.elem #[.agg #[.pointer (some ⟨3, 86, none⟩), .pointer (some a), .int .u64 150]]).run Tryz.prog W = .ok (.agg #[.pointer (some ⟨3, 82, none⟩), .pointer (some b), .int .u64 409]) W := by
  rw [rlm]
  simp only [Sem.run_bind, partsP_overwrote, Result.andThen]
  simp [ReflectliteValue.elem, loadVar, isAgg, underlying, Tryz.underlying86, ha, Result.andThen, elemOf_overwrote, mk_overwrote]
theorem partsA_overwrote (a : Addr) (w : World) : (ReflectliteValue.parts (.agg #[.pointer (some ⟨3, 82, none⟩), .pointer (some a), .int .u64 409])).run Tryz.prog w = .ok (some (82, a, 409)) w := by kernel_rfl
theorem parts_overwrote (a : Addr) (w : World) : (ReflectliteValue.parts (.agg #[.pointer (some ⟨3, 82, none⟩), .pointer (some a), .int .u64 153])).run Tryz.prog w = .ok (some (82, a, 153)) w := by kernel_rfl
theorem direct_overwrote (w : World) : (Rtype.directlyAssignable 82 82).run Tryz.prog w = .ok true w := by kernel_rfl

theorem assign_missed_overwrote (w : World) : (ReflectliteType.relation "AssignableTo" ReflectliteType.assignableTo #[.agg #[.pointer (some ⟨3, 81, none⟩)], .iface 118 (.agg #[.pointer (some ⟨3, 82, none⟩)])]).run Tryz.prog w = .ok (.bool false) w := by kernel_rfl

theorem assign_overwrote_overwrote (w : World) : (ReflectliteType.relation "AssignableTo" ReflectliteType.assignableTo #[.agg #[.pointer (some ⟨3, 82, none⟩)], .iface 118 (.agg #[.pointer (some ⟨3, 82, none⟩)])]).run Tryz.prog w = .ok (.bool true) w := by kernel_rfl

theorem no0_overwrote (v : Value) (xT : TypeId) (w : World) : (Instr.typeAssert (.iface 82 v) xT 123 true).run Tryz.prog w = .ok (.tuple #[.nilIface, .bool false]) w := run_typeAssert_lacksB Tryz.underlying123 (by kernel_rfl) (by kernel_rfl) v xT w

theorem no1_overwrote (v : Value) (xT : TypeId) (w : World) : (Instr.typeAssert (.iface 82 v) xT 126 true).run Tryz.prog w = .ok (.tuple #[.nilIface, .bool false]) w := run_typeAssert_lacksB Tryz.underlying126 (by kernel_rfl) (by kernel_rfl) v xT w

theorem no2_overwrote (v : Value) (xT : TypeId) (w : World) : (Instr.typeAssert (.iface 82 v) xT 127 true).run Tryz.prog w = .ok (.tuple #[.nilIface, .bool false]) w := run_typeAssert_lacksB Tryz.underlying127 (by kernel_rfl) (by kernel_rfl) v xT w

end Go.Proofs.YtaokopipgolmbaaGreatDoor.As
