/- errors.Is at errors of errors.New's make: the same one, and another one. (After the guide's SentryIs.) What the program's two errors hold when a call begins. -/
import Derived.Test.YtilcncnhkidndaaDoorL5t
import Derived.LaidEql
import Derived.Stop.Asserts
import Derived.RowKitTokens
namespace Go.Proofs.YtilcncnhkidndaaDoor
open Go.RowKit Go.Extern.Stop Go.Stop Go.Extern
set_option linter.unusedVariables false
set_option maxRecDepth 100000

theorem is_typeOf (v : Value) (w : World) : (Extern.ReflectliteType.typeOf #[.iface 87 v]).run Tryd.prog w = .ok (.iface 77 (.agg #[.pointer (some ⟨2, 87, none⟩)])) w := by kernel_rfl
theorem is_comparable (w : World) : ((Extern.ReflectliteType.method fun t => do Go.Extern.Rtype.noPackHeld "Comparable" t; pure (.bool (← typeInfo t).comparable)) #[.agg #[.pointer (some ⟨2, 87, none⟩)]]).run Tryd.prog w = .ok (.bool true) w := by kernel_rfl
theorem is_callComparable (w : World) : (callFunc 80 #[.agg #[.pointer (some ⟨2, 87, none⟩)]]).run Tryd.prog w = .ok (.value (.bool true)) w := by
 rw [@run_callFunc_extern Tryd.prog 80 _ (Extern.ReflectliteType.method fun t => do Go.Extern.Rtype.noPackHeld "Comparable" t; pure (.bool (← typeInfo t).comparable)) Tryd.func80 (by kernel_rfl) (by kernel_rfl) (by kernel_rfl) (by kernel_rfl), is_comparable]
 rfl
theorem is_mComparable (v : Value) (w : World) : (Go.method 227 77 v "Comparable").run Tryd.prog w = .ok (80, v) w := by kernel_rfl
theorem is_comp : (Tryd.prog.info? 87).map (·.comparable) = some true := by kernel_rfl
theorem is_size : (Tryd.prog.info? 114).map (·.size) = some 1 := by kernel_rfl
theorem is_noIs (v : Value) (xT : TypeId) (w : World) : (Instr.typeAssert (.iface 87 v) xT 79 true).run Tryd.prog w = .ok (.tuple #[.nilIface, .bool false]) w := run_typeAssert_lacksB Tryd.underlying79 (by kernel_rfl) (by kernel_rfl) v xT w
theorem is_noUnwrap (v : Value) (xT : TypeId) (w : World) : (Instr.typeAssert (.iface 87 v) xT 82 true).run Tryd.prog w = .ok (.tuple #[.nilIface, .bool false]) w := run_typeAssert_lacksB Tryd.underlying82 (by kernel_rfl) (by kernel_rfl) v xT w
theorem is_noUnwraps (v : Value) (xT : TypeId) (w : World) : (Instr.typeAssert (.iface 87 v) xT 84 true).run Tryd.prog w = .ok (.tuple #[.nilIface, .bool false]) w := run_typeAssert_lacksB Tryd.underlying84 (by kernel_rfl) (by kernel_rfl) v xT w

theorem is_same (a : Addr) (w : World) :
  Calls Tryd.prog 44 #[.iface 87 (.pointer (some a)), .iface 87 (.pointer (some a))] w fun e w' => e = .returned (.bool true) ∧ w' = w := by
 obtain ⟨i, hi, hcmp⟩ := Option.map_eq_some_iff.1 is_comp
 obtain ⟨j, hj, hjs⟩ := Option.map_eq_some_iff.1 is_size
 have h8 := @run_callFunc_extern Tryd.prog 53 _ Extern.ReflectliteType.typeOf Tryd.func53 (by kernel_rfl) (by kernel_rfl) (by kernel_rfl) (by kernel_rfl)
 have tT := is_typeOf
 have cT := is_callComparable
 have mR := is_mComparable
 have heq := run_eql_iface_ptr_same (P := Tryd.prog) w a Tryd.underlying52 Tryd.underlying87 hi hcmp hj
 go_enter Tryd.func44, Tryd.ntmps44
 go_wp2
 refine wp_loop_rounds 1 ?_
 rw [rounds_succ]
 go_wp2
 go_ret
 exact ⟨rfl, rfl⟩
theorem is_other (a b : Addr) (ca cb : Array Value) (ta tb : TypeId) (w : World) (hne : a ≠ b) (ha : w.heap[a.block]? = some (.cells ca ta (0, 0))) (hb : w.heap[b.block]? = some (.cells cb tb (0, 0))) :
  Calls Tryd.prog 44 #[.iface 87 (.pointer (some a)), .iface 87 (.pointer (some b))] w fun e w' => e = .returned (.bool false) ∧ w' = w := by
 obtain ⟨i, hi, hcmp⟩ := Option.map_eq_some_iff.1 is_comp
 obtain ⟨j, hj, hjs⟩ := Option.map_eq_some_iff.1 is_size
 have h8 := @run_callFunc_extern Tryd.prog 53 _ Extern.ReflectliteType.typeOf Tryd.func53 (by kernel_rfl) (by kernel_rfl) (by kernel_rfl) (by kernel_rfl)
 have tT := is_typeOf
 have cT := is_callComparable
 have mR := is_mComparable
 have nE := is_noIs
 have uE := is_noUnwrap
 have vE := is_noUnwraps
 have heq := run_eql_iface_ptr_other (P := Tryd.prog) w Tryd.underlying52 Tryd.underlying87 hi hcmp hj (by rw [hjs]; decide) hne ha hb
 go_enter Tryd.func44, Tryd.ntmps44
 go_wp2
 refine wp_loop_rounds 1 ?_
 rw [rounds_succ]
 go_wp2
 go_ret
 exact ⟨rfl, rfl⟩

/-- an error of errors.New's make -/
abbrev erV (a : Addr) : Value := .iface 87 (.pointer (some a))
/-- the program's two errors are as its text lays them: two different ones -/
structure GlE (W : World) (a0 a1 : Addr) : Prop where
 c0 : W.cell? ⟨0, 0, none⟩ = some (erV a0)
 c1 : W.cell? ⟨1, 0, none⟩ = some (erV a1)
 ne : a0 ≠ a1
 b0 : ∃ cs t, W.heap[a0.block]? = some (.cells cs t (0, 0))
 b1 : ∃ cs t, W.heap[a1.block]? = some (.cells cs t (0, 0))
 low : 2 ≤ W.heap.size
theorem GlE.below {W W' : World} {B : Nat} {a0 a1 : Addr} (h : GlE W a0 a1) (hb : Below B W W') (hB : 2 ≤ B) (h0 : a0.block < B) (h1 : a1.block < B) : GlE W' a0 a1 := by
 obtain ⟨c0, t0, e0⟩ := h.b0
 obtain ⟨c1, t1, e1⟩ := h.b1
 exact ⟨(hb.cell (p := ⟨0, 0, none⟩) (by show 0 < B; omega)).trans h.c0, (hb.cell (p := ⟨1, 0, none⟩) (by show 1 < B; omega)).trans h.c1, h.ne,
  ⟨c0, t0, (hb.block _ h0).trans e0⟩, ⟨c1, t1, (hb.block _ h1).trans e1⟩, Nat.le_trans h.low hb.size⟩
theorem GlE.lt {W : World} {a0 a1 : Addr} (h : GlE W a0 a1) : a0.block < W.heap.size ∧ a1.block < W.heap.size := by
 obtain ⟨c0, t0, e0⟩ := h.b0
 obtain ⟨c1, t1, e1⟩ := h.b1
 constructor
 ·
  rcases Nat.lt_or_ge a0.block W.heap.size with hl | hge
  ·
   exact hl
  ·
   rw [Array.getElem?_eq_none hge] at e0; cases e0
 ·
  rcases Nat.lt_or_ge a1.block W.heap.size with hl | hge
  ·
   exact hl
  ·
   rw [Array.getElem?_eq_none hge] at e1; cases e1
theorem GlE.next {W W' : World} {a0 a1 : Addr} (h : GlE W a0 a1) (hb : Below W.heap.size W W') : GlE W' a0 a1 := h.below hb h.low h.lt.1 h.lt.2
end Go.Proofs.YtilcncnhkidndaaDoor
