/- The program's chapter 4: seats that are one, that are right, that are copied. -/
import Derived.Test.YtheblejlmlfddaaY4a
import Derived.Test.YtheblejlmlfddaaF4
import Derived.Test.YtheblejlmlfddaaX3n
namespace Go.Proofs.Ytheblejlmlfddaa
open Go.RowKit
set_option linter.unusedVariables false
set_option maxRecDepth 100000

section
variable {v u u' : Value} {z a a' : Int} {l : List V} {ws ws' : List X} {on bad on' bad' : Bool} {base base' : Nat} {w : World}
set_option maxHeartbeats 2000000 in
theorem implSeatSameO (h : OwnG w base u ws) (h' : OwnG w base' u' ws') (hl : ws.length ≤ 2097152) (hl' : ws'.length ≤ 2097152) :
  Calls Try.prog 58 #[.agg #[.bool on, .bool bad, .int .i64 a, u], .agg #[.bool on', .bool bad', .int .i64 a', u']] w fun e w' => e = .returned (.bool (sameS ⟨on, bad, a, ws⟩ ⟨on', bad', a', ws'⟩)) ∧ Below w.heap.size w w' := by
 obtain ⟨B, d, rfl, -, -, -⟩ := h.read
 obtain ⟨B', d', rfl, -, -, -⟩ := h'.read
 obtain ⟨W, e0, hs, B0, hb0⟩ := al1 w rfl #[.bool on, .bool bad, .int .i64 a, .slice B ws.length d] 54
 obtain ⟨W1, e1, hs1, B1, hb1⟩ := al1 W hs #[.bool on', .bool bad', .int .i64 a', .slice B' ws'.length d'] 54
 have q0 := (B0.next hb1).c4
 have q1 := B1.c4
 have hb := below_next hb0 hb1
 have o := h.next hb
 have o' := h'.next hb
 have HS : Hid (sameS ⟨on, bad, a, ws⟩ ⟨on', bad', a', ws'⟩ = ((on == on') && (bad == bad') && sameW a a' ws ws')) := Lib.hid rfl
 obtain ⟨SB, HSB⟩ : ∃ SB, Hid (sameW a a' ws ws' = SB) := ⟨_, Lib.hid rfl⟩
 rw [HS.out, HSB.out]
 clear hb0 hb1 HS B0 B1 h h'
 cases x1 : (on == on')
 ·
  go_enter Try.func58, Try.ntmps58
  go_wp2
  go_ret
  exact ⟨rfl, hb⟩
 ·
  cases x2 : (bad == bad')
  ·
   go_enter Try.func58, Try.ntmps58
   go_wp2
   go_ret
   exact ⟨rfl, hb⟩
  ·
   go_enter Try.func58, Try.ntmps58
   go_wp2_with fail
   refine (implWorkSameO o o' hl hl').mono ?_
   rw [HSB.out]
   rintro e w' ⟨rfl, hb2⟩
   go_wp2
   go_ret
   exact ⟨rfl, below_next hb hb2⟩
theorem sameW_zero (a : Int) (ws : List X) : sameW a 0 ws [] = (decide (a = 0) && decide (ws.length = 0)) := by
 apply Bool.eq_iff_iff.2
 rw [sameW_iff, Bool.and_eq_true, decide_eq_true_eq, decide_eq_true_eq, List.length_eq_zero_iff]
end
end Go.Proofs.Ytheblejlmlfddaa
