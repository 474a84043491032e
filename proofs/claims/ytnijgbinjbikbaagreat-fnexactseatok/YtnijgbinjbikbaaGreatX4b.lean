/- The program's chapter 4: seats that are one, that are right, that are copied. -/
import Derived.Test.YtnijgbinjbikbaaGreatY4a
import Derived.Test.YtnijgbinjbikbaaGreatF4
import Derived.Test.YtnijgbinjbikbaaGreatX3n
import Derived.Test.YtnijgbinjbikbaaGreatX3f
import Derived.Test.YtnijgbinjbikbaaGreatX3e
namespace Go.Proofs.YtnijgbinjbikbaaGreat
open Go.RowKit
set_option linter.unusedVariables false
set_option maxRecDepth 100000

section
variable {v u u' : Value} {z a a' : Int} {l : List V} {ws ws' : List X} {on bad on' bad' : Bool} {base base' : Nat} {w : World}
set_option maxHeartbeats 2000000 in
theorem implSeatSameO (h : OwnG w base u ws) (h' : OwnG w base' u' ws') (hl : ws.length ≤ 2097152) (hl' : ws'.length ≤ 2097152) :
  Calls Tryz.prog 7 #[.agg #[.bool on, .bool bad, .int .i64 a, u], .agg #[.bool on', .bool bad', .int .i64 a', u']] w fun e w' => e = .returned (.bool (sameS ⟨on, bad, a, ws⟩ ⟨on', bad', a', ws'⟩)) ∧ Below w.heap.size w w' := by
 obtain ⟨B, d, rfl, -, -, -⟩ := h.read
 obtain ⟨B', d', rfl, -, -, -⟩ := h'.read
 obtain ⟨W, e0, hs, B0, hb0⟩ := al1 w rfl #[.bool on, .bool bad, .int .i64 a, .slice B ws.length d] 27
 obtain ⟨W1, e1, hs1, B1, hb1⟩ := al1 W hs #[.bool on', .bool bad', .int .i64 a', .slice B' ws'.length d'] 27
 have q0 := (B0.next hb1).c4
 have q1 := B1.c4
 have hb := below_next hb0 hb1
 have o := h.next hb
 have o' := h'.next hb
 have HS : Hid (sameS ⟨on, bad, a, ws⟩ ⟨on', bad', a', ws'⟩ = ((on == on') && (bad == bad') && sameW a a' ws ws')) := Lib.hid rfl
 obtain ⟨SB, HSB⟩ : ∃ SB, Hid (sameW a a' ws ws' = SB) := ⟨_, Lib.hid rfl⟩
 rw [HS.out, HSB.out]
 clear hb0 hb1 HS B0 B1 h h'
 cases x1 : (on == on')
 ·
  go_enter Tryz.func7, Tryz.ntmps7
  go_wp2
  go_ret
  exact ⟨rfl, hb⟩
 ·
  cases x2 : (bad == bad')
  ·
   go_enter Tryz.func7, Tryz.ntmps7
   go_wp2
   go_ret
   exact ⟨rfl, hb⟩
  ·
   go_enter Tryz.func7, Tryz.ntmps7
   go_wp2_with fail
   refine (implWorkSameO o o' hl hl').mono ?_
   rw [HSB.out]
   rintro e w' ⟨rfl, hb2⟩
   go_wp2
   go_ret
   exact ⟨rfl, below_next hb hb2⟩
theorem sameW_zero (a : Int) (ws : List X) : sameW a 0 ws [] = (decide (a = 0) && decide (ws.length = 0)) := by
 apply Bool.eq_iff_iff.2
 rw [sameW_iff, Bool.and_eq_true, decide_eq_true_eq, decide_eq_true_eq, List.length_eq_zero_iff]
set_option maxHeartbeats 2000000 in
theorem implSeatOkO (h : OwnG w base v l) (h' : OwnG w base' u ws) (hf : FitVs l) (hfx : FitXs ws) (hl : l.length ≤ 1048576) (hlx : ws.length ≤ 1048576) :
  Calls Tryz.prog 9 #[.agg #[.int .i64 z, v], .agg #[.bool on, .bool bad, .int .i64 a, u]] w fun e w' => e = .returned (.bool (seatB z l ⟨on, bad, a, ws⟩)) ∧ Below w.heap.size w w' := by
 obtain ⟨A, c, rfl, -, -, -⟩ := h.read
 obtain ⟨B, d, rfl, -, -, -⟩ := h'.read
 obtain ⟨W, e0, hs, B0, hb0⟩ := al1 w rfl #[.int .i64 z, .slice A l.length c] 32
 obtain ⟨W1, e1, hs1, B1, hb1⟩ := al1 W hs #[.bool on, .bool bad, .int .i64 a, .slice B ws.length d] 27
 have b0 := B0.next hb1
 have q0 := b0.c2
 have q1 := B1.c4
 have hb := below_next hb0 hb1
 have o := h.next hb
 have o' := h'.next hb
 clear hb0 hb1 B0 h h'
 cases on
 ·
  have HS : Hid (seatB z l ⟨false, bad, a, ws⟩ = (versB z l && (!bad && sameW a 0 ws []))) := Lib.hid (by rw [sameW_zero, ← Bool.and_assoc (!bad)]; rfl)
  obtain ⟨VB, SB, HB⟩ : ∃ VB SB, Hid (versB z l = VB ∧ sameW a 0 ws [] = SB) := ⟨_, _, Lib.hid ⟨rfl, rfl⟩⟩
  rw [HS.out, HB.out.1, HB.out.2]
  cases VB
  ·
   go_enter Tryz.func9, Tryz.ntmps9
   go_wp2_with fail
   refine (implVersOkO o hf).mono ?_
   rw [HB.out.1]
   rintro e w' ⟨rfl, hb2⟩
   go_wp2
   go_ret
   exact ⟨rfl, below_next hb hb2⟩
  ·
   cases bad
   ·
    go_enter Tryz.func9, Tryz.ntmps9
    go_wp2_with fail
    refine (implVersOkO o hf).mono ?_
    rw [HB.out.1]
    rintro e w' ⟨rfl, hb2⟩
    have q2 := (B1.next hb2).c4
    have o2 := o'.next hb2
    go_wp2_with fail
    refine (implWorkSameO o2 (OwnG.nil (α := X) _ 0) (by omega) (by simp)).mono ?_
    rw [HB.out.2]
    rintro e w'' ⟨rfl, hb3⟩
    go_wp2
    go_ret
    exact ⟨rfl, below_next (below_next hb hb2) hb3⟩
   ·
    go_enter Tryz.func9, Tryz.ntmps9
    go_wp2_with fail
    refine (implVersOkO o hf).mono ?_
    rw [HB.out.1]
    rintro e w' ⟨rfl, hb2⟩
    have q2 := (B1.next hb2).c4
    go_wp2
    go_ret
    exact ⟨rfl, below_next hb hb2⟩
 ·
  have HS : Hid (seatB z l ⟨true, bad, a, ws⟩ = workB z l a ws) := Lib.hid (by
   unfold seatB
   cases hw : workB z l a ws
   ·
    simp [hw]
   ·
    simp [hw, versB_yes (workB_iff.1 hw).vers])
  rw [HS.out]
  go_enter Tryz.func9, Tryz.ntmps9
  go_wp2_with fail
  refine (implWorkOkO o o' hf hfx hl hlx).mono ?_
  rintro e w' ⟨rfl, hb2⟩
  go_wp2
  go_ret
  exact ⟨rfl, below_next hb hb2⟩
end
end Go.Proofs.YtnijgbinjbikbaaGreat
