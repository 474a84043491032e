/- HallNew: halls that are new: how the laws compare them, mark them, and hold them. -/
import Derived.Test.YtheblejlmlfddaaHnM
namespace Go.Proofs.Ytheblejlmlfddaa
open Go.RowKit
set_option linter.unusedVariables false
set_option maxRecDepth 100000
section
variable {w : World} {g base b1 b2 : Nat} {A A' B B' : Option Addr} {n n' c c' m m' d d' : Nat}
theorem ow0 (w : World) (base : Nat) : ∀ x ∈ [g0, g0, g0], OwTT w base x := by
 intro x hx
 obtain rfl : x = g0 := by simpa using hx
 exact ⟨OwnG.nil _ _, OwnG.nil _ _⟩
theorem tot0 : totalTT [g0, g0, g0] ≤ 1048576 := by decide

set_option maxHeartbeats 2000000 in
theorem eqHallN (o1 : OwnG w b1 (.slice A n c) ([] : List V)) (o2 : OwnG w b1 (.slice B m d) [g0, g0, g0]) (p1 : OwnG w b2 (.slice A' n' c') ([] : List V)) (p2 : OwnG w b2 (.slice B' m' d') [g0, g0, g0]) :
  Calls Try.prog 8 #[.agg #[.int .i64 0, .slice A n c, .slice B m d], .agg #[.int .i64 0, .slice A' n' c', .slice B' m' d']] w fun e w' => e = .returned (.bool true) ∧ Below w.heap.size w w' := by
 obtain ⟨W1, e1, hs1, P1, hb1⟩ := al1 w rfl #[.int .i64 0, .slice A n c, .slice B m d] 27
 obtain ⟨W2, e2, hs2, R2, hb2⟩ := al1 W1 hs1 #[.int .i64 0, .slice A' n' c', .slice B' m' d'] 27
 have hbw := below_next hb1 hb2
 have P2 := P1.next hb2
 have q2 := P2.c3
 have r2 := R2.c3
 have HS := Lib.hid (sameB_refl 0 ([] : List V))
 go_enter Try.func8, Try.ntmps8
 go_wp2_with fail
 refine (eqVers_c 0 0 _ _ [] [] _ _ _ (o1.next hbw) (p1.next hbw) (by simp) (by simp)).mono ?_
 rw [HS.out]
 rintro e w1 ⟨rfl, hbu⟩
 have q3 := (P2.next hbu).c3
 have r3 := (R2.next hbu).c3
 have hbx := below_next hbw hbu
 obtain ⟨hm, -, -, k1⟩ := o2.rd'
 obtain ⟨hm', -, -, k2⟩ := p2.rd'
 subst hm hm'
 go_wp2_with fail
 refine (eqTalkS_c B B' _ _ [g0, g0, g0] [g0, g0, g0] _ rfl tot0 (k1.next hbx) (k2.next hbx) (ow0 _ b1) (ow0 _ b2)).mono ?_
 rintro e w2 ⟨rfl, hbv⟩
 go_wp2
 go_ret
 exact ⟨rfl, below_next hbx hbv⟩

theorem one4 : ((1 + 4 * ([] : List V).length : Nat) : Int) = 1 := rfl
theorem one40 : ((1 + 4 * 0 : Nat) : Int) = 1 := rfl
theorem mL0 : [g0, g0, g0] = mL 0 := rfl
theorem mL3_len : (mL 3).length = 3 := rfl
set_option maxHeartbeats 2000000 in
theorem markHallN (o : OwnG w base (.slice (some ⟨g, 0, none⟩) 3 3) [g0, g0, g0]) :
  Calls Try.prog 9 #[.agg #[.int .i64 0, .slice none 0 0, .slice (some ⟨g, 0, none⟩) 3 3], .int .i64 1] w fun e w' => e = .returned (.int .i64 19) ∧ OwnG w' base (.slice (some ⟨g, 0, none⟩) 3 3) (mL 3) ∧ Chg (fun k => k = g) w w' := by
 obtain ⟨W1, e1, hs1, P1, hb1⟩ := al1 w rfl #[.int .i64 0, .slice none 0 0, .slice (some ⟨g, 0, none⟩) 3 3] 27
 have q1 := P1.c3
 go_enter Try.func9, Try.ntmps9
 go_wp2_with fail
 refine (markVers_c 0 (.slice none 0 0) [] base 1 _ (OwnG.nil _ _) (by omega) (by simp)).mono ?_
 rintro e w2 ⟨rfl, -, hg⟩
 rw [one4]
 have hb2 : Below W1.heap.size W1 w2 := belowGrow (Below.refl _ _) hg (fun k hk => by simp [Value.ownBlock] at hk)
 have hbw := below_next hb1 hb2
 have q2 := (P1.next hb2).c3
 have o2 := o.next hbw
 rcases o2.cases with ⟨h, -⟩ | ⟨g', cap, cur, h, hbg, hblk, hl, hm, hs, ht⟩
 ·
  cases h
 injection h with h1 h2 h3
 injection h1 with h1
 injection h1 with h1
 subst h1 h3
 have hsz : cur.size = 24 := hs
 obtain ⟨-, -, -, hrd⟩ := o2.rd'
 have hf : FillG (mL 0) cur 3 := by
  intro j r hj hr k u hu
  obtain ⟨b, o', e, -, hc⟩ := hrd j r hr
  injection e with e
  injection e with ea eb
  subst ea eb
  have := hc k u hu
  rw [hblk.cell] at this
  simpa using this
 go_wp2_with fail
 refine (markTalkS_c _ hblk hsz hf).mono ?_
 rintro e w3 ⟨rfl, cs, B3, hs3, hf3, k3⟩
 go_wp2
 go_ret
 exact ⟨rfl, OwnG.of_fill (mL 3) mL3_len hbg B3 (Nat.le_refl _) (by unfold maxLen; decide) hs3 hf3, (Chg.of_below hbw).trans k3 fun _ _ h => h⟩

set_option maxHeartbeats 2000000 in
theorem heldHallN (o : OwnG w base (.slice (some ⟨g, 0, none⟩) 3 3) (mL 3)) :
  Calls Try.prog 10 #[.agg #[.int .i64 0, .slice none 0 0, .slice (some ⟨g, 0, none⟩) 3 3], .int .i64 1] w fun e w' => e = .returned (.int .i64 19) ∧ Below w.heap.size w w' := by
 obtain ⟨W1, e1, hs1, P1, hb1⟩ := al1 w rfl #[.int .i64 0, .slice none 0 0, .slice (some ⟨g, 0, none⟩) 3 3] 27
 have q1 := P1.c3
 go_enter Try.func10, Try.ntmps10
 go_wp2_with fail
 refine (heldVers_c 0 (.slice none 0 0) 0 base 1 _ (OwnG.nil _ _) (by omega) (by omega)).mono ?_
 rintro e w2 ⟨rfl, hb2⟩
 rw [one40]
 have hbw := below_next hb1 hb2
 have q2 := (P1.next hb2).c3
 obtain ⟨-, -, -, hrd⟩ := (o.next hbw).rd'
 go_wp2_with fail
 refine (heldTalkS_c _ hrd).mono ?_
 rintro e w3 ⟨rfl, hb3⟩
 go_wp2
 go_ret
 exact ⟨rfl, below_next hbw hb3⟩
end
end Go.Proofs.Ytheblejlmlfddaa
