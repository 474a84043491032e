/- The program: what may be asked. -/
import Derived.Test.YtjgfbcmgnjgapaaDoorAkT
import Derived.Test.YtjgfbcmgnjgapaaDoorAkG
namespace Go.Proofs.YtjgfbcmgnjgapaaDoor
open Go.RowKit
set_option linter.unusedVariables false
set_option maxRecDepth 100000

set_option maxRecDepth 100000
theorem keyFits_c (has : Bool) (s : ByteArray) (w : World) (hs : s.size ≤ maxLen) : Calls Tryd.prog 26 #[.bool has, .string s] w fun e w' => e = .returned (.bool (if has then keyB s else decide (s.size = 0))) ∧ w' = w := by
 have he := str_emp s
 cases has
 ·
  go_enter Tryd.func26, Tryd.ntmps26
  go_wp2
  go_ret
  exact ⟨by simp, rfl⟩
 ·
  go_enter Tryd.func26, Tryd.ntmps26
  go_wp2_with fail
  refine (implKey s w hs).mono ?_
  rintro e w' ⟨rfl, rfl⟩
  go_wp2
  go_ret
  exact ⟨rfl, rfl⟩
theorem numFits_c (has : Bool) (n : Int) (w : World) : Calls Tryd.prog 27 #[.bool has, .int .i64 n] w fun e w' => e = .returned (.bool (if has then numB n else decide (n = 0))) ∧ w' = w := by
 cases has
 ·
  go_enter Tryd.func27, Tryd.ntmps27
  go_wp2
  go_ret
  exact ⟨by simp; rfl, rfl⟩
 ·
  go_enter Tryd.func27, Tryd.ntmps27
  go_wp2_with fail
  refine (implNum n w).mono ?_
  rintro e w' ⟨rfl, rfl⟩
  go_wp2
  go_ret
  exact ⟨rfl, rfl⟩
/-- the form of a kind -/
theorem Glf.at_ {W : World} (h : Glf W) {k : Nat} (h1 : 1 ≤ k) (h9 : k ≤ 9) : W.cell? ⟨0, k * 4, none⟩ = some (.string (wordK k)) ∧ W.cell? ⟨0, k * 4 + 1, none⟩ = some (.bool (keyK k)) ∧
  W.cell? ⟨0, k * 4 + 2, none⟩ = some (.bool (hiK k)) ∧ W.cell? ⟨0, k * 4 + 3, none⟩ = some (.bool (numK k)) := by
 have : k = 1 ∨ k = 2 ∨ k = 3 ∨ k = 4 ∨ k = 5 ∨ k = 6 ∨ k = 7 ∨ k = 8 ∨ k = 9 := by omega
 rcases this with rfl | rfl | rfl | rfl | rfl | rfl | rfl | rfl | rfl
 ·
  exact h.f1
 ·
  exact h.f2
 ·
  exact h.f3
 ·
  exact h.f4
 ·
  exact h.f5
 ·
  exact h.f6
 ·
  exact h.f7
 ·
  exact h.f8
 ·
  exact h.f9
set_option maxHeartbeats 2000000 in
theorem implAskOk (q : Q4) (w : World) (hq1 : FitQ q) (G : Glf w) : Calls Tryd.prog 11 #[.agg #[.int .i64 q.kind, .string q.key, .string q.hi, .int .i64 q.num]] w fun e w' => e = .returned (.bool (askB q)) ∧ Below w.heap.size w w' := by
 obtain ⟨kind, key, hi, num⟩ := q
 dsimp only
 obtain ⟨W, e0, hs, Bq, hb⟩ := al1 w rfl #[.int .i64 kind, .string key, .string hi, .int .i64 num] 24
 have q0 := Bq.c4
 by_cases h1 : kind < 1
 ·
  have d1 : decide (kind < 1) = true := decide_eq_true h1
  have HA : askB ⟨kind, key, hi, num⟩ = false := by unfold askB; rw [decide_eq_false (show ¬ 1 ≤ kind from by omega)]; rfl
  rw [HA]
  go_enter Tryd.func11, Tryd.ntmps11
  go_wp2
  go_ret
  exact ⟨rfl, hb⟩
 ·
  by_cases h9 : 9 < kind
  ·
   have d1 : decide (kind < 1) = false := decide_eq_false h1
   have d2 : decide (9 < kind) = true := decide_eq_true h9
   have HA : askB ⟨kind, key, hi, num⟩ = false := by unfold askB; rw [decide_eq_false (show ¬ kind ≤ 9 from by omega)]; simp
   rw [HA]
   go_enter Tryd.func11, Tryd.ntmps11
   go_wp2
   go_ret
   exact ⟨rfl, hb⟩
  ·
   obtain ⟨k, hk1, hk9, rfl⟩ : ∃ k : Nat, 1 ≤ k ∧ k ≤ 9 ∧ kind = k := ⟨kind.toNat, by omega, by omega, by omega⟩
   have d1 : decide ((k : Int) < 1) = false := decide_eq_false h1
   have d2 : decide (9 < (k : Int)) = false := decide_eq_false h9
   have HA : Hid (askB ⟨k, key, hi, num⟩ = ((if keyK (k : Int) then keyB key else decide (key.size = 0)) && (if hiK (k : Int) then keyB hi else decide (hi.size = 0)) && (if numK (k : Int) then numB num else decide (num = 0)))) := Lib.hid (by unfold askB; rw [decide_eq_true (show 1 ≤ (k : Int) from by omega), decide_eq_true (show (k : Int) ≤ 9 from by omega)]; simp [keyQ, hiQ, numQ])
   have hi0 : (0 : Int) ≤ (k : Int) := by omega
   have hi1 : (k : Int) < 10 := by omega
   have g0 := (G.next hb).at_ hk1 hk9
   obtain ⟨KK, HK, NK, WK, HH⟩ : ∃ a b c d, Hid (keyK (k : Int) = a ∧ hiK (k : Int) = b ∧ numK (k : Int) = c ∧ wordK (k : Int) = d) := ⟨_, _, _, _, Lib.hid ⟨rfl, rfl, rfl, rfl⟩⟩
   rw [HH.out.1, HH.out.2.1, HH.out.2.2.1] at HA
   rw [HH.out.1, HH.out.2.1, HH.out.2.2.1, HH.out.2.2.2] at g0
   obtain ⟨W1, e1, hs1, Bf, hb1⟩ := al1 W hs #[.string WK, .bool KK, .bool HK, .bool NK] 39
   have q1 := (Bq.next hb1).c4
   have f1 := Bf.c4
   obtain ⟨KB, HB, NB, HC⟩ : ∃ a b c, Hid ((if KK then keyB key else decide (key.size = 0)) = a ∧ (if HK then keyB hi else decide (hi.size = 0)) = b ∧ (if NK then numB num else decide (num = 0)) = c) := ⟨_, _, _, Lib.hid ⟨rfl, rfl, rfl⟩⟩
   rw [HC.out.1, HC.out.2.1, HC.out.2.2] at HA
   rw [HA.out]
   have hb2 := below_next hb hb1
   clear HH HA Bq Bf hb hb1
   cases KB
   ·
    go_enter Tryd.func11, Tryd.ntmps11
    go_wp2_with (go_at_call 26; refine (keyFits_c KK key _ hq1.2.1).mono ?_; rw [HC.out.1]; rintro e w' ⟨rfl, rfl⟩)
    go_ret
    exact ⟨rfl, hb2⟩
   ·
    cases HB
    ·
     go_enter Tryd.func11, Tryd.ntmps11
     go_wp2_with (first | (go_at_call 26; refine (keyFits_c KK key _ hq1.2.1).mono ?_; rw [HC.out.1]; rintro e w' ⟨rfl, rfl⟩) | (go_at_call 26; refine (keyFits_c HK hi _ hq1.2.2.1).mono ?_; rw [HC.out.2.1]; rintro e w' ⟨rfl, rfl⟩))
     go_ret
     exact ⟨rfl, hb2⟩
    ·
     go_enter Tryd.func11, Tryd.ntmps11
     go_wp2_with (first | (go_at_call 26; refine (keyFits_c KK key _ hq1.2.1).mono ?_; rw [HC.out.1]; rintro e w' ⟨rfl, rfl⟩) | (go_at_call 26; refine (keyFits_c HK hi _ hq1.2.2.1).mono ?_; rw [HC.out.2.1]; rintro e w' ⟨rfl, rfl⟩) | (go_at_call 27; refine (numFits_c NK num _).mono ?_; rw [HC.out.2.2]; rintro e w' ⟨rfl, rfl⟩))
     go_ret
     exact ⟨rfl, hb2⟩
end Go.Proofs.YtjgfbcmgnjgapaaDoor
