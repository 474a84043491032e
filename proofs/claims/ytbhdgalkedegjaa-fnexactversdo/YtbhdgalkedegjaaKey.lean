/- The document's test of a key, and that both the program's and the model's function compute it. -/
import Derived.Test.YtbhdgalkedegjaaProg
import Derived.WalkKit
import Derived.WalkSpells
import Derived.WalkLawsBesides
import Derived.Lib.Hide
namespace Go.Proofs.Ytbhdgalkedegjaa
open Go.RowKit
set_option linter.unusedVariables false

/-- a letter a to z -/
def letB (c : UInt8) : Bool := decide (97 ≤ c.toNat) && decide (c.toNat ≤ 122)

/-- a key: one or two letters -/
def keyB (s : ByteArray) : Bool := decide (1 ≤ s.size) && decide (s.size ≤ 2) && s.data.toList.all letB

theorem take_snoc (s : ByteArray) (k : Nat) (h : k < s.size) : s.data.toList.take (k + 1) = s.data.toList.take k ++ [s[k]] := by
  rw [List.take_succ_eq_append_getElem (by simpa using h)]; rfl

theorem all_take_succ (s : ByteArray) (k : Nat) (h : k < s.size) (ha : (s.data.toList.take k).all letB = true) (hl : letB s[k] = true) :
    (s.data.toList.take (k + 1)).all letB = true := by
  rw [take_snoc s k h, List.all_append, ha]; simp [hl]

theorem all_bad (s : ByteArray) (k : Nat) (h : k < s.size) (hl : letB s[k] = false) : s.data.toList.all letB = false := by
  rw [List.all_eq_false]
  exact ⟨s[k], by have : s[k] = s.data.toList[k]'(by simpa using h) := rfl
                  rw [this]; exact List.getElem_mem _, by simp [hl]⟩

theorem ret_bool {a b : Bool} (h : a = b) : Ending.returned (.bool a) = .returned (.bool b) := by rw [h]

theorem keyB_bad (s : ByteArray) (k : Nat) (h : k < s.size) (hl : letB s[k] = false) : keyB s = false := by
  unfold keyB; rw [all_bad s k h hl]; simp

theorem keyB_two (s : ByteArray) (hF : s.data.toList.all letB = true) (h1 : (1 : Int) ≤ s.size) : decide ((s.size : Int) ≤ 2) = keyB s := by
  have h : 1 ≤ s.size := by omega
  unfold keyB; rw [hF, Bool.eq_iff_iff]; simp [h]; omega

set_option maxHeartbeats 400000 in
theorem specKey (s : ByteArray) (w : World) (hs : s.size ≤ maxLen) :
    Calls Try.prog 76 #[.string s] w fun e w' => e = .returned (.bool (keyB s)) ∧ w = w' := by
  unfold maxLen at hs
  go_enter Try.func76, Try.ntmps76
  go_wp2
  go_loop [3] (fun i => ∃ k : Nat, k ≤ s.size ∧ i = .int .i64 k ∧ (s.data.toList.take k).all letB = true) (fun i => s.size - (intOf i).toNat)
  case atStart => exact ⟨0, Nat.zero_le _, rfl, rfl⟩
  case round =>
    obtain ⟨k, hk, rfl, hall0⟩ := hrel
    have hall := Lib.hid hall0
    clear hall0
    by_cases hlt : k < s.size
    · go_wp2
      · go_ret
        exact ⟨ret_bool (keyB_bad s k hlt (by unfold letB; simp; omega)).symm, rfl⟩
      · go_round
        case rel => exact ⟨k + 1, by omega, by go_num, all_take_succ s k hlt hall.out (by unfold letB; simp; omega)⟩
        case measure => simp [intOf]; omega
      · go_ret
        exact ⟨ret_bool (keyB_bad s k hlt (by unfold letB; simp; omega)).symm, rfl⟩
    · have hfull : s.data.toList.all letB = true := by
        have h := hall.out
        rwa [List.take_of_length_le (by simp; omega)] at h
      have hF := Lib.hid hfull
      clear hfull
      go_wp2
      · go_ret
        exact ⟨ret_bool (keyB_two s hF.out ‹_›), rfl⟩
      · go_ret
        exact ⟨ret_bool (by unfold keyB; rw [hF.out]; simp; omega), rfl⟩

set_option maxHeartbeats 400000 in
theorem implKey (s : ByteArray) (w : World) (hs : s.size ≤ maxLen) :
    Calls Try.prog 102 #[.string s] w fun e w' => e = .returned (.bool (keyB s)) ∧ w = w' := by
  unfold maxLen at hs
  by_cases h1 : 1 ≤ s.size ∧ s.size ≤ 2
  · obtain ⟨h1, h2⟩ := h1
    go_enter Try.func102, Try.ntmps102
    go_wp2
    go_loop [14] (fun i => ∃ k : Nat, k ≤ s.size ∧ i = .int .i64 k ∧ (s.data.toList.take k).all letB = true) (fun i => s.size - (intOf i).toNat)
    case atStart => exact ⟨0, Nat.zero_le _, rfl, rfl⟩
    case round =>
      obtain ⟨k, hk, rfl, hall0⟩ := hrel
      have hall := Lib.hid hall0
      clear hall0
      by_cases hlt : k < s.size
      · go_wp2
        · go_ret
          exact ⟨ret_bool (keyB_bad s k hlt (by unfold letB; simp; omega)).symm, rfl⟩
        · go_round
          case rel => exact ⟨k + 1, by omega, by go_num, all_take_succ s k hlt hall.out (by unfold letB; simp; omega)⟩
          case measure => simp [intOf]; omega
        · go_ret
          exact ⟨ret_bool (keyB_bad s k hlt (by unfold letB; simp; omega)).symm, rfl⟩
      · have hfull : s.data.toList.all letB = true := by
          have h := hall.out
          rwa [List.take_of_length_le (by simp; omega)] at h
        have hF := Lib.hid hfull
        clear hfull
        go_wp2
        go_ret
        exact ⟨ret_bool (by unfold keyB; rw [hF.out]; simp; omega), rfl⟩
  · have hk : keyB s = false := by unfold keyB; simp; omega
    have HK := Lib.hid hk
    clear hk
    by_cases h2 : s.size < 1
    · go_enter Try.func102, Try.ntmps102
      go_wp2
      go_ret
      exact ⟨ret_bool HK.out.symm, rfl⟩
    · go_enter Try.func102, Try.ntmps102
      go_wp2
      go_ret
      exact ⟨ret_bool HK.out.symm, rfl⟩

end Go.Proofs.Ytbhdgalkedegjaa
