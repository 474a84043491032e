/- The model's RowsOk computes 'rowsB'. -/
import Derived.Test.YtbhdgalkedegjaaStr
import Derived.Deep.QuietTactic
import Derived.BigQuiet
namespace Go.Proofs.Ytbhdgalkedegjaa
open Go.RowKit
set_option linter.unusedVariables false

set_option maxHeartbeats 400000 in
theorem specNum (n : Int) (w : World) : Calls Try.prog 77 #[.int .i64 n] w fun e w' => e = .returned (.bool (numB n)) ∧ w = w' := by
  by_cases h1 : -999 ≤ n
  · go_enter Try.func77, Try.ntmps77
    go_wp2
    go_ret
    exact ⟨ret_bool (by unfold numB; simp [h1]), rfl⟩
  · go_enter Try.func77, Try.ntmps77
    go_wp2
    go_ret
    exact ⟨ret_bool (by unfold numB; simp; omega), rfl⟩

set_option maxHeartbeats 1000000 in
theorem specRowsOk (A : Option Addr) (c : Nat) (l : List R) (w : World) (hfit : FitR l) (hc : l.length ≤ c) (hcm : c ≤ maxLen) (hr : Rd w w.heap.size A l) :
    Calls Try.prog 121 #[.slice A l.length c] w fun e w' => e = .returned (.bool (rowsB l)) ∧ ∃ n, w' = w.drewN n := by
  unfold maxLen at hcm
  go_enter Try.func121, Try.ntmps121
  go_wp2
  go_loopw [3] (fun i W => ∃ k : Nat, k ≤ l.length ∧ i = .int .i64 k ∧ (∃ n, W = w.drewN n) ∧ (∀ j (h : j < l.length), j < k → keyB l[j].1 = true ∧ numB l[j].2 = true ∧ (0 < j → lt (l[j - 1]'(by omega)).1 l[j].1 = true))) (fun i _ => l.length - (intOf i).toNat)
  case atStart => exact ⟨0, Nat.zero_le _, rfl, ⟨0, rfl⟩, fun j h h0 => absurd h0 (by omega)⟩
  case round =>
    obtain ⟨k, hk, rfl, ⟨nd, hW⟩, hall⟩ := hrel
    have HALL := Lib.hid hall
    have HW := Lib.hid hW
    have hr' : Rd wr w.heap.size A l := by rw [hW]; exact hr
    clear hall hW hr
    by_cases hkl : k < l.length
    · obtain ⟨b, o, rfl, hbB, hc1, hc2⟩ := hr'.at_ hkl
      have hs := (hfit _ (List.getElem_mem hkl)).1
      cases hkey : keyB l[k].1
      · have HN := Lib.hid (rowsB_no fun h : RowsP l => by have := (h.each k hkl).1; rw [hkey] at this; cases this)
        go_wp2
        go_quiet ((first | (go_at_call 76; exact quietL (specKey _ _ hs))))
        go_wp2
        go_ret
        exact ⟨ret_bool HN.out.symm, _, by rw [HW.out, World.drewN_drewN]⟩
      · cases hnum : numB l[k].2
        · have HN := Lib.hid (rowsB_no fun h : RowsP l => by have := (h.each k hkl).2; rw [hnum] at this; cases this)
          go_wp2
          go_quiet ((first | (go_at_call 76; exact quietL (specKey _ _ hs)) | (go_at_call 77; exact quietL (specNum _ _))))
          go_wp2
          go_ret
          exact ⟨ret_bool HN.out.symm, _, by rw [HW.out, World.drewN_drewN]⟩
        · by_cases hk0 : k = 0
          · have hz : decide (0 < k) = false := by simp; omega
            have H0 := Lib.hid hk0
            have HK := Lib.hid hkey
            have HM := Lib.hid hnum
            clear hk0
            go_wp2
            go_quiet ((first | (go_at_call 76; exact quietL (specKey _ _ hs)) | (go_at_call 77; exact quietL (specNum _ _))))
            go_wp2
            go_roundw
            case rel => exact ⟨k + 1, by omega, by go_num, ⟨_, by rw [HW.out, World.drewN_drewN]⟩, fun j h h1 => by
              have e := H0.out
              obtain rfl : j = k := by omega
              exact ⟨HK.out, HM.out, fun h0 => absurd h0 (by omega)⟩⟩
            case measure => simp [intOf]; omega
          · have hpos : decide (0 < k) = true := by simp; omega
            obtain ⟨hp1, hp2⟩ := hr'.fix rfl (i := k - 1) (by omega)
            have HK := Lib.hid hkey
            have HM := Lib.hid hnum
            have hi1 : ((k : Int) - 1).toNat = k - 1 := by omega
            have hi2 : (0 : Int) ≤ (k : Int) - 1 := by omega
            have hi3 : (k : Int) - 1 < (l.length : Int) := by omega
            cases hlt : Op.bytesLess (l[k - 1]'(by omega)).1.toList l[k].1.toList
            · have HN := Lib.hid (rowsB_no fun h : RowsP l => by
                have := h.asc (k - 1) (by omega)
                have e : k - 1 + 1 = k := by omega
                simp only [e] at this
                unfold lt at this
                rw [hlt] at this; cases this)
              go_wp2
              go_quiet ((first | (go_at_call 76; exact quietL (specKey _ _ hs)) | (go_at_call 77; exact quietL (specNum _ _))))
              go_wp2
              go_ret
              exact ⟨ret_bool HN.out.symm, _, by rw [HW.out, World.drewN_drewN]⟩
            · have HL := Lib.hid (show lt (l[k - 1]'(by omega)).1 l[k].1 = true from hlt)
              go_wp2
              go_quiet ((first | (go_at_call 76; exact quietL (specKey _ _ hs)) | (go_at_call 77; exact quietL (specNum _ _))))
              go_wp2
              go_roundw
              case rel => exact ⟨k + 1, by omega, by go_num, ⟨_, by rw [HW.out, World.drewN_drewN]⟩, fun j h h1 => by
                by_cases e : j = k
                · subst e
                  exact ⟨HK.out, HM.out, fun _ => HL.out⟩
                · exact HALL.out j h (by omega)⟩
              case measure => simp [intOf]; omega
    · have hkk : k = l.length := by omega
      subst hkk
      go_wp2
      go_ret
      refine ⟨ret_bool ?_, _, HW.out⟩
      by_cases h10 : l.length ≤ 10
      · rw [rowsB_yes ⟨h10, fun i h => ⟨(HALL.out i h h).1, (HALL.out i h h).2.1⟩, fun i h => by simpa using (HALL.out (i + 1) h h).2.2 (by omega)⟩]
        simp; omega
      · rw [rowsB_no fun h => h10 h.len]
        simp; omega

end Go.Proofs.Ytbhdgalkedegjaa
