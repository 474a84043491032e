/- The sum of all numbers: the model's and the program's. -/
import Derived.Test.YtabpepddbkipiaaRok
import Derived.Test.YtabpepddbkipiaaIok
namespace Go.Proofs.Ytabpepddbkipiaa
open Go.RowKit
set_option linter.unusedVariables false

def sums : List R → Int
  | [] => 0
  | r :: l => r.2 + sums l
noncomputable def sumN (l : List R) : Int := if rowsB l then sums l else 0
theorem sums_append (a b : List R) : sums (a ++ b) = sums a + sums b := by
  induction a with
  | nil => simp [sums]
  | cons r a ih => simp [sums, ih]; omega
theorem sums_succ (l : List R) (k : Nat) (h : k < l.length) : sums (l.take (k + 1)) = sums (l.take k) + l[k].2 := by
  rw [List.take_succ_eq_append_getElem h, sums_append]; simp [sums]
theorem sums_small : (l : List R) → (∀ r ∈ l, -999 ≤ r.2 ∧ r.2 ≤ 999) → -(999 * (l.length : Int)) ≤ sums l ∧ sums l ≤ 999 * (l.length : Int)
  | [], _ => by simp [sums]
  | r :: l, h => by
    have ih := sums_small l fun x hx => h x (List.mem_cons_of_mem _ hx)
    have h0 := h r List.mem_cons_self
    simp [sums]; omega
theorem num_of {n : Int} (h : numB n = true) : -999 ≤ n ∧ n ≤ 999 := by unfold numB at h; simpa using h
theorem RowsP.small {l : List R} (h : RowsP l) : ∀ r ∈ l, -999 ≤ r.2 ∧ r.2 ≤ 999 := fun r hr => by
  obtain ⟨i, hi, rfl⟩ := List.getElem_of_mem hr
  exact num_of (h.each i hi).2
theorem RowsP.part {l : List R} (h : RowsP l) (k : Nat) : -9990 ≤ sums (l.take k) ∧ sums (l.take k) ≤ 9990 := by
  have h1 := sums_small (l.take k) fun r hr => h.small r (List.mem_of_mem_take hr)
  have h2 := h.len
  have h3 : (l.take k).length ≤ l.length := List.length_take_le' _ _
  omega

set_option maxRecDepth 100000 in
set_option maxHeartbeats 1000000 in
theorem specSum (A : Option Addr) (c : Nat) (l : List R) (w : World) (hfit : FitR l) (hlc : l.length ≤ c) (hcm : c ≤ maxLen) (hc : l.length ≤ 2097152) (hr : Rd w w.heap.size A l) :
    Calls Try.prog 38 #[.slice A l.length c] w fun e w' => e = .returned (.int .i64 (sumN l)) ∧ ∃ n, w' = w.drewN n := by
  cases hok : rowsB l
  · have HN := Lib.hid (show sumN l = 0 from by unfold sumN; rw [hok]; rfl)
    by_cases h0 : 0 < l.length
    · go_enter Try.func38, Try.ntmps38
      go_wp2
      go_loopw [3, 4] (fun n i W => n = .int .i64 0 ∧ i = .int .i64 0 ∧ ∃ n, W = w.drewN n) (fun _ _ _ => 0)
      case atStart => exact ⟨rfl, rfl, 0, rfl⟩
      case round =>
        obtain ⟨rfl, rfl, nd, rfl⟩ := hrel
        go_wp2_with ((go_at_call 24; refine (specRowsOk A c l (w.drewN nd) hfit hlc hcm hr).mono ?_; rintro e w1 ⟨rfl, n2, rfl⟩; rw [hok]))
        go_ret
        exact ⟨ret_int HN.out.symm, _, rfl⟩
    · have hz : l.length = 0 := by omega
      have HZ := Lib.hid hz
      have hd : decide ((0 : Int) < (l.length : Int)) = false := decide_eq_false (by omega)
      have hd2 : decide (0 < l.length) = false := decide_eq_false (by omega)
      clear hz
      go_enter Try.func38, Try.ntmps38
      go_wp2
      go_loopw [3, 4] (fun n i W => n = .int .i64 0 ∧ i = .int .i64 0 ∧ ∃ n, W = w.drewN n) (fun _ _ _ => 0)
      case atStart => exact ⟨rfl, rfl, 0, rfl⟩
      case round =>
        obtain ⟨rfl, rfl, nd, rfl⟩ := hrel
        go_wp2
        go_ret
        exact ⟨ret_int HN.out.symm, _, rfl⟩
  · have hP := rowsB_iff.1 hok
    have HN := Lib.hid (show sumN l = sums l from by unfold sumN; rw [hok]; rfl)
    go_enter Try.func38, Try.ntmps38
    go_wp2
    go_loopw [3, 4] (fun n i W => ∃ k : Nat, k ≤ l.length ∧ i = .int .i64 k ∧ n = .int .i64 (sums (l.take k)) ∧ ∃ n, W = w.drewN n) (fun _ i _ => l.length - (intOf i).toNat)
    case atStart => exact ⟨0, Nat.zero_le _, rfl, rfl, 0, rfl⟩
    case round =>
      obtain ⟨k, hk, rfl, rfl, nd, rfl⟩ := hrel
      have hp := hP.part k
      by_cases hkl : k < l.length
      · obtain ⟨b, o, rfl, hbB, hc1, hc2⟩ := hr.at_ hkl
        have HS := Lib.hid (sums_succ l k hkl)
        have hx := num_of (hP.each k hkl).2
        generalize sums (l.take k) = z at *
        go_wp2_with ((go_at_call 24; refine (specRowsOk _ c l (w.drewN nd) hfit hlc hcm hr).mono ?_; rintro e w1 ⟨rfl, n2, rfl⟩; rw [hok]))
        go_roundw
        case rel => exact ⟨k + 1, by omega, by go_num, by rw [HS.out], _, rfl⟩
        case measure => simp [intOf]; omega
      · have hkk : k = l.length := by omega
        have HK := Lib.hid hkk
        have hd : decide ((k : Int) < (l.length : Int)) = false := by simp; omega
        clear hkk
        go_wp2
        go_ret
        exact ⟨ret_int (by rw [HN.out, HK.out, List.take_length]), _, rfl⟩

set_option maxRecDepth 100000 in
set_option maxHeartbeats 1000000 in
theorem implSum (A : Option Addr) (c : Nat) (l : List R) (w : World) (hfit : FitR l) (hc : l.length ≤ 2097152) (hr : Rd w w.heap.size A l) :
    Calls Try.prog 39 #[.slice A l.length c] w fun e w' => e = .returned (.int .i64 (sumN l)) ∧ Below w.heap.size w w' := by
  cases hok : rowsB l
  · have HN := Lib.hid (show sumN l = 0 from by unfold sumN; rw [hok]; rfl)
    go_enter Try.func39, Try.ntmps39
    go_wp2_with fail
    refine (implRowsOk A c l w hfit hc hr).mono ?_
    rintro e w1 ⟨rfl, hb1⟩
    rw [hok]
    go_wp2
    go_ret
    exact ⟨ret_int HN.out.symm, hb1⟩
  · have hP := rowsB_iff.1 hok
    have HN := Lib.hid (show sumN l = sums l from by unfold sumN; rw [hok]; rfl)
    go_enter Try.func39, Try.ntmps39
    go_wp2_with fail
    refine (implRowsOk A c l w hfit hc hr).mono ?_
    rintro e w1 ⟨rfl, hb1⟩
    rw [hok]
    go_wp2
    go_loopw [3, 11] (fun n i W => ∃ k : Nat, k ≤ l.length ∧ i = .int .i64 k ∧ n = .int .i64 (sums (l.take k)) ∧ Below w.heap.size w W) (fun _ i _ => l.length - (intOf i).toNat)
    case atStart => exact ⟨0, Nat.zero_le _, rfl, rfl, hb1⟩
    case round =>
      obtain ⟨k, hk, rfl, rfl, hb⟩ := hrel
      have hp := hP.part k
      by_cases hkl : k < l.length
      · obtain ⟨b, o, rfl, hbB, hc1, hc2⟩ := (hr.below hb).at_ hkl
        have HS := Lib.hid (sums_succ l k hkl)
        have hx := num_of (hP.each k hkl).2
        generalize sums (l.take k) = z at *
        go_wp2
        go_roundw
        case rel => exact ⟨k + 1, by omega, by go_num, by rw [HS.out], hb.alloc hb.size _⟩
        case measure => simp [intOf]; omega
      · have hkk : k = l.length := by omega
        have HK := Lib.hid hkk
        clear hkk
        go_wp2
        go_ret
        exact ⟨ret_int (by rw [HN.out, HK.out, List.take_length]), hb⟩

end Go.Proofs.Ytabpepddbkipiaa
