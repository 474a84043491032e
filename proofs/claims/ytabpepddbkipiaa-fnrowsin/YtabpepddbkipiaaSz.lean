/- The law's own helpers over rows: sizes, copies, comparisons. -/
import Derived.Test.YtabpepddbkipiaaMem
namespace Go.Proofs.Ytabpepddbkipiaa
open Go.RowKit
set_option linter.unusedVariables false

def szR (left : Int) (k : Nat) : Int := if left < (k : Int) then -1 else left - k
theorem szR_neg {left : Int} {k : Nat} (h : left < (k : Int)) : szR left k = -1 := if_pos h
theorem szR_pos {left : Int} {k : Nat} (h : (k : Int) ≤ left) : szR left k = left - k := if_neg (by omega)

set_option maxHeartbeats 400000 in
theorem szRow_c (s : ByteArray) (n left : Int) (w : World) (hs : s.size ≤ maxLen) (h0 : 0 ≤ left) (h1 : left ≤ 1048576) :
    Calls Try.prog 53 #[.agg #[.string s, .int .i64 n], .int .i64 left] w fun e w' => e = .returned (.int .i64 (szR left s.size)) ∧ Below w.heap.size w w' := by
  unfold maxLen at hs
  by_cases hlt : left < (s.size : Int)
  · go_enter Try.func53, Try.ntmps53
    go_wp2
    go_ret
    exact ⟨ret_int (szR_neg hlt).symm, (Below.refl _ _).alloc (Nat.le_refl _) _⟩
  · go_enter Try.func53, Try.ntmps53
    go_wp2
    go_ret
    exact ⟨ret_int (szR_pos hlt).symm, (Below.refl _ _).alloc (Nat.le_refl _) _⟩

def total : List R → Nat
  | [] => 0
  | r :: l => 1 + r.1.size + total l

theorem total_append (a b : List R) : total (a ++ b) = total a + total b := by
  induction a with
  | nil => simp [total]
  | cons r a ih => simp [total, ih]; omega
theorem total_len (l : List R) : l.length ≤ total l := by
  induction l with
  | nil => simp [total]
  | cons r a ih => simp [total]; omega
theorem total_take_succ (l : List R) (k : Nat) (h : k < l.length) : total (l.take (k + 1)) = total (l.take k) + 1 + l[k].1.size := by
  rw [List.take_succ_eq_append_getElem h, total_append]; simp [total]; omega
theorem total_take_le (l : List R) (k : Nat) : total (l.take k) ≤ total l := by
  have h := total_append (l.take k) (l.drop k)
  rw [List.take_append_drop] at h; omega
theorem total_take_ge (l : List R) (k : Nat) : total (l.take k) + (l.length - k) ≤ total l := by
  have h := total_append (l.take k) (l.drop k)
  have h2 := total_len (l.drop k)
  rw [List.take_append_drop] at h; rw [List.length_drop] at h2; omega

set_option maxHeartbeats 400000 in
theorem szRowS_c (A : Option Addr) (c : Nat) (l : List R) (left : Int) (w : World) (hfit : FitR l) (hc : l.length ≤ c) (hcm : c ≤ maxLen) (h0 : 0 ≤ left) (h1 : left ≤ 1048576)
    (hr : Rd w w.heap.size A l) :
    Calls Try.prog 23 #[.slice A l.length c, .int .i64 left] w fun e w' => e = .returned (.int .i64 (szR left (total l))) ∧ Below w.heap.size w w' := by
  unfold maxLen at hcm
  by_cases hlt : left < (l.length : Int)
  · have ht := total_len l
    go_enter Try.func23, Try.ntmps23
    go_wp2
    go_ret
    exact ⟨ret_int (szR_neg (by omega)).symm, Below.refl _ _⟩
  · have hd : decide (left - (l.length : Int) < 0) = false := by simp; omega
    go_enter Try.func23, Try.ntmps23
    go_wp2
    go_loopw [1, 5] (fun lf i W => ∃ k : Nat, k ≤ l.length ∧ i = .int .i64 k ∧ ∃ z : Int, lf = .int .i64 z ∧ z = left - l.length - total (l.take k) + k ∧ 0 ≤ z ∧ z ≤ 1048576 ∧ Below w.heap.size w W) (fun _ i _ => l.length - (intOf i).toNat)
    case atStart => exact ⟨0, Nat.zero_le _, rfl, _, rfl, by simp [total], by omega, by omega, Below.refl _ _⟩
    case round =>
      obtain ⟨k, hk, rfl, z, rfl, hz, hz0, hz1, hb⟩ := hrel
      by_cases hkl : k < l.length
      · obtain ⟨b, o, rfl, hbB, hc1, hc2⟩ := (hr.below hb).at_ hkl
        have hs := (hfit _ (List.getElem_mem hkl)).1
        have ht := total_take_succ l k hkl
        have hge := total_take_ge l (k + 1)
        have HZ := Lib.hid hz
        have HT := Lib.hid ht
        clear hz ht
        by_cases hlo : z < (l[k].1.size : Int)
        · go_wp2_with ((go_at_call 53; refine (szRow_c _ _ _ _ hs hz0 hz1).mono ?_; rintro e w' ⟨rfl, hb2⟩; rw [szR_neg hlo]))
          go_ret
          exact ⟨ret_int (szR_neg (by have := HZ.out; have := HT.out; omega)).symm, hb.trans (hb2.mono hb.size)⟩
        · have hlo' : (l[k].1.size : Int) ≤ z := by omega
          go_wp2_with ((go_at_call 53; refine (szRow_c _ _ _ _ hs hz0 hz1).mono ?_; rintro e w' ⟨rfl, hb2⟩; rw [szR_pos hlo']))
          go_roundw
          case rel => exact ⟨k + 1, by omega, by go_num, _, rfl, by have := HZ.out; have := HT.out; omega, by omega, by omega, hb.trans (hb2.mono hb.size)⟩
          case measure => simp [intOf]; omega
      · have hkk : k = l.length := by omega
        have HK := Lib.hid hkk
        have HZ := Lib.hid hz
        clear hkk hz
        go_wp2
        go_ret
        refine ⟨ret_int ?_, hb⟩
        have e1 := HZ.out
        rw [HK.out, List.take_length] at e1
        rw [szR_pos (by omega)]
        omega

end Go.Proofs.Ytabpepddbkipiaa
