/- The law's comparison of rows. -/
import Derived.Test.YtbhdgalkedegjaaStr
import Derived.Deep.RegionHeld3
namespace Go.Proofs.Ytbhdgalkedegjaa
open Go.RowKit
set_option linter.unusedVariables false

def eqR (a b : R) : Bool := decide (a = b)
theorem eqR_yes {a b : R} (h : a = b) : eqR a b = true := decide_eq_true h
theorem eqR_no {a b : R} (h : a ≠ b) : eqR a b = false := decide_eq_false h

set_option maxHeartbeats 400000 in
theorem eqRow_c (s t : ByteArray) (n m : Int) (w : World) :
    Calls Try.prog 69 #[.agg #[.string s, .int .i64 n], .agg #[.string t, .int .i64 m]] w fun e w' => e = .returned (.bool (eqR (s, n) (t, m))) ∧ Below w.heap.size w w' := by
  by_cases hk : s = t
  · subst hk
    by_cases hn : n = m
    · subst hn
      go_enter Try.func69, Try.ntmps69
      go_wp2
      go_ret
      exact ⟨ret_bool (eqR_yes rfl).symm, ((Below.refl _ _).alloc (Nat.le_refl _) _).alloc (by simp) _⟩
    · have hb : (n != m) = true := by simp [hn]
      have HN := Lib.hid hn
      clear hn
      go_enter Try.func69, Try.ntmps69
      go_wp2
      go_ret
      exact ⟨ret_bool (eqR_no (by simpa using HN.out)).symm, ((Below.refl _ _).alloc (Nat.le_refl _) _).alloc (by simp) _⟩
  · have hb := str_ne hk
    have HK := Lib.hid hk
    clear hk
    go_enter Try.func69, Try.ntmps69
    go_wp2
    go_ret
    exact ⟨ret_bool (eqR_no fun h => HK.out (congrArg Prod.fst h)).symm, ((Below.refl _ _).alloc (Nat.le_refl _) _).alloc (by simp) _⟩

def eqL (a b : List R) : Bool := decide (a = b)
theorem eqL_yes {a b : List R} (h : a = b) : eqL a b = true := decide_eq_true h
theorem eqL_no {a b : List R} (h : a ≠ b) : eqL a b = false := decide_eq_false h

set_option maxHeartbeats 400000 in
theorem eqRowS_c (A A' : Option Addr) (c c' : Nat) (l l' : List R) (w : World) (hc : l.length ≤ 2097152) (hc' : l'.length ≤ 2097152) (hr : Rd w w.heap.size A l) (hr' : Rd w w.heap.size A' l') :
    Calls Try.prog 27 #[.slice A l.length c, .slice A' l'.length c'] w fun e w' => e = .returned (.bool (eqL l l')) ∧ Below w.heap.size w w' := by
  by_cases hlen : l.length = l'.length
  · have hne : ((l.length : Int) != (l'.length : Int)) = false := by simp [hlen]
    have HL := Lib.hid hlen
    have hle1 : l.length ≤ l'.length := by omega
    have hle2 : l'.length ≤ l.length := by omega
    clear hlen
    go_enter Try.func27, Try.ntmps27
    go_wp2
    go_loopw [5] (fun i W => ∃ k : Nat, k ≤ l.length ∧ i = .int .i64 k ∧ Below w.heap.size w W ∧ l.take k = l'.take k) (fun i _ => l.length - (intOf i).toNat)
    case atStart => exact ⟨0, Nat.zero_le _, rfl, Below.refl _ _, rfl⟩
    case round =>
      obtain ⟨k, hk, rfl, hb, ht⟩ := hrel
      have HT := Lib.hid ht
      clear ht
      by_cases hkl : k < l.length
      · have hkl' : k < l'.length := by omega
        obtain ⟨b, o, rfl, hbB, hc1, hc2⟩ := (hr.below hb).at_ hkl
        obtain ⟨b', o', rfl, hbB', hc1', hc2'⟩ := (hr'.below hb).at_ hkl'
        have hq : b < wr.heap.size := Nat.lt_of_lt_of_le hbB hb.size
        have hq' : b' < wr.heap.size := Nat.lt_of_lt_of_le hbB' hb.size
        cases he : eqR (l[k].1, l[k].2) (l'[k].1, l'[k].2)
        · have HN := Lib.hid (eqL_no fun h : l = l' => by
            have e : eqR (l[k].1, l[k].2) (l'[k].1, l'[k].2) = true := eqR_yes (by subst h; rfl)
            rw [he] at e; cases e)
          go_wp2
          go_region_held3 (fun W => W.cell? ⟨b, o + k * 2, none⟩ = some (.string l[k].1) ∧ W.cell? ⟨b, o + k * 2 + 1, none⟩ = some (.int .i64 l[k].2) ∧ W.cell? ⟨b', o' + k * 2, none⟩ = some (.string l'[k].1) ∧ W.cell? ⟨b', o' + k * 2 + 1, none⟩ = some (.int .i64 l'[k].2)) (first | exact ⟨hc1, hc2, hc1', hc2'⟩ | exact ⟨(hb2.cell hq).trans hc1, (hb2.cell hq).trans hc2, (hb2.cell hq').trans hc1', (hb2.cell hq').trans hc2'⟩)
            (first | (go_at_call 69; refine (eqRow_c _ _ _ _ _).mono ?_; rintro e w' ⟨rfl, hb2⟩))
          go_wp2
          go_ret
          exact ⟨ret_bool HN.out.symm, hb.trans ((Below.drew (Below.refl _ _)).trans (hb2.mono hb.size))⟩
        · have HE := Lib.hid (show l[k] = l'[k] from by
            by_cases e : l[k] = l'[k]
            · exact e
            · rw [eqR_no (show (l[k].1, l[k].2) ≠ (l'[k].1, l'[k].2) from e)] at he; cases he)
          go_wp2
          go_region_held3 (fun W => W.cell? ⟨b, o + k * 2, none⟩ = some (.string l[k].1) ∧ W.cell? ⟨b, o + k * 2 + 1, none⟩ = some (.int .i64 l[k].2) ∧ W.cell? ⟨b', o' + k * 2, none⟩ = some (.string l'[k].1) ∧ W.cell? ⟨b', o' + k * 2 + 1, none⟩ = some (.int .i64 l'[k].2)) (first | exact ⟨hc1, hc2, hc1', hc2'⟩ | exact ⟨(hb2.cell hq).trans hc1, (hb2.cell hq).trans hc2, (hb2.cell hq').trans hc1', (hb2.cell hq').trans hc2'⟩)
            (first | (go_at_call 69; refine (eqRow_c _ _ _ _ _).mono ?_; rintro e w' ⟨rfl, hb2⟩))
          go_wp2
          go_roundw
          case rel => exact ⟨k + 1, by omega, by go_num, hb.trans ((Below.drew (Below.refl _ _)).trans (hb2.mono hb.size)), by rw [List.take_succ_eq_append_getElem hkl, List.take_succ_eq_append_getElem hkl', HT.out, HE.out]⟩
          case measure => simp [intOf]; omega
      · have HN := Lib.hid (show k = l.length from by omega)
        go_wp2
        go_ret
        refine ⟨ret_bool (eqL_yes ?_).symm, hb⟩
        have e := HT.out
        rw [HN.out, List.take_length, HL.out, List.take_length] at e
        exact e
  · have hne : ((l.length : Int) != (l'.length : Int)) = true := by simp; omega
    have HL := Lib.hid hlen
    clear hlen
    go_enter Try.func27, Try.ntmps27
    go_wp2
    go_ret
    exact ⟨ret_bool (eqL_no fun h => HL.out (congrArg List.length h)).symm, Below.refl _ _⟩

end Go.Proofs.Ytbhdgalkedegjaa
