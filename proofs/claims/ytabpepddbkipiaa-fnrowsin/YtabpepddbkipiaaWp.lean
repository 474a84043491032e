/- The laws' comparison of rows, and the contracts by the value of rows of the call's own. -/
import Derived.Test.YtabpepddbkipiaaMath2
import Derived.Test.YtabpepddbkipiaaLw
import Derived.Test.YtabpepddbkipiaaSum
import Derived.Laws.StructEq
namespace Go.Proofs.Ytabpepddbkipiaa
open Go.RowKit
set_option linter.unusedVariables false

theorem neqRow (s t : ByteArray) (n m : Int) (w : World) : (binOp .neq 50 (.agg #[.string s, .int .i64 n]) (.agg #[.string t, .int .i64 m])).run Try.prog w = .ok (.bool (!eqR (s, n) (t, m))) w := by
  simp [go_sem]
  by_cases h1 : s = t
  · subst h1
    by_cases h2 : n = m
    · subst h2; simp [eqR]
    · simp [eqR, h2]
  · have h3 : s.toList ≠ t.toList := fun e => h1 (str_eq (by rw [e]; simp))
    simp [eqR, h1, h3]

set_option maxRecDepth 100000 in
set_option maxHeartbeats 400000 in
theorem wpRows_c (A A' : Option Addr) (c c' : Nat) (l l' : List R) (w : World) (hc : l.length ≤ 2097152) (hc' : l'.length ≤ 2097152) (hr : Rd w w.heap.size A l) (hr' : Rd w w.heap.size A' l') :
    Calls Try.prog 46 #[.slice A l.length c, .slice A' l'.length c'] w fun e w' => e = .returned (.bool (eqL l l')) ∧ ∃ n, w' = w.drewN n := by
  have hneq := neqRow
  by_cases hlen : l.length = l'.length
  · have hne : ((l.length : Int) != (l'.length : Int)) = false := by simp [hlen]
    have HL := Lib.hid hlen
    have hle1 : l.length ≤ l'.length := by omega
    have hle2 : l'.length ≤ l.length := by omega
    clear hlen
    go_enter Try.func46, Try.ntmps46
    go_wp2
    go_loopw [5] (fun i W => ∃ k : Nat, k ≤ l.length ∧ i = .int .i64 k ∧ (∃ n, W = w.drewN n) ∧ l.take k = l'.take k) (fun i _ => l.length - (intOf i).toNat)
    case atStart => exact ⟨0, Nat.zero_le _, rfl, ⟨0, rfl⟩, rfl⟩
    case round =>
      obtain ⟨k, hk, rfl, ⟨nd, hW⟩, ht⟩ := hrel
      have HT := Lib.hid ht
      have HW := Lib.hid hW
      have hr1 : Rd wr w.heap.size A l := by rw [hW]; exact hr
      have hr1' : Rd wr w.heap.size A' l' := by rw [hW]; exact hr'
      clear ht hW hr hr'
      by_cases hkl : k < l.length
      · have hkl' : k < l'.length := by omega
        obtain ⟨b, o, rfl, hbB, hc1, hc2⟩ := hr1.at_ hkl
        obtain ⟨b', o', rfl, hbB', hc1', hc2'⟩ := hr1'.at_ hkl'
        cases he : eqR (l[k].1, l[k].2) (l'[k].1, l'[k].2)
        · have HN := Lib.hid (eqL_no fun h : l = l' => by
            have e : eqR (l[k].1, l[k].2) (l'[k].1, l'[k].2) = true := eqR_yes (by subst h; rfl)
            rw [he] at e; cases e)
          go_wp2
          go_quiet (fail)
          go_wp2
          go_ret
          exact ⟨ret_bool HN.out.symm, _, by rw [HW.out, World.drewN_drewN]⟩
        · have HE := Lib.hid (show l[k] = l'[k] from by
            by_cases e : l[k] = l'[k]
            · exact e
            · rw [eqR_no (show (l[k].1, l[k].2) ≠ (l'[k].1, l'[k].2) from e)] at he; cases he)
          go_wp2
          go_quiet (fail)
          go_wp2
          go_roundw
          case rel => exact ⟨k + 1, by omega, by go_num, ⟨_, by rw [HW.out, World.drewN_drewN]⟩, by rw [List.take_succ_eq_append_getElem hkl, List.take_succ_eq_append_getElem hkl', HT.out, HE.out]⟩
          case measure => simp [intOf]; omega
      · have HN := Lib.hid (show k = l.length from by omega)
        go_wp2
        go_ret
        refine ⟨ret_bool (eqL_yes ?_).symm, nd, HW.out⟩
        have e := HT.out
        rw [HN.out, List.take_length, HL.out, List.take_length] at e
        exact e
  · have hne : ((l.length : Int) != (l'.length : Int)) = true := by simp; omega
    have HL := Lib.hid hlen
    clear hlen
    go_enter Try.func46, Try.ntmps46
    go_wp2
    go_ret
    exact ⟨ret_bool (eqL_no fun h => HL.out (congrArg List.length h)).symm, 0, rfl⟩

/-! the contracts by the value of rows of the call's own -/
theorem wpO {v v' : Value} {l l' : List R} {base base' : Nat} {w : World} (h : OwnR w base v l) (h' : OwnR w base' v' l') (hl : l.length ≤ 2097152) (hl' : l'.length ≤ 2097152) :
    Calls Try.prog 46 #[v, v'] w fun e w' => e = .returned (.bool (eqL l l')) ∧ Below w.heap.size w w' := by
  obtain ⟨A, c, rfl, _, _, hr⟩ := h.read
  obtain ⟨A', c', rfl, _, _, hr'⟩ := h'.read
  refine (wpRows_c A A' c c' l l' w hl hl' hr hr').mono ?_
  rintro e w' ⟨rfl, n, rfl⟩
  exact ⟨rfl, below_drewN (Below.refl _ _) n⟩
theorem specOkO {v : Value} {l : List R} {base : Nat} {w : World} (h : OwnR w base v l) (hf : FitR l) :
    Calls Try.prog 24 #[v] w fun e w' => e = .returned (.bool (rowsB l)) ∧ Below w.heap.size w w' := by
  obtain ⟨A, c, rfl, h1, h2, hr⟩ := h.read
  refine (specRowsOk A c l w hf h1 h2 hr).mono ?_
  rintro e w' ⟨rfl, n, rfl⟩
  exact ⟨rfl, below_drewN (Below.refl _ _) n⟩
theorem implOkO {v : Value} {l : List R} {base : Nat} {w : World} (h : OwnR w base v l) (hf : FitR l) (hl : l.length ≤ 1048576) :
    Calls Try.prog 26 #[v] w fun e w' => e = .returned (.bool (rowsB l)) ∧ Below w.heap.size w w' := by
  obtain ⟨A, c, rfl, h1, h2, hr⟩ := h.read
  exact implRowsOk A c l w hf (by omega) hr
theorem implGetO {v : Value} {l : List R} {base : Nat} {w : World} (key : ByteArray) (h : OwnR w base v l) (hf : FitR l) (hl : l.length ≤ 1048576) :
    Calls Try.prog 29 #[v, .string key] w fun e w' => e = .returned (.tuple #[.int .i64 (getN l key), .bool (getB l key)]) ∧ Below w.heap.size w w' := by
  obtain ⟨A, c, rfl, h1, h2, hr⟩ := h.read
  exact implGet A c l key w hf (by omega) hr
theorem implPutO {v : Value} {l : List R} {base : Nat} {w : World} (key : ByteArray) (num : Int) (h : OwnR w base v l) (hf : FitR l) (hk : FitR [(key, num)]) (hl : l.length ≤ 1048576) :
    Calls Try.prog 31 #[v, .string key, .int .i64 num] w (RetRB w (putV l key num) (putOk l key num)) := by
  obtain ⟨A, c, rfl, h1, h2, hr⟩ := h.read
  exact implPut A c l key num w hf hk h1 hl hr
theorem specPutO {v : Value} {l : List R} {base : Nat} {w : World} (key : ByteArray) (num : Int) (h : OwnR w base v l) (hf : FitR l) (hk : FitR [(key, num)]) (hl : l.length ≤ 1048576) :
    Calls Try.prog 30 #[v, .string key, .int .i64 num] w (RetRB w (putV l key num) (putOk l key num)) := by
  obtain ⟨A, c, rfl, h1, h2, hr⟩ := h.read
  exact specPut A c l key num w hf hk h1 h2 hl hr
theorem implCutO {v : Value} {l : List R} {base : Nat} {w : World} (key : ByteArray) (h : OwnR w base v l) (hf : FitR l) (hl : l.length ≤ 1048576) :
    Calls Try.prog 35 #[v, .string key] w (RetRB w (cutV l key) (cutOk l key)) := by
  obtain ⟨A, c, rfl, h1, h2, hr⟩ := h.read
  exact implCut A c l key w hf h1 hl hr
theorem specCutO {v : Value} {l : List R} {base : Nat} {w : World} (key : ByteArray) (h : OwnR w base v l) (hf : FitR l) (hl : l.length ≤ 1048576) :
    Calls Try.prog 34 #[v, .string key] w (RetRB w (cutV l key) (cutOk l key)) := by
  obtain ⟨A, c, rfl, h1, h2, hr⟩ := h.read
  exact specCut A c l key w hf h1 h2 hl hr
theorem implSumO {v : Value} {l : List R} {base : Nat} {w : World} (h : OwnR w base v l) (hf : FitR l) (hl : l.length ≤ 1048576) :
    Calls Try.prog 39 #[v] w fun e w' => e = .returned (.int .i64 (sumN l)) ∧ Below w.heap.size w w' := by
  obtain ⟨A, c, rfl, h1, h2, hr⟩ := h.read
  exact implSum A c l w hf (by omega) hr
theorem specSumO {v : Value} {l : List R} {base : Nat} {w : World} (h : OwnR w base v l) (hf : FitR l) (hl : l.length ≤ 1048576) :
    Calls Try.prog 38 #[v] w fun e w' => e = .returned (.int .i64 (sumN l)) ∧ Below w.heap.size w w' := by
  obtain ⟨A, c, rfl, h1, h2, hr⟩ := h.read
  refine (specSum A c l w hf h1 h2 (by omega) hr).mono ?_
  rintro e w' ⟨rfl, n, rfl⟩
  exact ⟨rfl, below_drewN (Below.refl _ _) n⟩

end Go.Proofs.Ytabpepddbkipiaa
