/- RowsIn by the value of rows of the call's own; what a list that is not valid gives. -/
import Derived.Test.YtabpepddbkipiaaIn3
import Derived.Test.YtabpepddbkipiaaDiff3
namespace Go.Proofs.Ytabpepddbkipiaa
open Go.RowKit
set_option linter.unusedVariables false

theorem implInO {v : Value} {l : List R} {base : Nat} {w : World} (lo hi : ByteArray) (h : OwnR w base v l) (hf : FitR l) (hl : l.length ≤ 1048576) :
    Calls Try.prog 37 #[v, .string lo, .string hi] w (RetR w (inV l lo hi)) := by
  obtain ⟨A, c, rfl, h1, h2, hr⟩ := h.read
  exact implIn A c l lo hi w hf h1 hl hr
theorem specInO {v : Value} {l : List R} {base : Nat} {w : World} (lo hi : ByteArray) (h : OwnR w base v l) (hf : FitR l) (hl : l.length ≤ 1048576) :
    Calls Try.prog 36 #[v, .string lo, .string hi] w (RetR w (inV l lo hi)) := by
  obtain ⟨A, c, rfl, h1, h2, hr⟩ := h.read
  exact specIn A c l lo hi w hf h1 h2 hl hr

/-- rows of which something is not valid -/
structure BadP (l : List R) : Prop where
  getN : ∀ k, getN l k = 0
  getB : ∀ k, getB l k = false
  putV : ∀ k z, putV l k z = []
  putOk : ∀ k z, putOk l k z = false
  cutV : ∀ k, cutV l k = []
  cutOk : ∀ k, cutOk l k = false
  inV : ∀ lo hi, inV l lo hi = []
  sum : sumN l = 0
  diff : ∀ m, diffV l m = []
theorem bad_of {l : List R} (h : rowsB l = false) : BadP l where
  getN k := getN_no (by rw [h]; rfl)
  getB k := by rw [getB_eq, h]; rfl
  putOk k z := by rw [putOk_eq, h]; rfl
  putV k z := by rw [putV_no (by rw [putOk_eq, h]; rfl), h]; rfl
  cutV k := cutV_no k h
  cutOk k := by rw [cutOk_eq, h]; rfl
  inV lo hi := by unfold Go.Proofs.Ytabpepddbkipiaa.inV; rw [h]; rfl
  sum := by unfold sumN; rw [h]; rfl
  diff m := by unfold diffV; rw [h]; rfl

theorem inV_rows {l : List R} (h : RowsP l) (lo hi : ByteArray) : RowsP (inL l lo hi) := by
  obtain ⟨h1, h2, h3⟩ := rowsP_iff.1 h
  exact rowsP_iff.2 ⟨Nat.le_trans (inL_length l lo hi) h1, fun r hr => h2 r (List.mem_filter.1 hr).1, List.Pairwise.sublist List.filter_sublist h3⟩
theorem inL_twice (l : List R) (lo hi : ByteArray) : inL (inL l lo hi) lo hi = inL l lo hi := by unfold inL; rw [List.filter_filter]; simp
theorem let_step {a : UInt8} {x y : List UInt8} (h : letB a = true) (k : Op.bytesLess x y = false) : Op.bytesLess (122 :: x) (a :: y) = false := by
  have h2 : ¬ (122 : UInt8) < a := by
    intro e
    have e2 : (122 : UInt8).toNat < a.toNat := e
    have : a.toNat ≤ 122 := by unfold letB at h; simp at h; exact h.2
    have e3 : (122 : UInt8).toNat = 122 := rfl
    omega
  unfold Op.bytesLess
  rw [k, decide_eq_false h2]; simp
theorem key_bytes : (x : List UInt8) → x.length ≤ 2 → x.all letB = true → Op.bytesLess [122, 122, 122] x = false
  | [], _, _ => rfl
  | [a], _, h => by
    simp only [List.all_cons, Bool.and_eq_true] at h
    exact let_step h.1 rfl
  | [a, b], _, h => by
    simp only [List.all_cons, Bool.and_eq_true] at h
    exact let_step h.1 (let_step h.2.1 rfl)
  | _ :: _ :: _ :: _, h, _ => by simp at h
theorem emp_list : (⟨#[]⟩ : ByteArray).toList = [] := by rw [ByteArray.toList_eq]
theorem zzz_list : (⟨#[122, 122, 122]⟩ : ByteArray).toList = [122, 122, 122] := by rw [ByteArray.toList_eq]
theorem low_emp (x : List UInt8) : Op.bytesLess x [] = false := by cases x <;> rfl
/-- every key lies between the empty text and 'zzz' -/
theorem key_mid {k : ByteArray} (h : keyB k = true) : midB ⟨#[]⟩ ⟨#[122, 122, 122]⟩ k = true := by
  unfold keyB at h
  simp only [Bool.and_eq_true, decide_eq_true_eq] at h
  unfold midB lt
  rw [emp_list, zzz_list, low_emp, key_bytes k.toList (by rw [ByteArray.toList_eq]; exact h.1.2) (by rw [ByteArray.toList_eq]; exact h.2)]
  rfl
theorem in_all {l : List R} (h : RowsP l) : inL l ⟨#[]⟩ ⟨#[122, 122, 122]⟩ = l := by
  obtain ⟨h1, h2, h3⟩ := rowsP_iff.1 h
  unfold inL
  rw [List.filter_eq_self]
  exact fun r hr => key_mid (h2 r hr).1
/-- the empty text is no key -/
theorem look_emp {l : List R} (h : RowsP l) : look ⟨#[]⟩ l = none := by
  cases e : look ⟨#[]⟩ l with
  | none => rfl
  | some z =>
    have := ((rowsP_iff.1 h).2.1 _ (look_mem e)).1
    cases this
/-- nothing lies between two texts that are not in order -/
theorem in_none {l : List R} {lo hi : ByteArray} (h : lt hi lo = true) : inL l lo hi = [] := by
  unfold inL
  rw [List.filter_eq_nil_iff]
  intro r _ hr
  unfold midB at hr
  simp only [Bool.and_eq_true, Bool.not_eq_true'] at hr
  by_cases e : r.1 = lo
  · rw [e, h] at hr; cases hr.2
  · have := lt_trans h (gt_of hr.1 e); rw [this] at hr; cases hr.2

end Go.Proofs.Ytabpepddbkipiaa
