/- Valid tables under put and cut. No program. -/
import Derived.Test.YtabpepddbkipiaaMath
namespace Go.Proofs.Ytabpepddbkipiaa
open Go.RowKit
set_option linter.unusedVariables false

theorem rowsP_iff {l : List R} : RowsP l ↔ l.length ≤ 10 ∧ (∀ r ∈ l, keyB r.1 = true ∧ numB r.2 = true) ∧ Srt l := by
  constructor
  · intro h
    refine ⟨h.len, fun r hr => ?_, h.asc.srt⟩
    obtain ⟨i, hi, rfl⟩ := List.getElem_of_mem hr
    exact h.each i hi
  · rintro ⟨h1, h2, h3⟩
    exact ⟨h1, fun i hi => h2 _ (List.getElem_mem hi), h3.asc⟩
theorem RowsP.srt {l : List R} (h : RowsP l) : Srt l := h.asc.srt
theorem ins_self_mem (key : ByteArray) (num : Int) : (l : List R) → (key, num) ∈ ins key num l
  | [] => by simp [ins]
  | x :: l => by
    unfold ins
    split
    · exact List.mem_cons_of_mem _ (ins_self_mem key num l)
    · split
      · exact List.mem_cons_self
      · exact List.mem_cons_self
theorem ins_ok {l : List R} (h : RowsP l) (key : ByteArray) (num : Int) : rowsB (ins key num l) = (keyB key && numB num && ((look key l).isSome || decide (l.length < 10))) := by
  have h' := rowsP_iff.1 h
  have hl := ins_length key num l
  cases hk : keyB key && numB num && ((look key l).isSome || decide (l.length < 10))
  · apply rowsB_no
    intro hp
    have hp' := rowsP_iff.1 hp
    have h1 := hp'.2.1 _ (ins_self_mem key num l)
    simp only [h1.1, h1.2, Bool.true_and, Bool.or_eq_false_iff, decide_eq_false_iff_not] at hk
    rw [hk.1] at hl
    simp at hl
    have := hp'.1
    omega
  · apply rowsB_yes
    simp only [Bool.and_eq_true, Bool.or_eq_true, decide_eq_true_eq] at hk
    refine rowsP_iff.2 ⟨?_, fun r hr => ?_, ins_srt h'.2.2⟩
    · rw [hl]
      have := h'.1
      rcases hk.2 with h1 | h1
      · rw [h1]; simpa using this
      · split <;> omega
    · rcases ins_mem r hr with rfl | hr
      · exact hk.1
      · exact h'.2.1 r hr
theorem del_ok {l : List R} (h : RowsP l) (key : ByteArray) : RowsP (del key l) := by
  have h' := rowsP_iff.1 h
  have hl := del_length key l
  refine rowsP_iff.2 ⟨?_, fun r hr => h'.2.1 r (del_mem r hr), del_srt h'.2.2⟩
  have := h'.1
  rw [hl]
  split <;> omega
theorem putOk_eq (l : List R) (key : ByteArray) (num : Int) : putOk l key num = (rowsB l && (keyB key && numB num && ((look key l).isSome || decide (l.length < 10)))) := by
  unfold putOk
  cases h : rowsB l
  · rfl
  · rw [putL_ins, ins_ok (rowsB_iff.1 h)]
theorem getB_eq (l : List R) (key : ByteArray) : getB l key = (rowsB l && (look key l).isSome) := by unfold getB; rw [hasB_look]
theorem getN_eq (l : List R) (key : ByteArray) (h : rowsB l = true) : getN l key = (look key l).getD 0 := by
  unfold getN
  rw [h, Bool.true_and]
  cases hb : hasB l key
  · rw [hasB_look] at hb
    cases hk : look key l with
    | none => rfl
    | some z => rw [hk] at hb; cases hb
  · simp only [if_true]; exact num_look key l hb
theorem cutOk_eq (l : List R) (key : ByteArray) : cutOk l key = (rowsB l && (look key l).isSome) := by unfold cutOk; rw [hasB_look]
theorem cutV_eq {l : List R} (key : ByteArray) (h : rowsB l = true) : cutV l key = del key l := by unfold cutV; rw [h, cutL_del]; rfl
theorem cutV_no {l : List R} (key : ByteArray) (h : rowsB l = false) : cutV l key = [] := by unfold cutV; rw [h]; rfl
theorem putV_yes {l : List R} {key : ByteArray} {num : Int} (h : putOk l key num = true) : putV l key num = ins key num l := by
  unfold putOk at h
  simp only [Bool.and_eq_true] at h
  unfold putV
  rw [h.1, h.2, putL_ins]; rfl
theorem putV_no {l : List R} {key : ByteArray} {num : Int} (h : putOk l key num = false) : putV l key num = if rowsB l then l else [] := by
  unfold putOk at h
  unfold putV
  cases hr : rowsB l
  · rfl
  · rw [hr, Bool.true_and] at h
    rw [h]; rfl
theorem putOk_rows {l : List R} {key : ByteArray} {num : Int} (h : putOk l key num = true) : RowsP l ∧ RowsP (ins key num l) := by
  unfold putOk at h
  simp only [Bool.and_eq_true, rowsB_iff, putL_ins] at h
  exact h

theorem del_none {key : ByteArray} {l : List R} (h : Srt l) (hk : look key l = none) : del key l = l := by
  refine srt_ext (del_srt h) h fun k => ?_
  rw [look_del k h]
  split
  · rename_i e; rw [e, hk]
  · rfl
theorem ins_del {key : ByteArray} {num : Int} {l : List R} (h : Srt l) (hk : look key l = some num) : ins key num (del key l) = l := by
  refine srt_ext (ins_srt (del_srt h)) h fun k => ?_
  rw [look_ins k (del_srt h), look_del k h]
  by_cases e : k = key
  · rw [if_pos e, e, hk]
  · rw [if_neg e, if_neg e]
theorem ins_ins {key : ByteArray} {num : Int} {l : List R} (h : Srt l) : ins key num (ins key num l) = ins key num l := by
  refine srt_ext (ins_srt (ins_srt h)) (ins_srt h) fun k => ?_
  rw [look_ins k (ins_srt h), look_ins k h]
  split <;> rfl
theorem ins_comm {key other : ByteArray} {num n : Int} {l : List R} (h : Srt l) (hne : other ≠ key) : ins other n (ins key num l) = ins key num (ins other n l) := by
  refine srt_ext (ins_srt (ins_srt h)) (ins_srt (ins_srt h)) fun k => ?_
  rw [look_ins k (ins_srt h), look_ins k h, look_ins k (ins_srt h), look_ins k h]
  by_cases e : k = other
  · subst e; rw [if_pos rfl, if_neg hne, if_pos rfl]
  · rw [if_neg e, if_neg e]
theorem del_comm {key other : ByteArray} {l : List R} (h : Srt l) : del other (del key l) = del key (del other l) := by
  refine srt_ext (del_srt (del_srt h)) (del_srt (del_srt h)) fun k => ?_
  rw [look_del k (del_srt h), look_del k h, look_del k (del_srt h), look_del k h]
  by_cases e : k = other <;> by_cases e2 : k = key <;> simp [e, e2]
theorem look_del_self {key : ByteArray} {l : List R} (h : Srt l) : look key (del key l) = none := by rw [look_del key h, if_pos rfl]
theorem look_ins_self {key : ByteArray} {num : Int} {l : List R} (h : Srt l) : look key (ins key num l) = some num := by rw [look_ins key h, if_pos rfl]
theorem FitR.ins {l : List R} (h : FitR l) {key : ByteArray} {num : Int} (hk : FitR [(key, num)]) : FitR (ins key num l) := fun r hr => by
  rcases ins_mem r hr with rfl | hr
  · exact hk _ (by simp)
  · exact h r hr
theorem FitR.del {l : List R} (h : FitR l) (key : ByteArray) : FitR (del key l) := fun r hr => h r (del_mem r hr)
theorem FitR.putV {l : List R} (h : FitR l) {key : ByteArray} {num : Int} (hk : FitR [(key, num)]) : FitR (putV l key num) := by
  cases ho : putOk l key num
  · rw [putV_no ho]
    split
    · exact h
    · exact fun r hr => by simp at hr
  · rw [putV_yes ho]; exact h.ins hk
theorem FitR.cutV {l : List R} (h : FitR l) (key : ByteArray) : FitR (cutV l key) := by
  cases ho : rowsB l
  · rw [cutV_no key ho]; exact fun r hr => by simp at hr
  · rw [cutV_eq key ho]; exact h.del key
theorem look_mem : {l : List R} → {key : ByteArray} → {z : Int} → look key l = some z → (key, z) ∈ l
  | [], _, _, h => by simp [look] at h
  | x :: l, key, z, h => by
    unfold look at h
    split at h
    · exact List.mem_cons_of_mem _ (look_mem h)
    · split at h
      · rename_i e
        have : x.2 = z := by simpa using h
        subst e this
        exact List.mem_cons_self
      · cases h
theorem mem_look : {l : List R} → Srt l → {r : R} → r ∈ l → look r.1 l = some r.2
  | x :: l, hs, r, h => by
    have hx := List.pairwise_cons.1 hs
    unfold look
    rcases List.mem_cons.1 h with rfl | h
    · simp [lt_irrefl]
    · rw [hx.1 r h]; simp [mem_look hx.2 h]

end Go.Proofs.Ytabpepddbkipiaa
