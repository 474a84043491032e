/- Tables of rows as plain lists: put, cut and look-up. No program. -/
import Derived.Test.YtbhdgalkedegjaaCu
namespace Go.Proofs.Ytbhdgalkedegjaa
open Go.RowKit
set_option linter.unusedVariables false

def ins (key : ByteArray) (num : Int) : List R → List R
  | [] => [(key, num)]
  | r :: l => if lt r.1 key then r :: ins key num l else if r.1 = key then (key, num) :: l else (key, num) :: r :: l
def del (key : ByteArray) : List R → List R
  | [] => []
  | r :: l => if lt r.1 key then r :: del key l else if r.1 = key then l else r :: l
def look (key : ByteArray) : List R → Option Int
  | [] => none
  | r :: l => if lt r.1 key then look key l else if r.1 = key then some r.2 else none

theorem posN_lt {r : R} {l : List R} {key : ByteArray} (h : lt r.1 key = true) : posN (r :: l) key = posN l key + 1 := by simp [posN, h]
theorem posN_ge {r : R} {l : List R} {key : ByteArray} (h : lt r.1 key = false) : posN (r :: l) key = 0 := by simp [posN, h]
theorem hasB_lt' {r : R} {l : List R} {key : ByteArray} (h : lt r.1 key = true) : hasB (r :: l) key = hasB l key := by simp [hasB, posN_lt h]
theorem str_beq (s t : ByteArray) : (s.toList == t.toList) = decide (s = t) := by
  by_cases h : s = t
  · subst h; simp
  · rw [str_ne h]; simp [h]
theorem hasB_ge {r : R} {l : List R} {key : ByteArray} (h : lt r.1 key = false) : hasB (r :: l) key = decide (r.1 = key) := by
  simp only [hasB, posN_ge h, List.getElem?_cons_zero, Option.any_some, str_beq]

theorem putL_ins (key : ByteArray) (num : Int) : (l : List R) → putL l key num = ins key num l
  | [] => by simp [putL, ins, posN]
  | r :: l => by
    have ih := putL_ins key num l
    unfold ins
    cases h : lt r.1 key
    · by_cases e : r.1 = key
      · have hb : hasB (r :: l) key = true := by rw [hasB_ge h]; simp [e]
        simp [putL, hb, posN_ge h, e]
      · have hb : hasB (r :: l) key = false := by rw [hasB_ge h]; simp [e]
        simp [putL, hb, posN_ge h, e]
    · simp only [if_true]
      rw [← ih]
      unfold putL
      rw [hasB_lt' h, posN_lt h]
      cases hasB l key <;> simp
theorem cutL_del (key : ByteArray) : (l : List R) → cutL l key = del key l
  | [] => by simp [cutL, del]
  | r :: l => by
    have ih := cutL_del key l
    unfold del
    cases h : lt r.1 key
    · by_cases e : r.1 = key
      · have hb : hasB (r :: l) key = true := by rw [hasB_ge h]; simp [e]
        simp [cutL, hb, posN_ge h, e]
      · have hb : hasB (r :: l) key = false := by rw [hasB_ge h]; simp [e]
        simp [cutL, hb, e]
    · simp only [if_true]
      rw [← ih]
      unfold cutL
      rw [hasB_lt' h, posN_lt h]
      cases hasB l key <;> simp
theorem hasB_look (key : ByteArray) : (l : List R) → hasB l key = (look key l).isSome
  | [] => by simp [hasB, look]
  | r :: l => by
    unfold look
    cases h : lt r.1 key
    · rw [hasB_ge h]
      by_cases e : r.1 = key <;> simp [e]
    · rw [hasB_lt' h, hasB_look key l]; simp
theorem num_look (key : ByteArray) : (l : List R) → hasB l key = true → (l[posN l key]?.map (·.2)).getD 0 = (look key l).getD 0
  | [], h => by simp [hasB] at h
  | r :: l, hb => by
    unfold look
    cases h : lt r.1 key
    · rw [hasB_ge h] at hb
      have e : r.1 = key := by simpa using hb
      rw [posN_ge h]; simp [e]
    · rw [hasB_lt' h] at hb
      rw [posN_lt h]
      simpa using num_look key l hb

/-- sorted, as a relation between all pairs -/
def Srt (l : List R) : Prop := l.Pairwise fun a b => lt a.1 b.1 = true
theorem AscP.srt {l : List R} (h : AscP l) : Srt l := by
  unfold Srt
  rw [List.pairwise_iff_getElem]
  intro i j hi hj hij
  exact asc_lt h j hj i hij
theorem Srt.asc {l : List R} (h : Srt l) : AscP l := fun i hi => by
  unfold Srt at h
  rw [List.pairwise_iff_getElem] at h
  exact h i (i + 1) (by omega) hi (by omega)

theorem lt_ne {a b : ByteArray} (h : lt a b = true) : a ≠ b := by rintro rfl; rw [lt_irrefl] at h; cases h
/-- not below and not equal: above -/
theorem gt_of {a b : ByteArray} (h : lt a b = false) (e : a ≠ b) : lt b a = true := by
  cases hb : lt b a
  · exact absurd (lt_tri h hb) e
  · rfl

theorem look_low {l : List R} {key : ByteArray} (h : ∀ r ∈ l, lt key r.1 = true) : look key l = none := by
  cases l with
  | nil => rfl
  | cons r l =>
    have h1 := h r List.mem_cons_self
    unfold look
    have hne : r.1 ≠ key := fun e => lt_ne h1 e.symm
    rw [lt_asymm h1]
    simp [hne]
theorem ins_mem {key : ByteArray} {num : Int} : {l : List R} → ∀ r ∈ ins key num l, r = (key, num) ∨ r ∈ l
  | [], r, hr => by left; simpa [ins] using hr
  | x :: l, r, hr => by
    unfold ins at hr
    split at hr
    · rcases List.mem_cons.1 hr with rfl | hr
      · exact .inr List.mem_cons_self
      · rcases ins_mem r hr with h | h
        · exact .inl h
        · exact .inr (List.mem_cons_of_mem _ h)
    · split at hr
      · rcases List.mem_cons.1 hr with h | h
        · exact .inl h
        · exact .inr (List.mem_cons_of_mem _ h)
      · rcases List.mem_cons.1 hr with h | h
        · exact .inl h
        · exact .inr h
theorem del_mem {key : ByteArray} : {l : List R} → ∀ r ∈ del key l, r ∈ l
  | [], r, hr => hr
  | x :: l, r, hr => by
    unfold del at hr
    split at hr
    · rcases List.mem_cons.1 hr with rfl | hr
      · exact List.mem_cons_self
      · exact List.mem_cons_of_mem _ (del_mem r hr)
    · split at hr
      · exact List.mem_cons_of_mem _ hr
      · exact hr
theorem ins_srt {key : ByteArray} {num : Int} : {l : List R} → Srt l → Srt (ins key num l)
  | [], _ => by simp [ins, Srt]
  | x :: l, h => by
    have hx := (List.pairwise_cons.1 h)
    unfold ins
    cases hl : lt x.1 key
    · by_cases e : x.1 = key
      · simp only [e, if_true]
        exact List.pairwise_cons.2 ⟨fun r hr => by have := hx.1 r hr; rw [e] at this; exact this, hx.2⟩
      · simp only [e, if_false]
        have hk := gt_of hl e
        refine List.pairwise_cons.2 ⟨fun r hr => ?_, h⟩
        rcases List.mem_cons.1 hr with rfl | hr
        · exact hk
        · exact lt_trans hk (hx.1 r hr)
    · simp only [if_true]
      refine List.pairwise_cons.2 ⟨fun r hr => ?_, ins_srt hx.2⟩
      rcases ins_mem r hr with rfl | hr
      · exact hl
      · exact hx.1 r hr
theorem del_srt {key : ByteArray} : {l : List R} → Srt l → Srt (del key l)
  | [], h => h
  | x :: l, h => by
    have hx := (List.pairwise_cons.1 h)
    unfold del
    split
    · exact List.pairwise_cons.2 ⟨fun r hr => hx.1 r (del_mem r hr), del_srt hx.2⟩
    · split
      · exact hx.2
      · exact h
theorem look_ins {key : ByteArray} {num : Int} (k : ByteArray) : {l : List R} → Srt l → look k (ins key num l) = if k = key then some num else look k l
  | [], _ => by
    unfold ins look
    by_cases e : k = key
    · subst e; simp [lt_irrefl]
    · have e' : key ≠ k := fun h => e h.symm
      cases h : lt key k <;> simp [e, e', look]
  | x :: l, h => by
    have hx := (List.pairwise_cons.1 h)
    have ih := look_ins (key := key) (num := num) k hx.2
    unfold ins
    cases hl : lt x.1 key
    · by_cases e : x.1 = key
      · subst e
        simp only [if_true]
        by_cases ek : k = x.1
        · subst ek; simp [look, lt_irrefl]
        · have ek' : x.1 ≠ k := fun h => ek h.symm
          simp [look, ek, ek']
      · simp only [e, if_false]
        have hk := gt_of hl e
        by_cases ek : k = key
        · subst ek; simp [look, lt_irrefl]
        · have ek' : key ≠ k := fun h => ek h.symm
          have e1 : look k ((key, num) :: x :: l) = if lt key k then look k (x :: l) else none := by
            rw [look]; simp [ek']
          simp only [Bool.false_eq_true, if_false, e1, ek]
          cases hkk : lt key k
          · rw [look_low (l := x :: l) (fun r hr => by
              have hk2 := gt_of hkk ek'
              rcases List.mem_cons.1 hr with rfl | hr
              · exact lt_trans hk2 hk
              · exact lt_trans hk2 (lt_trans hk (hx.1 r hr)))]
            simp
          · simp
    · simp only [if_true]
      unfold look
      cases hk : lt x.1 k
      · by_cases ek : x.1 = k
        · subst ek
          simp [fun e : x.1 = key => lt_ne hl e]
        · have hk2 := gt_of hk ek
          have : k ≠ key := fun e => by subst e; rw [hl] at hk; cases hk
          simp [ek, this]
      · simp [ih]
theorem look_del {key : ByteArray} (k : ByteArray) : {l : List R} → Srt l → look k (del key l) = if k = key then none else look k l
  | [], _ => by simp [del, look]
  | x :: l, h => by
    have hx := (List.pairwise_cons.1 h)
    have ih := look_del (key := key) k hx.2
    unfold del
    cases hl : lt x.1 key
    · by_cases e : x.1 = key
      · subst e
        simp only [if_true]
        by_cases ek : k = x.1
        · subst ek
          simp [look_low hx.1]
        · have ek' : x.1 ≠ k := fun h => ek h.symm
          simp only [Bool.false_eq_true, if_false, ek]
          conv => rhs; rw [look]
          simp only [ek', if_false]
          cases hkk : lt x.1 k
          · rw [look_low (fun r hr => lt_trans (gt_of hkk ek') (hx.1 r hr))]; simp
          · simp
      · simp only [e, if_false]
        by_cases ek : k = key
        · subst ek
          have hk := gt_of hl e
          simp [look, hl, e]
        · simp [ek]
    · simp only [if_true]
      unfold look
      cases hk : lt x.1 k
      · by_cases ek : x.1 = k
        · subst ek
          simp [fun e : x.1 = key => lt_ne hl e]
        · have : k ≠ key := fun e => by subst e; rw [hl] at hk; cases hk
          simp [ek, this]
      · simp [ih]
theorem srt_ext : {a b : List R} → Srt a → Srt b → (∀ k, look k a = look k b) → a = b
  | [], [], _, _, _ => rfl
  | [], y :: b, _, _, h => by have := h y.1; simp [look, lt_irrefl] at this
  | x :: a, [], _, _, h => by have := h x.1; simp [look, lt_irrefl] at this
  | x :: a, y :: b, ha, hb, h => by
    have hx := (List.pairwise_cons.1 ha)
    have hy := (List.pairwise_cons.1 hb)
    have h1 := h x.1
    have h2 := h y.1
    have hk : x.1 = y.1 := by
      cases hl : lt x.1 y.1
      · cases hl2 : lt y.1 x.1
        · exact lt_tri hl hl2
        · have e : x.1 ≠ y.1 := fun e => lt_ne hl2 e.symm
          unfold look at h2
          rw [hl, lt_irrefl] at h2
          simp [e] at h2
      · have e : y.1 ≠ x.1 := fun e => lt_ne hl e.symm
        unfold look at h1
        rw [lt_irrefl, lt_asymm hl] at h1
        simp [e] at h1
    have hn : x.2 = y.2 := by
      unfold look at h1
      rw [lt_irrefl, ← hk, lt_irrefl] at h1
      simpa using h1
    have hr : ∀ k, look k a = look k b := by
      intro k
      have h3 := h k
      unfold look at h3
      rw [← hk, hn] at h3
      by_cases hlk : lt x.1 k = true
      · simpa [hlk] using h3
      · have hlk' : lt x.1 k = false := by simpa using hlk
        have hle : ∀ r : R, lt x.1 r.1 = true → lt k r.1 = true := fun r hr => by
          by_cases e : x.1 = k
          · rw [← e]; exact hr
          · exact lt_trans (gt_of hlk' e) hr
        rw [look_low (fun r hr => hle r (hx.1 r hr)), look_low (fun r hr => hle r (by rw [hk]; exact hy.1 r hr))]
    rw [srt_ext hx.2 hy.2 hr]
    congr 1
    exact Prod.ext hk hn

theorem ins_length (key : ByteArray) (num : Int) : (l : List R) → (ins key num l).length = if (look key l).isSome then l.length else l.length + 1
  | [] => by simp [ins, look]
  | x :: l => by
    have ih := ins_length key num l
    unfold ins look
    cases hl : lt x.1 key
    · by_cases e : x.1 = key <;> simp [e]
    · simp only [if_true, List.length_cons, ih]
      split <;> rfl
theorem del_length (key : ByteArray) : (l : List R) → (del key l).length = if (look key l).isSome then l.length - 1 else l.length
  | [] => by simp [del, look]
  | x :: l => by
    have ih := del_length key l
    unfold del look
    cases hl : lt x.1 key
    · by_cases e : x.1 = key <;> simp [e]
    · simp only [if_true, List.length_cons, ih]
      cases hk : look key l with
      | none => simp
      | some z =>
        have : 0 < l.length := by cases l with
          | nil => simp [look] at hk
          | cons _ _ => simp
        simp; omega

end Go.Proofs.Ytbhdgalkedegjaa
