/- Chapter 2, plain mathematics: versions in order; what chains show is what stands. -/
import Derived.Test.YtbhdgalkedegjaaC2g
import Derived.Test.YtbhdgalkedegjaaS2b
namespace Go.Proofs.Ytbhdgalkedegjaa
open Go.RowKit
set_option linter.unusedVariables false

/-- b may stand behind a, near or far -/
def Beh (a b : V) : Prop := (a.k = b.k ∧ 0 < a.t ∧ a.t ≤ b.f) ∨ lt a.k b.k = true
def Ord2 (l : List V) : Prop := l.Pairwise Beh
theorem beh_of_ahead {a b : V} (h : aheadB a b = true) : Beh a b := by
  unfold aheadB at h
  split at h
  · rename_i e
    simp only [Bool.and_eq_true, decide_eq_true_eq] at h
    exact .inl ⟨str_eq e, h.1, h.2⟩
  · exact .inr h
theorem ahead_of_beh {a b : V} (h : Beh a b) : aheadB a b = true := by
  unfold aheadB
  rcases h with ⟨e, h1, h2⟩ | h
  · rw [e]; simp [h1, h2]
  · have hne : (a.k.toList == b.k.toList) = false := str_ne fun e => by rw [e, lt_irrefl] at h; cases h
    rw [hne]; simpa using h
theorem verB_to {z : Int} {x : V} (h : verB z x = true) : x.t = 0 ∨ x.f < x.t := by
  unfold verB at h
  simp only [Bool.and_eq_true, Bool.or_eq_true, decide_eq_true_eq] at h
  omega
theorem verB_from {z : Int} {x : V} (h : verB z x = true) : 1 ≤ x.f ∧ x.f ≤ z := by
  unfold verB at h
  simp only [Bool.and_eq_true, Bool.or_eq_true, decide_eq_true_eq] at h
  omega
theorem verB_toz {z : Int} {x : V} (h : verB z x = true) : x.t ≤ z := by
  have h1 := verB_from h
  unfold verB at h
  simp only [Bool.and_eq_true, Bool.or_eq_true, decide_eq_true_eq] at h
  omega
theorem verB_to0 {z : Int} {x : V} (h : verB z x = true) : 0 ≤ x.t := by
  have h1 := verB_from h
  have h2 := verB_to h
  omega
theorem beh_trans {a b c : V} (hb : b.t = 0 ∨ b.f < b.t) (h1 : Beh a b) (h2 : Beh b c) : Beh a c := by
  rcases h1 with ⟨e1, p1, q1⟩ | h1 <;> rcases h2 with ⟨e2, p2, q2⟩ | h2
  · exact .inl ⟨e1.trans e2, p1, by omega⟩
  · right; rw [e1]; exact h2
  · right; rw [← e2]; exact h1
  · exact .inr (lt_trans h1 h2)
theorem ord2_of {l : List V} {z : Int} (he : ∀ i (h : i < l.length), verB z l[i] = true) (ho : ∀ i (h : i + 1 < l.length), Beh l[i] l[i + 1]) : Ord2 l := by
  have key : ∀ j (hj : j < l.length) i (hi : i < j), Beh (l[i]'(by omega)) l[j] := by
    intro j
    induction j with
    | zero => intro hj i h; omega
    | succ j ih =>
      intro hj i hi
      by_cases e : i = j
      · subst e; exact ho i hj
      · exact beh_trans (verB_to (he j (by omega))) (ih (by omega) i (by omega)) (ho j hj)
  exact List.pairwise_iff_getElem.2 fun i j hi hj hij => key j hj i hij
theorem VersP.ord2 {z : Int} {l : List V} (h : VersP z l) : Ord2 l := ord2_of h.each fun i hi => beh_of_ahead (h.ord i hi)
theorem Ord2.keyLe {l : List V} (h : Ord2 l) : KeyLe l := fun i hi => by
  rcases (List.pairwise_iff_getElem.1 h) i (i + 1) (by omega) hi (by omega) with h1 | h1
  · exact .inl h1.1
  · exact .inr h1

theorem vs_sublist {chs : List Ch} {c : Ch} (h : c ∈ chs) : c.vs.Sublist (chs.flatMap Ch.vs) := by
  induction chs with
  | nil => simp at h
  | cons d chs ih =>
    rw [List.flatMap_cons]
    rcases List.mem_cons.1 h with rfl | h
    · exact List.sublist_append_left _ _
    · exact (ih h).trans (List.sublist_append_right _ _)
/-- in a chain each version ends before the next begins -/
def Chain (vs : List V) : Prop := vs.Pairwise fun a b => 0 < a.t ∧ a.t ≤ b.f
theorem Cons.chain {chs : List Ch} {l : List V} (h : Cons chs l) (ho : Ord2 l) {c : Ch} (hc : c ∈ chs) : Chain c.vs := by
  have h1 : c.vs.Pairwise Beh := List.Pairwise.sublist (by have := vs_sublist hc; rwa [h.flat] at this) ho
  have hk := (h.each c hc).2
  refine List.Pairwise.imp_of_mem ?_ h1
  intro a b ha hb hab
  rcases hab with ⟨_, h2⟩ | h2
  · exact h2
  · rw [hk a ha, hk b hb, lt_irrefl] at h2; cases h2
theorem vis_next {a b : V} {t : Int} (h : 0 < a.t ∧ a.t ≤ b.f) (ha : visB t a = true) : visB t b = false := by
  unfold visB at *
  simp only [Bool.and_eq_true, Bool.or_eq_true, decide_eq_true_eq, Bool.and_eq_false_iff, decide_eq_false_iff_not] at *
  omega
theorem filter_find {p : V → Bool} : {vs : List V} → vs.Pairwise (fun a b => p a = true → p b = false) → vs.filter p = (vs.find? p).toList
  | [], _ => rfl
  | a :: vs, h => by
    rw [List.pairwise_cons] at h
    cases hp : p a
    · rw [List.filter_cons_of_neg (by simp [hp]), List.find?_cons_of_neg (by simp [hp])]
      exact filter_find h.2
    · rw [List.filter_cons_of_pos hp, List.find?_cons_of_pos hp]
      have : vs.filter p = [] := by rw [List.filter_eq_nil_iff]; intro b hb; rw [h.1 b hb hp]; simp
      rw [this]; rfl
theorem Chain.seen {vs : List V} (h : Chain vs) (t : Int) : vs.filter (visB t) = (vs.find? (visB t)).toList :=
  filter_find (List.Pairwise.imp (fun hab ha => vis_next hab ha) h)
theorem snap_at {chs : List Ch} {l : List V} (h : Cons chs l) (ho : Ord2 l) (t : Int) : snapL t chs = atL l t := by
  have hch : ∀ c ∈ chs, Chain c.vs := fun c hc => h.chain ho hc
  rw [← h.flat]
  clear h ho
  induction chs with
  | nil => rfl
  | cons c chs ih =>
    have h1 := ih fun x hx => hch x (by simp [hx])
    have h2 := (hch c (by simp)).seen t
    have e1 : snapL t (c :: chs) = ((seen t c).map rowOf).toList ++ snapL t chs := by
      unfold snapL
      rw [List.filterMap_cons]
      cases hs : (seen t c).map rowOf <;> rfl
    have e2 : atL ((c :: chs).flatMap Ch.vs) t = (c.vs.filter (visB t)).map rowOf ++ atL (chs.flatMap Ch.vs) t := by
      unfold atL
      rw [List.flatMap_cons, List.filter_append, List.map_append]
    rw [e1, e2, h1, h2]
    unfold seen
    cases c.vs.find? (visB t) <;> rfl

/-- the program's order of two versions -/
noncomputable def inOrdB (a b : V) : Bool := if a.k.toList == b.k.toList then decide (a.t ≠ 0) && decide (a.t ≤ b.f) else lt a.k b.k
theorem inOrd_ahead {a b : V} {z : Int} (h : verB z a = true) : inOrdB a b = aheadB a b := by
  unfold inOrdB aheadB
  split
  · have h1 := verB_from h
    have h2 := verB_to h
    rw [Bool.eq_iff_iff]
    simp only [Bool.and_eq_true, decide_eq_true_eq]
    omega
  · rfl

end Go.Proofs.Ytbhdgalkedegjaa
