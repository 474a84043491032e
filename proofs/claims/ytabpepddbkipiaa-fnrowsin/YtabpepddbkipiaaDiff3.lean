/- What differs between two lists of rows in order. -/
import Derived.Test.YtabpepddbkipiaaDiff1
import Derived.Test.YtabpepddbkipiaaDiff2
namespace Go.Proofs.Ytabpepddbkipiaa
open Go.RowKit
set_option linter.unusedVariables false

theorem look_above {l : List R} {x k : ByteArray} (h : ∀ r ∈ l, lt x r.1 = true) (hk : lt x k = false) : look k l = none := by
  by_cases e : x = k
  · subst e; exact look_low h
  · exact look_low fun r hr => lt_trans (gt_of hk e) (h r hr)
theorem look_cons {x : R} {l : List R} (h : Srt (x :: l)) (k : ByteArray) : look k (x :: l) = if x.1 = k then some x.2 else look k l := by
  have hx := (List.pairwise_cons.1 h).1
  cases hl : lt x.1 k
  · have hn := look_above hx hl
    rw [hn]
    conv => lhs; unfold look
    rw [hl]; rfl
  · have hne := lt_ne hl
    rw [if_neg hne]
    conv => lhs; unfold look
    rw [hl]; rfl
theorem diffF_mem (k : ByteArray) : (f : Nat) → (a b : List R) → Srt a → Srt b → a.length + b.length ≤ f → (k ∈ diffF f a b ↔ look k a ≠ look k b)
  | 0, [], [], _, _, _ => by simp [diffF]
  | 0, x :: a, _, _, _, h => by simp at h
  | 0, [], y :: b, _, _, h => by simp at h
  | f + 1, [], [], _, _, _ => by simp [diffF]
  | f + 1, x :: a, [], ha, hb, h => by
    have ih := diffF_mem k f a [] (List.pairwise_cons.1 ha).2 hb (by simp at h ⊢; omega)
    rw [diffF, List.mem_cons, ih, look_cons ha]
    by_cases e : x.1 = k
    · simp [e, look]
    · rw [if_neg e]
      constructor
      · rintro (h | h)
        · exact absurd h.symm e
        · exact h
      · exact .inr
  | f + 1, [], y :: b, ha, hb, h => by
    have ih := diffF_mem k f [] b ha (List.pairwise_cons.1 hb).2 (by simp at h ⊢; omega)
    rw [diffF, List.mem_cons, ih, look_cons hb]
    by_cases e : y.1 = k
    · simp [e, look]
    · rw [if_neg e]
      constructor
      · rintro (h | h)
        · exact absurd h.symm e
        · exact h
      · exact .inr
  | f + 1, x :: a, y :: b, ha, hb, h => by
    have hxa := List.pairwise_cons.1 ha
    have hyb := List.pairwise_cons.1 hb
    have h1 := diffF_mem k f a (y :: b) hxa.2 hb (by simp at h ⊢; omega)
    have h2 := diffF_mem k f (x :: a) b ha hyb.2 (by simp at h ⊢; omega)
    have h3 := diffF_mem k f a b hxa.2 hyb.2 (by simp at h ⊢; omega)
    unfold diffF
    cases hl : lt x.1 y.1
    · cases hl2 : lt y.1 x.1
      · have e := lt_tri hl hl2
        rw [if_neg (by simp), if_neg (by simp), List.mem_append, h3, look_cons ha, look_cons hb, ← e]
        by_cases hk : x.1 = k
        · have n1 : look k a = none := by rw [← hk]; exact look_low hxa.1
          have n2 : look k b = none := by rw [← hk, e]; exact look_low hyb.1
          rw [if_pos hk, if_pos hk, n1, n2]
          by_cases hz : x.2 = y.2
          · simp [hz]
          · simp [hz, hk]
        · rw [if_neg hk, if_neg hk]
          constructor
          · rintro (h | h)
            · split at h
              · cases h
              · exact absurd (List.mem_singleton.1 h).symm hk
            · exact h
          · exact .inr
      · rw [if_neg (by simp), if_pos rfl, List.mem_cons, h2, look_cons hb]
        by_cases hk : y.1 = k
        · have n1 : look k (x :: a) = none := by
            rw [← hk]
            refine look_low fun r hr => ?_
            rcases List.mem_cons.1 hr with rfl | hr
            · exact hl2
            · exact lt_trans hl2 (hxa.1 r hr)
          rw [if_pos hk, n1]
          simp [hk]
        · rw [if_neg hk]
          constructor
          · rintro (h | h)
            · exact absurd h.symm hk
            · exact h
          · exact .inr
    · rw [if_pos rfl, List.mem_cons, h1, look_cons ha]
      by_cases hk : x.1 = k
      · have n1 : look k (y :: b) = none := by
          rw [← hk]
          refine look_low fun r hr => ?_
          rcases List.mem_cons.1 hr with rfl | hr
          · exact hl
          · exact lt_trans hl (hyb.1 r hr)
        rw [if_pos hk, n1]
        simp [hk]
      · rw [if_neg hk]
        constructor
        · rintro (h | h)
          · exact absurd h.symm hk
          · exact h
        · exact .inr

theorem diffF_low {m : ByteArray} {f : Nat} {a b : List R} (ha : Srt a) (hb : Srt b) (hf : a.length + b.length ≤ f) (h1 : ∀ r ∈ a, lt m r.1 = true) (h2 : ∀ r ∈ b, lt m r.1 = true) : ∀ k ∈ diffF f a b, lt m k = true := fun k hk => by
  have h := (diffF_mem k f a b ha hb hf).1 hk
  cases e : look k a with
  | some z => exact h1 _ (look_mem e)
  | none =>
    cases e2 : look k b with
    | some z => exact h2 _ (look_mem e2)
    | none => exact absurd (e.trans e2.symm) h

theorem diffF_asc : (f : Nat) → (a b : List R) → Srt a → Srt b → a.length + b.length ≤ f → (diffF f a b).Pairwise fun s t => lt s t = true
  | 0, _, _, _, _, _ => by simp [diffF]
  | f + 1, [], [], _, _, _ => by simp [diffF]
  | f + 1, x :: a, [], ha, hb, h => by
    have hxa := List.pairwise_cons.1 ha
    rw [diffF]
    exact List.pairwise_cons.2 ⟨diffF_low hxa.2 hb (by simp at h ⊢; omega) hxa.1 (by simp), diffF_asc f a [] hxa.2 hb (by simp at h ⊢; omega)⟩
  | f + 1, [], y :: b, ha, hb, h => by
    have hyb := List.pairwise_cons.1 hb
    rw [diffF]
    exact List.pairwise_cons.2 ⟨diffF_low ha hyb.2 (by simp at h ⊢; omega) (by simp) hyb.1, diffF_asc f [] b ha hyb.2 (by simp at h ⊢; omega)⟩
  | f + 1, x :: a, y :: b, ha, hb, h => by
    have hxa := List.pairwise_cons.1 ha
    have hyb := List.pairwise_cons.1 hb
    unfold diffF
    cases hl : lt x.1 y.1
    · cases hl2 : lt y.1 x.1
      · have e := lt_tri hl hl2
        rw [if_neg (by simp), if_neg (by simp)]
        have h3 := diffF_asc f a b hxa.2 hyb.2 (by simp at h ⊢; omega)
        split
        · exact h3
        · exact List.pairwise_cons.2 ⟨diffF_low hxa.2 hyb.2 (by simp at h ⊢; omega) hxa.1 (by rw [e]; exact hyb.1), h3⟩
      · rw [if_neg (by simp), if_pos rfl]
        refine List.pairwise_cons.2 ⟨diffF_low ha hyb.2 (by simp at h ⊢; omega) (fun r hr => ?_) hyb.1, diffF_asc f (x :: a) b ha hyb.2 (by simp at h ⊢; omega)⟩
        rcases List.mem_cons.1 hr with rfl | hr
        · exact hl2
        · exact lt_trans hl2 (hxa.1 r hr)
    · rw [if_pos rfl]
      refine List.pairwise_cons.2 ⟨diffF_low hxa.2 hb (by simp at h ⊢; omega) hxa.1 (fun r hr => ?_), diffF_asc f a (y :: b) hxa.2 hb (by simp at h ⊢; omega)⟩
      rcases List.mem_cons.1 hr with rfl | hr
      · exact hl
      · exact lt_trans hl (hyb.1 r hr)

theorem diffF_symm : (f : Nat) → (a b : List R) → diffF f a b = diffF f b a
  | 0, _, _ => rfl
  | f + 1, [], [] => rfl
  | f + 1, x :: a, [] => by simp only [diffF]; rw [diffF_symm f a []]
  | f + 1, [], y :: b => by simp only [diffF]; rw [diffF_symm f [] b]
  | f + 1, x :: a, y :: b => by
    simp only [diffF]
    rw [diffF_symm f a (y :: b), diffF_symm f (x :: a) b, diffF_symm f a b]
    cases hl : lt x.1 y.1
    · cases hl2 : lt y.1 x.1
      · have e := lt_tri hl hl2
        have hz : (x.2 = y.2) ↔ (y.2 = x.2) := ⟨Eq.symm, Eq.symm⟩
        simp [e, hz]
      · simp
    · rw [lt_asymm hl]; simp
theorem diffL_symm (a b : List R) : diffL a b = diffL b a := by unfold diffL; rw [diffF_symm, Nat.add_comm]
theorem diffV_symm (a b : List R) : diffV a b = diffV b a := by unfold diffV; rw [diffL_symm, Bool.and_comm]
theorem diffL_nil {a b : List R} (ha : Srt a) (hb : Srt b) : diffL a b = [] ↔ a = b := by
  constructor
  · intro h
    refine srt_ext ha hb fun k => ?_
    by_cases e : look k a = look k b
    · exact e
    · have := (diffF_mem k _ a b ha hb (Nat.le_refl _)).2 e
      unfold diffL at h
      rw [h] at this; cases this
  · rintro rfl
    refine List.eq_nil_iff_forall_not_mem.2 fun k hk => ?_
    exact (diffF_mem k _ a a ha hb (Nat.le_refl _)).1 hk rfl
theorem diffL_get {a b : List R} (ha : Srt a) (hb : Srt b) {k : Nat} (hk : k < (diffL a b).length) : look (diffL a b)[k] a ≠ look (diffL a b)[k] b :=
  (diffF_mem _ _ a b ha hb (Nat.le_refl _)).1 (List.getElem_mem hk)
theorem diffL_step {a b : List R} (ha : Srt a) (hb : Srt b) {k : Nat} (h0 : 0 < k) (hk : k < (diffL a b).length) : lt ((diffL a b)[k - 1]'(by omega)) (diffL a b)[k] = true :=
  (List.pairwise_iff_getElem.1 (show (diffL a b).Pairwise fun s t => lt s t = true from diffF_asc _ a b ha hb (Nat.le_refl _))) (k - 1) k (by omega) hk (by omega)
theorem diffL_length (a b : List R) : (diffL a b).length ≤ a.length + b.length := diffF_length _ a b
theorem diffV_length (a b : List R) : (diffV a b).length ≤ a.length + b.length := by
  unfold diffV
  split
  · exact diffL_length a b
  · simp


theorem implDiffO {v v' : Value} {l l' : List R} {base base' : Nat} {w : World} (h : OwnR w base v l) (h' : OwnR w base' v' l') (hf : FitR l) (hf' : FitR l') (hl : l.length ≤ 1048576) (hl' : l'.length ≤ 1048576) :
    Calls Try.prog 41 #[v, v'] w (RetS w (diffV l l')) := by
  obtain ⟨A, c, rfl, _, _, hr⟩ := h.read
  obtain ⟨A', c', rfl, _, _, hr'⟩ := h'.read
  exact implDiff A A' c c' l l' w hf hf' hl hl' hr hr'
theorem specDiffO {v v' : Value} {l l' : List R} {base base' : Nat} {w : World} (h : OwnR w base v l) (h' : OwnR w base' v' l') (hf : FitR l) (hf' : FitR l') (hl : l.length ≤ 1048576) (hl' : l'.length ≤ 1048576) :
    Calls Try.prog 40 #[v, v'] w (RetS w (diffV l l')) := by
  obtain ⟨A, c, rfl, h1, h2, hr⟩ := h.read
  obtain ⟨A', c', rfl, h3, h4, hr'⟩ := h'.read
  exact specDiff A A' c c' l l' w hf hf' h1 h3 h2 h4 hl hl' hr hr'

end Go.Proofs.Ytabpepddbkipiaa
