/- Chapter 2, plain mathematics: versions in order; what chains show is what stands.
VersOk of the program.
VersAt, of the model and of the program.
VersLast, of the model and of the program. -/
import Derived.Test.YtheblejlmlfddaaB2
import Derived.Test.YtheblejlmlfddaaS2b
namespace Go.Proofs.Ytheblejlmlfddaa
open Go.RowKit
set_option linter.unusedVariables false

/-- b may stand behind a, near or far -/
def Beh (a b : V) : Prop := (a.k = b.k ∧ 0 < a.t ∧ a.t ≤ b.f) ∨ lt a.k b.k = true
def Ord2 (l : List V) : Prop := l.Pairwise Beh
theorem beh_of_ahead {a b : V} (h : aheadB a b = true) : Beh a b := by
 unfold aheadB at h
 split at h
 ·
  rename_i e
  simp only [Bool.and_eq_true, decide_eq_true_eq] at h
  exact .inl ⟨str_eq e, h.1, h.2⟩
 ·
  exact .inr h
theorem ahead_of_beh {a b : V} (h : Beh a b) : aheadB a b = true := by
 unfold aheadB
 rcases h with ⟨e, h1, h2⟩ | h
 ·
  rw [e]; simp [h1, h2]
 ·
  have hne : (a.k.toList == b.k.toList) = false := str_ne fun e => by rw [e, lt_irrefl] at h; cases h
  rw [hne]; simpa using h
theorem verB_to {z : Int} {x : V} (h : verB z x = true) : x.t = 0 ∨ x.f < x.t := by
 unfold verB at h
 simp only [Bool.and_eq_true, Bool.or_eq_true, decide_eq_true_eq] at h
 omega
theorem verB_from {z : Int} {x : V} (h : verB z x = true) : 1 ≤ x.f ∧ x.f ≤ z := by
 unfold verB at h
 simp only [Bool.and_eq_true, Bool.or_eq_true, decide_eq_true_eq] at h
 omega
theorem verB_toz {z : Int} {x : V} (h : verB z x = true) : x.t ≤ z := by
 have h1 := verB_from h
 unfold verB at h
 simp only [Bool.and_eq_true, Bool.or_eq_true, decide_eq_true_eq] at h
 omega
theorem verB_to0 {z : Int} {x : V} (h : verB z x = true) : 0 ≤ x.t := by
 have h1 := verB_from h
 have h2 := verB_to h
 omega
theorem beh_trans {a b c : V} (hb : b.t = 0 ∨ b.f < b.t) (h1 : Beh a b) (h2 : Beh b c) : Beh a c := by
 rcases h1 with ⟨e1, p1, q1⟩ | h1 <;> rcases h2 with ⟨e2, p2, q2⟩ | h2
 ·
  exact .inl ⟨e1.trans e2, p1, by omega⟩
 ·
  right; rw [e1]; exact h2
 ·
  right; rw [← e2]; exact h1
 ·
  exact .inr (lt_trans h1 h2)
theorem ord2_of {l : List V} {z : Int} (he : ∀ i (h : i < l.length), verB z l[i] = true) (ho : ∀ i (h : i + 1 < l.length), Beh l[i] l[i + 1]) : Ord2 l := by
 have key : ∀ j (hj : j < l.length) i (hi : i < j), Beh (l[i]'(by omega)) l[j] := by
  intro j
  induction j with
  | zero => intro hj i h; omega
  | succ j ih =>
   intro hj i hi
   by_cases e : i = j
   ·
    subst e; exact ho i hj
   ·
    exact beh_trans (verB_to (he j (by omega))) (ih (by omega) i (by omega)) (ho j hj)
 exact List.pairwise_iff_getElem.2 fun i j hi hj hij => key j hj i hij
theorem VersP.ord2 {z : Int} {l : List V} (h : VersP z l) : Ord2 l := ord2_of h.each fun i hi => beh_of_ahead (h.ord i hi)
theorem Ord2.keyLe {l : List V} (h : Ord2 l) : KeyLe l := fun i hi => by
 rcases (List.pairwise_iff_getElem.1 h) i (i + 1) (by omega) hi (by omega) with h1 | h1
 ·
  exact .inl h1.1
 ·
  exact .inr h1

theorem vs_sublist {chs : List Ch} {c : Ch} (h : c ∈ chs) : c.vs.Sublist (chs.flatMap Ch.vs) := by
 induction chs with
 | nil => simp at h
 | cons d chs ih =>
  rw [List.flatMap_cons]
  rcases List.mem_cons.1 h with rfl | h
  ·
   exact List.sublist_append_left _ _
  ·
   exact (ih h).trans (List.sublist_append_right _ _)
/-- in a chain each version ends before the next begins -/
def Chain (vs : List V) : Prop := vs.Pairwise fun a b => 0 < a.t ∧ a.t ≤ b.f
theorem Cons.chain {chs : List Ch} {l : List V} (h : Cons chs l) (ho : Ord2 l) {c : Ch} (hc : c ∈ chs) : Chain c.vs := by
 have h1 : c.vs.Pairwise Beh := List.Pairwise.sublist (by have := vs_sublist hc; rwa [h.flat] at this) ho
 have hk := (h.each c hc).2
 refine List.Pairwise.imp_of_mem ?_ h1
 intro a b ha hb hab
 rcases hab with ⟨_, h2⟩ | h2
 ·
  exact h2
 ·
  rw [hk a ha, hk b hb, lt_irrefl] at h2; cases h2
theorem vis_next {a b : V} {t : Int} (h : 0 < a.t ∧ a.t ≤ b.f) (ha : visB t a = true) : visB t b = false := by
 unfold visB at *
 simp only [Bool.and_eq_true, Bool.or_eq_true, decide_eq_true_eq, Bool.and_eq_false_iff, decide_eq_false_iff_not] at *
 omega
theorem filter_find {p : V → Bool} : {vs : List V} → vs.Pairwise (fun a b => p a = true → p b = false) → vs.filter p = (vs.find? p).toList
 | [], _ => rfl
 | a :: vs, h => by
  rw [List.pairwise_cons] at h
  cases hp : p a
  ·
   rw [List.filter_cons_of_neg (by simp [hp]), List.find?_cons_of_neg (by simp [hp])]
   exact filter_find h.2
  ·
   rw [List.filter_cons_of_pos hp, List.find?_cons_of_pos hp]
   have : vs.filter p = [] := by rw [List.filter_eq_nil_iff]; intro b hb; rw [h.1 b hb hp]; simp
   rw [this]; rfl
theorem Chain.seen {vs : List V} (h : Chain vs) (t : Int) : vs.filter (visB t) = (vs.find? (visB t)).toList :=
 filter_find (List.Pairwise.imp (fun hab ha => vis_next hab ha) h)
theorem snap_at {chs : List Ch} {l : List V} (h : Cons chs l) (ho : Ord2 l) (t : Int) : snapL t chs = atL l t := by
 have hch : ∀ c ∈ chs, Chain c.vs := fun c hc => h.chain ho hc
 rw [← h.flat]
 clear h ho
 induction chs with
 | nil => rfl
 | cons c chs ih =>
  have h1 := ih fun x hx => hch x (by simp [hx])
  have h2 := (hch c (by simp)).seen t
  have e1 : snapL t (c :: chs) = ((seen t c).map rowOf).toList ++ snapL t chs := by
   unfold snapL
   rw [List.filterMap_cons]
   cases hs : (seen t c).map rowOf <;> rfl
  have e2 : atL ((c :: chs).flatMap Ch.vs) t = (c.vs.filter (visB t)).map rowOf ++ atL (chs.flatMap Ch.vs) t := by
   unfold atL
   rw [List.flatMap_cons, List.filter_append, List.map_append]
  rw [e1, e2, h1, h2]
  unfold seen
  cases c.vs.find? (visB t) <;> rfl

/-- the program's order of two versions -/
noncomputable def inOrdB (a b : V) : Bool := if a.k.toList == b.k.toList then decide (a.t ≠ 0) && decide (a.t ≤ b.f) else lt a.k b.k
theorem inOrd_ahead {a b : V} {z : Int} (h : verB z a = true) : inOrdB a b = aheadB a b := by
 unfold inOrdB aheadB
 split
 ·
  have h1 := verB_from h
  have h2 := verB_to h
  rw [Bool.eq_iff_iff]
  simp only [Bool.and_eq_true, decide_eq_true_eq]
  omega
 ·
  rfl

end Go.Proofs.Ytheblejlmlfddaa

namespace Go.Proofs.Ytheblejlmlfddaa
open Go.RowKit
set_option linter.unusedVariables false
set_option maxRecDepth 100000

end Go.Proofs.Ytheblejlmlfddaa

namespace Go.Proofs.Ytheblejlmlfddaa
open Go.RowKit Go.Shelf
set_option linter.unusedVariables false
set_option maxRecDepth 100000
attribute [local go_sem] Oper.semAt_some

noncomputable def versAt (z : Int) (l : List V) (t : Int) : List R := if versB z l && decide (0 ≤ t) && decide (t ≤ z) then atL l t else []
theorem versAt_length (z : Int) (l : List V) (t : Int) : (versAt z l t).length ≤ l.length := by
 unfold versAt
 split
 ·
  exact atL_length l t
 ·
  simp
theorem versAt_yes {z : Int} {l : List V} {t : Int} (h : versB z l = true) (h0 : 0 ≤ t) (h1 : t ≤ z) : versAt z l t = atL l t := by unfold versAt; simp [h, h0, h1]
theorem versAt_no {z : Int} {l : List V} {t : Int} (h : versB z l = false ∨ t < 0 ∨ z < t) : versAt z l t = [] := by
 unfold versAt
 rw [if_neg]
 simp only [Bool.and_eq_true, decide_eq_true_eq]
 rintro ⟨⟨h1, h2⟩, h3⟩
 rcases h with h | h | h
 ·
  rw [h] at h1; cases h1
 ·
  omega
 ·
  omega

theorem Chg.grown {S : Nat → Prop} {w W W' : World} {row : Option Nat} (h : Chg S w W) (hg : W.grownBy W' row) (hr : ∀ k, row = some k → w.heap.size ≤ k) : Chg S w W' :=
 ⟨hg.os.trans h.os, hg.tape.trans h.tape, hg.output.trans h.output, Nat.le_trans h.size hg.size, fun k hk hn => (hg.block k (Nat.lt_of_lt_of_le hk h.size) (fun e => by have := hr k e.symm; omega)).trans (h.block k hk hn)⟩
end Go.Proofs.Ytheblejlmlfddaa

namespace Go.Proofs.Ytheblejlmlfddaa
open Go.RowKit
set_option linter.unusedVariables false
set_option maxRecDepth 100000

def lastF (key : ByteArray) (n : Int) (x : V) : Int := if x.k.toList == key.toList then max n (max x.f x.t) else n
/-- the time at which something was done to a key last -/
def lastL (l : List V) (key : ByteArray) : Int := l.foldl (lastF key) 0
noncomputable def versLast (z : Int) (l : List V) (key : ByteArray) : Int := if versB z l then lastL l key else 0
theorem lastL_succ (l : List V) (key : ByteArray) (k : Nat) (hk : k < l.length) : lastL (l.take (k + 1)) key = lastF key (lastL (l.take k) key) l[k] := by
 unfold lastL; rw [List.take_succ_eq_append_getElem hk, List.foldl_append]; rfl

/-! what a chain says last is what was done last -/
theorem foldl_key (key : ByteArray) : (l : List V) → (n : Int) → (∀ x ∈ l, x.k ≠ key) → l.foldl (lastF key) n = n
 | [], n, _ => rfl
 | x :: l, n, h => by
  rw [List.foldl_cons, foldl_key key l _ fun y hy => h y (by simp [hy])]
  unfold lastF; rw [str_ne (h x (by simp))]; rfl
theorem foldl_le (key : ByteArray) (b : Int) : (l : List V) → (n : Int) → n ≤ b → (∀ x ∈ l, x.f ≤ b ∧ x.t ≤ b) → l.foldl (lastF key) n ≤ b
 | [], n, hn, _ => hn
 | x :: l, n, hn, h => by
  rw [List.foldl_cons]
  refine foldl_le key b l _ ?_ fun y hy => h y (by simp [hy])
  have := h x (by simp)
  unfold lastF
  split <;> omega
theorem chain_last {key : ByteArray} {z : Int} {ls : List Lk} (hc : Chain (ls.map Lk.v)) (hk : ∀ x ∈ ls.map Lk.v, x.k = key) (hv : ∀ x ∈ ls.map Lk.v, verB z x = true) : (ls.map Lk.v).foldl (lastF key) 0 = lastI ls := by
 rcases nil_or_snoc ls with rfl | ⟨init, y, rfl⟩
 ·
  rfl
 ·
  have e : lastI (init ++ [y]) = if y.v.f ≤ y.v.t then y.v.t else y.v.f := by unfold lastI; simp
  rw [e, List.map_append, List.foldl_append]
  have hy := hv y.v (by simp)
  have hyf := verB_from hy
  have hm : (init.map Lk.v).foldl (lastF key) 0 ≤ y.v.f := by
   refine foldl_le key _ _ _ (by omega) fun x hx => ?_
   unfold Chain at hc
   rw [List.map_append, List.pairwise_append] at hc
   have h1 := hc.2.2 x hx y.v (by simp)
   have h2 := verB_to (hv x (by rw [List.map_append]; exact List.mem_append_left _ hx))
   omega
  simp only [List.map_cons, List.map_nil, List.foldl_cons, List.foldl_nil]
  generalize (init.map Lk.v).foldl (lastF key) 0 = m at hm
  unfold lastF
  rw [hk y.v (by simp)]
  simp only [beq_self_eq_true, if_true]
  split <;> omega
theorem cons_last {chs L R : List Ch} {c : Ch} {l : List V} {key : ByteArray} {z : Int} (hC : Cons chs l) (ho : Ord2 l) (hv : ∀ x ∈ l, verB z x = true) (hck : c.k = key) (hA : Asc (L ++ c :: R)) (hor : chs = L ++ c :: R ∨ (chs = L ++ R ∧ c.ls = [])) :
  lastL l key = lastI c.ls := by
 unfold Asc at hA
 rw [List.pairwise_append, List.pairwise_cons] at hA
 have hne : ∀ d, d ∈ L ∨ d ∈ R → ∀ x ∈ d.vs, x.k ≠ key := by
  intro d hd x hx e
  have hdm : d ∈ chs := by rcases hor with rfl | ⟨rfl, _⟩ <;> rcases hd with h | h <;> simp [h]
  have hxk := (hC.each d hdm).2 x hx
  rw [e] at hxk
  rcases hd with h | h
  ·
   have := hA.2.2 d h c (by simp)
   rw [← hxk, hck, lt_irrefl] at this; cases this
  ·
   have := hA.2.1.1 d h
   rw [← hxk, hck, lt_irrefl] at this; cases this
 have hL : ∀ x ∈ L.flatMap Ch.vs, x.k ≠ key := fun x hx => by obtain ⟨d, hd, hx⟩ := List.mem_flatMap.1 hx; exact hne d (.inl hd) x hx
 have hR : ∀ x ∈ R.flatMap Ch.vs, x.k ≠ key := fun x hx => by obtain ⟨d, hd, hx⟩ := List.mem_flatMap.1 hx; exact hne d (.inr hd) x hx
 unfold lastL
 rw [← hC.flat]
 rcases hor with rfl | ⟨rfl, he⟩
 ·
  rw [List.flatMap_append, List.flatMap_cons, List.foldl_append, List.foldl_append, foldl_key key _ _ hL, foldl_key key _ _ hR]
  refine chain_last (z := z) (hC.chain ho (by simp)) (fun x hx => by rw [← hck]; exact (hC.each c (by simp)).2 x hx) fun x hx => hv x ?_
  rw [← hC.flat]
  exact List.mem_flatMap.2 ⟨c, by simp, hx⟩
 ·
  rw [List.flatMap_append, List.foldl_append, foldl_key key _ _ hL, foldl_key key _ _ hR, he]
  rfl

end Go.Proofs.Ytheblejlmlfddaa
