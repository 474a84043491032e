/- The program's chains: forget; the storage's vers.
VersTrim, of the model and of the program.
VersTrim of the model. -/
import Derived.Test.YtheblejlmlfddaaB3
import Derived.StillTailTactics
namespace Go.Proofs.Ytheblejlmlfddaa
open Go.RowKit
set_option linter.unusedVariables false
set_option maxRecDepth 100000

/-- it stands no more at a time, nor later -/
def endB (t : Int) (x : V) : Bool := decide (x.t ≠ 0) && decide (x.t ≤ t)
theorem lks_drop {w : World} {ls : List Lk} (h : LksOk w ls) (i : Nat) : LksOk w (ls.drop i) := by
 intro j x hx
 rw [List.getElem?_drop] at hx
 have := h (i + j) x hx
 have e : nextG (ls.drop i) j = nextG ls (i + j) := by unfold nextG; rw [List.getElem?_drop, Nat.add_assoc]
 rwa [e]
/-- the links that are left -/
def leftLs (t : Int) (ls : List Lk) : List Lk := ls.dropWhile fun x => endB t x.v
theorem leftLs_at {t : Int} {ls : List Lk} {i : Nat} (hi : i ≤ ls.length) (hlow : ∀ j z, j < i → ls[j]? = some z → endB t z.v = true) (hat : ∀ z, ls[i]? = some z → endB t z.v = false) : leftLs t ls = ls.drop i := by
 unfold leftLs
 induction ls generalizing i with
 | nil => simp
 | cons a ls ih =>
  cases i with
  | zero =>
   have := hat a (by simp)
   rw [List.dropWhile_cons_of_neg (by simp [this])]; rfl
  | succ i =>
   have h0 := hlow 0 a (by omega) (by simp)
   rw [List.dropWhile_cons_of_pos (by simp [h0]), List.drop_succ_cons]
   exact ih (by simpa using hi) (fun j z hj hz => hlow (j + 1) z (by omega) (by simpa using hz)) (fun z hz => hat z (by simpa using hz))

def RetForget (w : World) (c : Ch) (t : Int) (e : Ending) (w' : World) : Prop := (∃ v, e = .returned v) ∧ ChOk w' ⟨c.g, c.k, leftLs t c.ls⟩ ∧ Chg (fun b => b = c.g) w w'

/-- the call returns a history in new memory -/
def RetV (w : World) (z : Int) (l : List V) (e : Ending) (w' : World) : Prop := ∃ v, e = .returned (.agg #[.int .i64 z, v]) ∧ OwnG w' w.heap.size v l ∧ Below w.heap.size w w'

theorem flat_take_succ (chs : List Ch) (k : Nat) (h : k < chs.length) : (chs.take (k + 1)).flatMap Ch.vs = (chs.take k).flatMap Ch.vs ++ chs[k].vs := by
 rw [List.take_succ_eq_append_getElem h, List.flatMap_append]; simp
theorem vs_take_succ (c : Ch) (i : Nat) (y : Lk) (h : c.ls[i]? = some y) : c.vs.take (i + 1) = c.vs.take i ++ [y.v] := by
 unfold Ch.vs
 have hi := (List.getElem?_eq_some_iff.1 h).1
 rw [List.take_succ_eq_append_getElem (by simpa using hi), List.getElem_map, (List.getElem?_eq_some_iff.1 h).2]

end Go.Proofs.Ytheblejlmlfddaa

namespace Go.Proofs.Ytheblejlmlfddaa
open Go.RowKit
set_option linter.unusedVariables false
set_option maxRecDepth 100000

def keepL (l : List V) (t : Int) : List V := l.filter fun x => !endB t x
noncomputable def trimZ (z : Int) (l : List V) : Int := if versB z l then z else 0
noncomputable def trimL (z : Int) (l : List V) (t : Int) : List V := if versB z l then keepL l t else []
theorem keepL_length (l : List V) (t : Int) : (keepL l t).length ≤ l.length := List.length_filter_le _ _
theorem trimL_length (z : Int) (l : List V) (t : Int) : (trimL z l t).length ≤ l.length := by
 unfold trimL
 split
 ·
  exact keepL_length l t
 ·
  simp
theorem keepL_yes {l : List V} {t : Int} {k : Nat} (hk : k < l.length) (h : endB t l[k] = false) : keepL (l.take (k + 1)) t = keepL (l.take k) t ++ [l[k]] := by
 rw [List.take_succ_eq_append_getElem hk]; unfold keepL; rw [List.filter_append, List.filter_cons_of_pos (by simp [h])]; rfl
theorem keepL_no {l : List V} {t : Int} {k : Nat} (hk : k < l.length) (h : endB t l[k] = true) : keepL (l.take (k + 1)) t = keepL (l.take k) t := by
 rw [List.take_succ_eq_append_getElem hk]; unfold keepL; rw [List.filter_append, List.filter_cons_of_neg (by simp [h])]; simp

/-! the program's -/
def forgetCh (t : Int) (c : Ch) : Ch := ⟨c.g, c.k, leftLs t c.ls⟩
theorem drop_filter {p : V → Bool} : {vs : List V} → vs.Pairwise (fun a b => p b = true → p a = true) → vs.dropWhile p = vs.filter fun x => !p x
 | [], _ => rfl
 | a :: vs, h => by
  rw [List.pairwise_cons] at h
  cases hp : p a
  ·
   rw [List.dropWhile_cons_of_neg (by simp [hp]), List.filter_cons_of_pos (by simp [hp])]
   congr 1
   symm
   rw [List.filter_eq_self]
   intro b hb
   cases hpb : p b
   ·
    rfl
   ·
    have := h.1 b hb hpb; rw [hp] at this; cases this
  ·
   rw [List.dropWhile_cons_of_pos hp, List.filter_cons_of_neg (by simp [hp])]
   exact drop_filter h.2
theorem left_vs (t : Int) (ls : List Lk) : (leftLs t ls).map Lk.v = (ls.map Lk.v).dropWhile (endB t) := by
 unfold leftLs
 induction ls with
 | nil => rfl
 | cons a ls ih =>
  cases h : endB t a.v
  ·
   rw [List.dropWhile_cons_of_neg (by simp [h]), List.map_cons, List.dropWhile_cons_of_neg (by simp [h])]
  ·
   rw [List.dropWhile_cons_of_pos (by simp [h]), List.map_cons, List.dropWhile_cons_of_pos h, ih]
theorem trim_flat {chs : List Ch} {l : List V} {z t : Int} (hC : Cons chs l) (ho : Ord2 l) (hv : ∀ x ∈ l, verB z x = true) : (chs.map (forgetCh t)).flatMap Ch.vs = keepL l t := by
 have hch : ∀ c ∈ chs, Chain c.vs := fun c hc => hC.chain ho hc
 have hvv : ∀ c ∈ chs, ∀ x ∈ c.vs, verB z x = true := fun c hc x hx => hv x (by rw [← hC.flat]; exact List.mem_flatMap.2 ⟨c, hc, hx⟩)
 rw [← hC.flat]
 clear hC ho hv
 induction chs with
 | nil => rfl
 | cons c chs ih =>
  have h1 := ih (fun x hx => hch x (by simp [hx])) (fun x hx => hvv x (by simp [hx]))
  have hp : c.vs.Pairwise (fun a b => endB t b = true → endB t a = true) := by
   refine List.Pairwise.imp_of_mem ?_ (hch c (by simp))
   intro a b ha hb hab hbe
   have h2 := verB_to (hvv c (by simp) b hb)
   unfold endB at *
   simp only [Bool.and_eq_true, decide_eq_true_eq] at *
   omega
  rw [List.map_cons, List.flatMap_cons, h1]
  unfold keepL
  rw [List.flatMap_cons, List.filter_append, ← drop_filter hp]
  congr 1
  exact left_vs t c.ls

theorem Sto.own_of {w : World} {base s : Nat} {z : Int} {chs : List Ch} {v : Value} (h : Sto w base s z chs) (hB : Blk w s 161 #[.int .i64 z, v]) : OwnG w base v (pts chs) := by
 obtain ⟨v', hB', hO⟩ := h.blk
 have e := Option.some.inj (hB.symm.trans hB')
 injection e with e1 e2 e3
 have e4 : v = v' := by injection e1 with e1; simpa using e1
 rw [e4]; exact hO

/-- the first j chains have forgotten -/
def halfCh (t : Int) (chs : List Ch) (j : Nat) : List Ch := (chs.take j).map (forgetCh t) ++ chs.drop j
theorem halfCh_zero (t : Int) (chs : List Ch) : halfCh t chs 0 = chs := by simp [halfCh]
theorem halfCh_at {t : Int} {chs : List Ch} {j : Nat} (h : j < chs.length) : halfCh t chs j = (chs.take j).map (forgetCh t) ++ chs[j] :: chs.drop (j + 1) := by unfold halfCh; rw [List.drop_eq_getElem_cons h]
theorem halfCh_succ {t : Int} {chs : List Ch} {j : Nat} (h : j < chs.length) : halfCh t chs (j + 1) = (chs.take j).map (forgetCh t) ++ forgetCh t chs[j] :: chs.drop (j + 1) := by
 unfold halfCh; rw [List.take_succ_eq_append_getElem h, List.map_append, List.append_assoc]; rfl
theorem halfCh_all {t : Int} {chs : List Ch} {j : Nat} (h : chs.length ≤ j) : halfCh t chs j = chs.map (forgetCh t) := by unfold halfCh; rw [List.take_of_length_le h, List.drop_of_length_le h, List.append_nil]
theorem halfCh_pts (t : Int) (chs : List Ch) (j : Nat) : pts (halfCh t chs j) = pts chs := by
 unfold halfCh pts
 rw [List.map_append, List.map_map, show ((fun c : Ch => (⟨c.g⟩ : Pt)) ∘ forgetCh t) = (fun c => ⟨c.g⟩) from rfl, ← List.map_append, List.take_append_drop]

end Go.Proofs.Ytheblejlmlfddaa

namespace Go.Proofs.Ytheblejlmlfddaa
open Go.RowKit
set_option linter.unusedVariables false
set_option maxRecDepth 100000

end Go.Proofs.Ytheblejlmlfddaa
