/- Chapter 3, plain mathematics of the program: a snapshot and the writes, merged row by row, is the view; a map of writes, its keys in order. -/
import Derived.Test.YtnijgbinjbikbaaGreatW3n
import Derived.Sort.KeysCollected
import Derived.Sort.Walk0
import Derived.Lib.Strings
namespace Go.Proofs.YtnijgbinjbikbaaGreat
open Go.RowKit
set_option linter.unusedVariables false

/-- the row that a write leaves, if it leaves one -/
def showX (x : X) : List R := if x.g then [] else [(x.k, x.n)]
/-- what a row and the writes ahead of it yield, and the writes that are left -/
def rowStep (r : R) : List X → List R × List X
 | [] => ([r], [])
 | x :: ws => if lt x.k r.1 then (showX x ++ (rowStep r ws).1, (rowStep r ws).2) else if x.k.toList == r.1.toList then (showX x, ws) else ([r], x :: ws)
/-- rows and writes merged -/
def mrg : List R → List X → List R
 | [], ws => ws.flatMap showX
 | r :: rs, ws => (rowStep r ws).1 ++ mrg rs (rowStep r ws).2
/-- .. row by row: what has come, and the writes that are left -/
def mrgF (s : List R × List X) (r : R) : List R × List X := (s.1 ++ (rowStep r s.2).1, (rowStep r s.2).2)
def mrgT (rs : List R) (ws : List X) : List R × List X := rs.foldl mrgF ([], ws)
theorem mrgT_snoc (rs : List R) (r : R) (ws : List X) : mrgT (rs ++ [r]) ws = mrgF (mrgT rs ws) r := by unfold mrgT; rw [List.foldl_append]; rfl
theorem mrg_fold : (rs : List R) → (ws : List X) → (o : List R) → (rs.foldl mrgF (o, ws)).1 ++ (rs.foldl mrgF (o, ws)).2.flatMap showX = o ++ mrg rs ws
 | [], ws, o => rfl
 | r :: rs, ws, o => by
  rw [List.foldl_cons, show mrgF (o, ws) r = (o ++ (rowStep r ws).1, (rowStep r ws).2) from rfl]
  rw [mrg_fold rs (rowStep r ws).2 (o ++ (rowStep r ws).1), List.append_assoc]; rfl
theorem mrgT_all (rs : List R) (ws : List X) : (mrgT rs ws).1 ++ (mrgT rs ws).2.flatMap showX = mrg rs ws := by
 have := mrg_fold rs ws []; simpa [mrgT] using this
theorem showX_length (x : X) : (showX x).length ≤ 1 := by unfold showX; split <;> simp
theorem rowStep_length (r : R) : (ws : List X) → (rowStep r ws).1.length + (rowStep r ws).2.length ≤ ws.length + 1
 | [] => by simp [rowStep]
 | x :: ws => by
  have h1 := showX_length x
  have h2 := rowStep_length r ws
  unfold rowStep
  split
  ·
   simp only [List.length_append, List.length_cons]; omega
  ·
   split
   ·
    simp only [List.length_cons]; omega
   ·
    simp only [List.length_cons, List.length_nil]; omega
theorem mrgT_len : (rs : List R) → (s : List R × List X) → (rs.foldl mrgF s).1.length + (rs.foldl mrgF s).2.length ≤ s.1.length + s.2.length + rs.length
 | [], s => Nat.le_refl _
 | r :: rs, s => by
  rw [List.foldl_cons]
  have h := mrgT_len rs (mrgF s r)
  have h2 := rowStep_length r s.2
  unfold mrgF at h
  simp only [List.length_append, List.length_cons] at h ⊢
  unfold mrgF
  omega
theorem mrgT_length (ws : List X) (rs : List R) : (mrgT rs ws).1.length + (mrgT rs ws).2.length ≤ rs.length + ws.length := by
 have h := mrgT_len rs ([], ws)
 simp only [List.length_nil] at h
 unfold mrgT; omega
theorem view_cons {r : R} : (ws : List X) → {rows : List R} → (∀ x ∈ ws, lt r.1 x.k = true) → viewL (r :: rows) ws = r :: viewL rows ws
 | [], rows, _ => rfl
 | x :: ws, rows, h => by
  have hx := h x (by simp)
  show viewL (viewF (r :: rows) x) ws = r :: viewL (viewF rows x) ws
  have e : viewF (r :: rows) x = r :: viewF rows x := by
   unfold viewF
   split
   ·
    simp [del, hx]
   ·
    simp [ins, hx]
  rw [e, view_cons ws fun y hy => h y (by simp [hy])]
theorem view_show {x : X} (ws : List X) {rows : List R} (h : ∀ y ∈ ws, lt x.k y.k = true) : viewL (showX x ++ rows) ws = showX x ++ viewL rows ws := by
 unfold showX
 split
 ·
  rfl
 ·
  exact view_cons ws h
theorem viewF_low {x : X} {r : R} {rows : List R} (h : lt x.k r.1 = true) : viewF (r :: rows) x = showX x ++ r :: rows := by
 have h1 := lt_asymm h
 have h2 : r.1 ≠ x.k := fun e => by rw [e, lt_irrefl] at h; cases h
 unfold viewF showX
 split
 ·
  simp [del, h1, h2]
 ·
  simp [ins, h1, h2]
theorem viewF_eq {x : X} {r : R} {rows : List R} (h : x.k = r.1) : viewF (r :: rows) x = showX x ++ rows := by
 have h1 : lt r.1 x.k = false := by rw [h]; exact lt_irrefl _
 unfold viewF showX
 split
 ·
  simp [del, h, lt_irrefl]
 ·
  simp [ins, h, lt_irrefl]
theorem rowStep_tail (r : R) : (ws : List X) → ∀ y ∈ (rowStep r ws).2, y ∈ ws
 | [] => by simp [rowStep]
 | x :: ws => by
  intro y hy
  unfold rowStep at hy
  split at hy
  ·
   exact List.mem_cons_of_mem _ (rowStep_tail r ws y hy)
  ·
   split at hy
   ·
    exact List.mem_cons_of_mem _ hy
   ·
    exact hy
theorem rowStep_asc (r : R) : (ws : List X) → AscW ws → AscW (rowStep r ws).2
 | [], _ => by simp [rowStep, AscW]
 | x :: ws, h => by
  have h' := List.pairwise_cons.1 h
  unfold rowStep
  split
  ·
   exact rowStep_asc r ws h'.2
  ·
   split
   ·
    exact h'.2
   ·
    exact h
theorem view_step (r : R) : (ws : List X) → (rows : List R) → AscW ws → viewL (r :: rows) ws = (rowStep r ws).1 ++ viewL rows (rowStep r ws).2
 | [], rows, _ => rfl
 | x :: ws, rows, h => by
  have h' := List.pairwise_cons.1 h
  unfold rowStep
  split
  ·
   rename_i hx
   show viewL (viewF (r :: rows) x) ws = _
   rw [viewF_low hx, view_show ws h'.1, view_step r ws rows h'.2, List.append_assoc]
  ·
   rename_i hx
   split
   ·
    rename_i he
    show viewL (viewF (r :: rows) x) ws = _
    rw [viewF_eq (str_eq he), view_show ws h'.1]
   ·
    rename_i he
    have hne : x.k ≠ r.1 := fun e => he (by rw [e]; simp)
    have hlt : lt r.1 x.k = true := by
     cases hh : lt r.1 x.k
     ·
      exact absurd (lt_tri (by simpa using hx) hh) hne
     ·
      rfl
    rw [view_cons (x :: ws) (by
     intro y hy
     rcases List.mem_cons.1 hy with rfl | hy
     ·
      exact hlt
     ·
      exact lt_trans hlt (h'.1 y hy))]
    rfl
theorem view_none3 : (ws : List X) → AscW ws → viewL [] ws = ws.flatMap showX
 | [], _ => rfl
 | x :: ws, h => by
  have h' := List.pairwise_cons.1 h
  have e : viewF [] x = showX x ++ [] := by unfold viewF showX; split <;> simp [del, ins]
  show viewL (viewF [] x) ws = _
  rw [e, view_show ws h'.1, view_none3 ws h'.2]; rfl
/-- **merged, they are the view** -/
theorem mrg_view : (rows : List R) → (ws : List X) → AscW ws → mrg rows ws = viewL rows ws
 | [], ws, h => (view_none3 ws h).symm
 | r :: rows, ws, h => by
  rw [view_step r ws rows h]
  show (rowStep r ws).1 ++ mrg rows (rowStep r ws).2 = _
  rw [mrg_view rows _ (rowStep_asc r ws h)]

/-! ### keys in order -/
/-- a key's bytes -/
def kl (x : X) : List UInt8 := x.k.data.toList
theorem kl_lt {a b : X} : lt a.k b.k = decide (kl a < kl b) := by
 unfold lt kl; rw [bytesLess_eq, Lib.toList_data, Lib.toList_data]
theorem kl_inj {a b : ByteArray} (h : a.data.toList = b.data.toList) : a = b := by
 cases a; cases b; simp only [ByteArray.mk.injEq]; exact Array.toList_inj.1 h
theorem asc_sorted {ws : List X} (h : AscW ws) : (ws.map kl).mergeSort (fun x y => decide (x ≤ y)) = ws.map kl := by
 refine List.mergeSort_of_pairwise (List.pairwise_map.2 (h.imp fun {a b} hab => ?_))
 rw [kl_lt, decide_eq_true_eq] at hab
 rw [decide_eq_true_eq]
 exact List.le_of_lt hab
theorem asc_nodup {ws : List X} (h : AscW ws) : (ws.map kl).Nodup := by
 refine List.pairwise_map.2 (h.imp fun {a b} hab => ?_)
 rw [kl_lt, decide_eq_true_eq] at hab
 exact fun e => by rw [e] at hab; exact List.lt_irrefl _ hab

end Go.Proofs.YtnijgbinjbikbaaGreat
