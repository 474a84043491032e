/- RowsDiff: the model's and the program's. -/
import Derived.Test.YtabpepddbkipiaaTxt2
namespace Go.Proofs.Ytabpepddbkipiaa
open Go.RowKit
set_option linter.unusedVariables false

/-- the keys under which two lists have not the same; f: steps enough -/
def diffF : Nat → List R → List R → List ByteArray
  | 0, _, _ => []
  | _ + 1, [], [] => []
  | f + 1, x :: a, [] => x.1 :: diffF f a []
  | f + 1, [], y :: b => y.1 :: diffF f [] b
  | f + 1, x :: a, y :: b => if lt x.1 y.1 then x.1 :: diffF f a (y :: b) else if lt y.1 x.1 then y.1 :: diffF f (x :: a) b else (if x.2 = y.2 then [] else [x.1]) ++ diffF f a b
def diffL (a b : List R) : List ByteArray := diffF (a.length + b.length) a b
noncomputable def diffV (a b : List R) : List ByteArray := if rowsB a && rowsB b then diffL a b else []

theorem diffF_length : (f : Nat) → (a b : List R) → (diffF f a b).length ≤ f
  | 0, _, _ => by simp [diffF]
  | f + 1, [], [] => by simp [diffF]
  | f + 1, x :: a, [] => by simp [diffF]; exact diffF_length f a []
  | f + 1, [], y :: b => by simp [diffF]; exact diffF_length f [] b
  | f + 1, x :: a, y :: b => by
    have h1 := diffF_length f a (y :: b)
    have h2 := diffF_length f (x :: a) b
    have h3 := diffF_length f a b
    unfold diffF
    split
    · simp; omega
    · split
      · simp; omega
      · split <;> simp <;> omega
theorem diffF_nil (f : Nat) : diffF f [] [] = [] := by cases f <;> rfl
theorem diff_left {a b : List R} {i k f : Nat} (hi : i < a.length) (hk : b.length ≤ k) (hf : (a.length - i) + (b.length - k) ≤ f) :
    diffF f (a.drop i) (b.drop k) = a[i].1 :: diffF (f - 1) (a.drop (i + 1)) (b.drop k) := by
  obtain ⟨f, rfl⟩ : ∃ g, f = g + 1 := ⟨f - 1, by omega⟩
  rw [List.drop_eq_getElem_cons hi, List.drop_of_length_le hk]; rfl
theorem diff_right {a b : List R} {i k f : Nat} (hi : a.length ≤ i) (hk : k < b.length) (hf : (a.length - i) + (b.length - k) ≤ f) :
    diffF f (a.drop i) (b.drop k) = b[k].1 :: diffF (f - 1) (a.drop i) (b.drop (k + 1)) := by
  obtain ⟨f, rfl⟩ : ∃ g, f = g + 1 := ⟨f - 1, by omega⟩
  rw [List.drop_eq_getElem_cons hk, List.drop_of_length_le hi]; rfl
theorem diff_lt {a b : List R} {i k f : Nat} (hi : i < a.length) (hk : k < b.length) (hl : lt a[i].1 b[k].1 = true) (hf : (a.length - i) + (b.length - k) ≤ f) :
    diffF f (a.drop i) (b.drop k) = a[i].1 :: diffF (f - 1) (a.drop (i + 1)) (b.drop k) := by
  obtain ⟨f, rfl⟩ : ∃ g, f = g + 1 := ⟨f - 1, by omega⟩
  rw [List.drop_eq_getElem_cons hi, List.drop_eq_getElem_cons hk]
  simp [diffF, hl]
theorem diff_gt {a b : List R} {i k f : Nat} (hi : i < a.length) (hk : k < b.length) (hl : lt a[i].1 b[k].1 = false) (hl2 : lt b[k].1 a[i].1 = true) (hf : (a.length - i) + (b.length - k) ≤ f) :
    diffF f (a.drop i) (b.drop k) = b[k].1 :: diffF (f - 1) (a.drop i) (b.drop (k + 1)) := by
  obtain ⟨f, rfl⟩ : ∃ g, f = g + 1 := ⟨f - 1, by omega⟩
  rw [List.drop_eq_getElem_cons hi, List.drop_eq_getElem_cons hk]
  simp [diffF, hl, hl2]
theorem diff_ne {a b : List R} {i k f : Nat} (hi : i < a.length) (hk : k < b.length) (hl : lt a[i].1 b[k].1 = false) (hl2 : lt b[k].1 a[i].1 = false) (hn : a[i].2 ≠ b[k].2) (hf : (a.length - i) + (b.length - k) ≤ f) :
    diffF f (a.drop i) (b.drop k) = a[i].1 :: diffF (f - 1) (a.drop (i + 1)) (b.drop (k + 1)) := by
  obtain ⟨f, rfl⟩ : ∃ g, f = g + 1 := ⟨f - 1, by omega⟩
  rw [List.drop_eq_getElem_cons hi, List.drop_eq_getElem_cons hk]
  simp [diffF, hl, hl2, hn]
theorem diff_same {a b : List R} {i k f : Nat} (hi : i < a.length) (hk : k < b.length) (hl : lt a[i].1 b[k].1 = false) (hl2 : lt b[k].1 a[i].1 = false) (hn : a[i].2 = b[k].2) (hf : (a.length - i) + (b.length - k) ≤ f) :
    diffF f (a.drop i) (b.drop k) = diffF (f - 1) (a.drop (i + 1)) (b.drop (k + 1)) := by
  obtain ⟨f, rfl⟩ : ∃ g, f = g + 1 := ⟨f - 1, by omega⟩
  rw [List.drop_eq_getElem_cons hi, List.drop_eq_getElem_cons hk]
  simp [diffF, hl, hl2, hn]

/-- texts in new memory are returned -/
def RetS (w : World) (l : List ByteArray) (e : Ending) (w' : World) : Prop := ∃ v, e = .returned v ∧ OwnS w' w.heap.size v l ∧ Below w.heap.size w w'

/-- what the two loops carry: what is told so far and what is still to come is all -/
def DiffRel (a b : List R) (w W : World) (o : Value) (i k : Nat) : Prop :=
  ∃ (out : List ByteArray) (f : Nat), (a.length - i) + (b.length - k) ≤ f ∧ out ++ diffF f (a.drop i) (b.drop k) = diffL a b ∧ out.length + (a.length - i) + (b.length - k) ≤ 2097152 ∧ OwnS W w.heap.size o out ∧ Below w.heap.size w W
theorem belowS {a W w' : World} {v : Value} {l : List ByteArray} {o : Obj} (h : Below a.heap.size a W) (hown : OwnS W a.heap.size v l) (hg : (W.alloc o).grownBy w' v.ownBlock) : Below a.heap.size a w' :=
  (below_alloc h o).grown hg (below_alloc h o).size fun k hk => (hown.block_lt hk).1
theorem DiffRel.left {a b : List R} {w W w' : World} {o o' : Value} {i k : Nat} {out : List ByteArray} {f : Nat} (hf : (a.length - i) + (b.length - k) ≤ f) (h : out ++ diffF f (a.drop i) (b.drop k) = diffL a b) (hl : out.length + (a.length - i) + (b.length - k) ≤ 2097152) (hi : i < a.length) (hd : diffF f (a.drop i) (b.drop k) = a[i].1 :: diffF (f - 1) (a.drop (i + 1)) (b.drop k))
    (ho : OwnS w' w.heap.size o' (out ++ [a[i].1])) (hb : Below w.heap.size w w') : DiffRel a b w w' o' (i + 1) k :=
  ⟨out ++ [a[i].1], f - 1, by omega, by rw [← h, hd]; simp, by simp; omega, ho, hb⟩
theorem DiffRel.right {a b : List R} {w W w' : World} {o o' : Value} {i k : Nat} {out : List ByteArray} {f : Nat} (hf : (a.length - i) + (b.length - k) ≤ f) (h : out ++ diffF f (a.drop i) (b.drop k) = diffL a b) (hl : out.length + (a.length - i) + (b.length - k) ≤ 2097152) (hk : k < b.length) (hd : diffF f (a.drop i) (b.drop k) = b[k].1 :: diffF (f - 1) (a.drop i) (b.drop (k + 1)))
    (ho : OwnS w' w.heap.size o' (out ++ [b[k].1])) (hb : Below w.heap.size w w') : DiffRel a b w w' o' i (k + 1) :=
  ⟨out ++ [b[k].1], f - 1, by omega, by rw [← h, hd]; simp, by simp; omega, ho, hb⟩
theorem DiffRel.both {a b : List R} {w W w' : World} {o o' : Value} {i k : Nat} {out : List ByteArray} {f : Nat} (hf : (a.length - i) + (b.length - k) ≤ f) (h : out ++ diffF f (a.drop i) (b.drop k) = diffL a b) (hl : out.length + (a.length - i) + (b.length - k) ≤ 2097152) (hi : i < a.length) (hk : k < b.length) (hd : diffF f (a.drop i) (b.drop k) = a[i].1 :: diffF (f - 1) (a.drop (i + 1)) (b.drop (k + 1)))
    (ho : OwnS w' w.heap.size o' (out ++ [a[i].1])) (hb : Below w.heap.size w w') : DiffRel a b w w' o' (i + 1) (k + 1) :=
  ⟨out ++ [a[i].1], f - 1, by omega, by rw [← h, hd]; simp, by simp; omega, ho, hb⟩
theorem DiffRel.none {a b : List R} {w W w' : World} {o o' : Value} {i k : Nat} {out : List ByteArray} {f : Nat} (hf : (a.length - i) + (b.length - k) ≤ f) (h : out ++ diffF f (a.drop i) (b.drop k) = diffL a b) (hl : out.length + (a.length - i) + (b.length - k) ≤ 2097152) (hi : i < a.length) (hk : k < b.length) (hd : diffF f (a.drop i) (b.drop k) = diffF (f - 1) (a.drop (i + 1)) (b.drop (k + 1)))
    (ho : OwnS w' w.heap.size o' out) (hb : Below w.heap.size w w') : DiffRel a b w w' o' (i + 1) (k + 1) :=
  ⟨out, f - 1, by omega, by rw [← h, hd], by omega, ho, hb⟩

end Go.Proofs.Ytabpepddbkipiaa
