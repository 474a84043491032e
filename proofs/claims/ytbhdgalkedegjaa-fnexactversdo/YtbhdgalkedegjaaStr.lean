/- Texts by their bytes: '<' on texts, what a table of rows is. Plain mathematics, no program. -/
import Derived.Test.YtbhdgalkedegjaaMem
import Derived.Test.YtbhdgalkedegjaaKey
namespace Go.Proofs.Ytbhdgalkedegjaa
open Go.RowKit
set_option linter.unusedVariables false

theorem str_ne {s t : ByteArray} (h : s ≠ t) : (s.toList == t.toList) = false := by
  rw [beq_eq_false_iff_ne, ByteArray.toList_eq, ByteArray.toList_eq]
  intro e
  exact h (by cases s; cases t; simp only [ByteArray.mk.injEq]; exact Array.ext' e)
theorem str_eq {s t : ByteArray} (h : (s.toList == t.toList) = true) : s = t := by
  by_cases e : s = t
  · exact e
  · rw [str_ne e] at h; cases h

theorem bl_irrefl : ∀ x : List UInt8, Op.bytesLess x x = false
  | [] => rfl
  | a :: x => by simp [Op.bytesLess, bl_irrefl x]
theorem bl_trans : ∀ x y z : List UInt8, Op.bytesLess x y = true → Op.bytesLess y z = true → Op.bytesLess x z = true
  | [], y, [], h1, h2 => by cases y <;> simp [Op.bytesLess] at h2
  | [], _, _ :: _, _, _ => rfl
  | a :: x, [], _, h1, _ => by simp [Op.bytesLess] at h1
  | a :: x, b :: y, [], _, h2 => by simp [Op.bytesLess] at h2
  | a :: x, b :: y, c :: z, h1, h2 => by
    simp only [Op.bytesLess, Bool.or_eq_true, decide_eq_true_eq, Bool.and_eq_true, beq_iff_eq] at h1 h2 ⊢
    rcases h1 with h1 | ⟨rfl, h1⟩ <;> rcases h2 with h2 | ⟨rfl, h2⟩
    · exact .inl (UInt8.lt_trans h1 h2)
    · exact .inl h1
    · exact .inl h2
    · exact .inr ⟨rfl, bl_trans x y z h1 h2⟩
theorem bl_tri : ∀ x y : List UInt8, Op.bytesLess x y = false → Op.bytesLess y x = false → x = y
  | [], [], _, _ => rfl
  | [], b :: y, h, _ => by simp [Op.bytesLess] at h
  | a :: x, [], _, h => by simp [Op.bytesLess] at h
  | a :: x, b :: y, h1, h2 => by
    simp only [Op.bytesLess, Bool.or_eq_false_iff, decide_eq_false_iff_not, Bool.and_eq_false_iff, beq_eq_false_iff_ne] at h1 h2
    have e : a = b := UInt8.le_antisymm (UInt8.not_lt.1 h2.1) (UInt8.not_lt.1 h1.1)
    subst e
    rw [bl_tri x y (by simpa using h1.2) (by simpa using h2.2)]

/-- '<' on texts -/
def lt (a b : ByteArray) : Bool := Op.bytesLess a.toList b.toList
theorem lt_irrefl (a : ByteArray) : lt a a = false := bl_irrefl _
theorem lt_trans {a b c : ByteArray} (h : lt a b = true) (k : lt b c = true) : lt a c = true := bl_trans _ _ _ h k
theorem lt_tri {a b : ByteArray} (h : lt a b = false) (k : lt b a = false) : a = b := str_eq (by rw [bl_tri _ _ h k]; simp)
theorem lt_asymm {a b : ByteArray} (h : lt a b = true) : lt b a = false := by
  cases e : lt b a
  · rfl
  · have := lt_trans h e; rw [lt_irrefl] at this; cases this

def numB (n : Int) : Bool := decide (-999 ≤ n) && decide (n ≤ 999)

/-- the keys ascend -/
def AscP (l : List R) : Prop := ∀ i (h : i + 1 < l.length), lt l[i].1 l[i + 1].1 = true
open Classical in
noncomputable def ascB (l : List R) : Bool := decide (AscP l)
theorem ascB_yes {l : List R} (h : AscP l) : ascB l = true := by unfold ascB; simp [h]
theorem ascB_no {l : List R} (h : ¬ AscP l) : ascB l = false := by unfold ascB; simp [h]

/-- a valid table of rows -/
structure RowsP (l : List R) : Prop where
  len : l.length ≤ 10
  each : ∀ i (h : i < l.length), keyB l[i].1 = true ∧ numB l[i].2 = true
  asc : AscP l

open Classical in
noncomputable def rowsB (l : List R) : Bool := decide (RowsP l)
theorem rowsB_yes {l : List R} (h : RowsP l) : rowsB l = true := by unfold rowsB; simp [h]
theorem rowsB_no {l : List R} (h : ¬ RowsP l) : rowsB l = false := by unfold rowsB; simp [h]
theorem rowsB_iff {l : List R} : rowsB l = true ↔ RowsP l := by unfold rowsB; simp

theorem quietL {P : Program} {f : FuncId} {args : Array Value} {w : World} {n : Nat} {v : Value}
    (h : Calls P f args (w.drewN n) fun e w' => e = .returned v ∧ w.drewN n = w') : Calls P f args (w.drewN n) fun e w'' => e = .returned v ∧ ∃ m, w'' = w.drewN m :=
  h.mono fun _ _ ⟨he, hm⟩ => ⟨he, n, hm.symm⟩

end Go.Proofs.Ytbhdgalkedegjaa
