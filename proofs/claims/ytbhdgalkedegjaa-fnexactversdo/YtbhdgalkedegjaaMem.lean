/- How slices of rows lie in memory: 'Rd w B A l': the slice at A reads as the list l of keys and numbers, in blocks below B. -/
import Derived.Test.YtbhdgalkedegjaaProg
import Derived.WalkKit
import Derived.WalkSpells
import Derived.WalkLawsBesides
import Derived.Lib.Hide
import Derived.Deep.Draws
namespace Go.Proofs.Ytbhdgalkedegjaa
open Go.RowKit
set_option linter.unusedVariables false

/-- a row: its key and its number -/
abbrev R := ByteArray × Int

def Rd (w : World) (B : Nat) (A : Option Addr) (l : List R) : Prop :=
  ∀ i r, l[i]? = some r → ∃ b o, A = some ⟨b, o, none⟩ ∧ b < B ∧ w.cell? ⟨b, o + i * 2, none⟩ = some (.string r.1) ∧ w.cell? ⟨b, o + i * 2 + 1, none⟩ = some (.int .i64 r.2)

section
variable {w w' : World} {B B' : Nat} {A : Option Addr} {l : List R}
theorem Rd.nil : Rd w B A [] := fun i r h => by simp at h
theorem Rd.keep (h : Rd w B A l) (hk : ∀ b o, b < B → w'.cell? ⟨b, o, none⟩ = w.cell? ⟨b, o, none⟩) : Rd w' B A l := fun i r hi => by
  obtain ⟨b, o, e, hb, h1, h2⟩ := h i r hi
  exact ⟨b, o, e, hb, (hk _ _ hb).trans h1, (hk _ _ hb).trans h2⟩
theorem Rd.below (h : Rd w B A l) (hb : Below B w w') : Rd w' B A l := h.keep fun _ _ hp => hb.cell hp
theorem Rd.more (h : Rd w B A l) (hB : B ≤ B') : Rd w B' A l := fun i r hi => by
  obtain ⟨b, o, e, hb, h1, h2⟩ := h i r hi
  exact ⟨b, o, e, by omega, h1, h2⟩
theorem Rd.at_ (h : Rd w B A l) {i : Nat} (hi : i < l.length) : ∃ b o, A = some ⟨b, o, none⟩ ∧ b < B ∧ w.cell? ⟨b, o + i * 2, none⟩ = some (.string l[i].1) ∧ w.cell? ⟨b, o + i * 2 + 1, none⟩ = some (.int .i64 l[i].2) :=
  h i l[i] (List.getElem?_eq_getElem hi)
theorem Rd.fix (h : Rd w B A l) {b o : Nat} (e : A = some ⟨b, o, none⟩) {i : Nat} (hi : i < l.length) : w.cell? ⟨b, o + i * 2, none⟩ = some (.string l[i].1) ∧ w.cell? ⟨b, o + i * 2 + 1, none⟩ = some (.int .i64 l[i].2) := by
  obtain ⟨b', o', e', _, h1, h2⟩ := h.at_ hi
  rw [e] at e'
  injection e' with e'
  injection e' with e1 e2
  subst e1 e2
  exact ⟨h1, h2⟩
end

theorem below_drewN {B : Nat} {a w : World} (h : Below B a w) (n : Nat) : Below B a (w.drewN n) := ⟨h.os, h.tape, h.output, h.size, h.block⟩
theorem below_next {a b c : World} (h : Below a.heap.size a b) (k : Below b.heap.size b c) : Below a.heap.size a c := h.trans (k.mono h.size)

theorem ret_int {k : IntKind} {a b : Int} (h : a = b) : Ending.returned (.int k a) = .returned (.int k b) := by rw [h]

/-- block g is known whole: its cells, none of them frozen -/
def Blk (w : World) (g : Nat) (t : TypeId) (cs : Array Value) : Prop := w.heap[g]? = some (.cells cs t (0, 0))

section
variable {w w' : World} {g : Nat} {t : TypeId} {cs : Array Value}
theorem Blk.lt (h : Blk w g t cs) : g < w.heap.size := by
  rcases Nat.lt_or_ge g w.heap.size with hl | hge
  · exact hl
  · unfold Blk at h; rw [Array.getElem?_eq_none hge] at h; cases h
theorem Blk.cell (h : Blk w g t cs) (i : Nat) : w.cell? ⟨g, i, none⟩ = cs[i]? := cell_of_row w g i cs t (0, 0) h
theorem Blk.free (h : Blk w g t cs) (i : Nat) : w.frozen? ⟨g, i, none⟩ = false := frozen_of_row w g i cs t h
theorem Blk.below {B : Nat} (h : Blk w g t cs) (hb : Below B w w') (hg : g < B) : Blk w' g t cs := (hb.block g hg).trans h
theorem Blk.next (h : Blk w g t cs) (hb : Below w.heap.size w w') : Blk w' g t cs := h.below hb h.lt
theorem Blk.set_ (h : Blk w g t cs) (i : Nat) (u : Value) : Blk (w.setCell ⟨g, i, none⟩ u) g t (cs.setIfInBounds i u) := heap_setCell_same w g i cs t u h
end

/-- the cells of a list of rows -/
def cellsR (l : List R) : List Value := l.flatMap fun r => [.string r.1, .int .i64 r.2]
theorem cellsR_length (l : List R) : (cellsR l).length = l.length * 2 := by
  induction l with
  | nil => rfl
  | cons r l ih =>
    have : cellsR (r :: l) = .string r.1 :: .int .i64 r.2 :: cellsR l := rfl
    rw [this]; simp [ih]; omega
theorem cellsR_key (l : List R) (i : Nat) (r : R) (h : l[i]? = some r) : (cellsR l)[i * 2]? = some (.string r.1) := by
  induction l generalizing i with
  | nil => simp at h
  | cons r0 l ih =>
    have e : cellsR (r0 :: l) = .string r0.1 :: .int .i64 r0.2 :: cellsR l := rfl
    rw [e]
    cases i with
    | zero => simp at h; simp [h]
    | succ i => simp at h; rw [show (i + 1) * 2 = i * 2 + 1 + 1 from by omega]; simpa using ih i h
theorem cellsR_num (l : List R) (i : Nat) (r : R) (h : l[i]? = some r) : (cellsR l)[i * 2 + 1]? = some (.int .i64 r.2) := by
  induction l generalizing i with
  | nil => simp at h
  | cons r0 l ih =>
    have e : cellsR (r0 :: l) = .string r0.1 :: .int .i64 r0.2 :: cellsR l := rfl
    rw [e]
    cases i with
    | zero => simp at h; simp [h]
    | succ i => simp at h; rw [show (i + 1) * 2 + 1 = i * 2 + 1 + 1 + 1 from by omega]; simpa using ih i h
/-- a block of rows, known whole, reads as these rows -/
theorem Blk.rd {w : World} {g : Nat} {t : TypeId} {l : List R} (h : Blk w g t (cellsR l).toArray) : Rd w w.heap.size (some ⟨g, 0, none⟩) l := fun i r hi =>
  ⟨g, 0, rfl, h.lt, by rw [h.cell]; simpa using cellsR_key l i r hi, by rw [h.cell]; simpa using cellsR_num l i r hi⟩
/-- an array whose cells are those of the rows is the rows' cells -/
theorem cellsR_ext (l : List R) (cs : Array Value) (hs : cs.size = l.length * 2) (h : ∀ i r, l[i]? = some r → cs[i * 2]? = some (.string r.1) ∧ cs[i * 2 + 1]? = some (.int .i64 r.2)) : cs = (cellsR l).toArray := by
  apply Array.ext
  · simp [hs, cellsR_length]
  · intro j h1 h2
    have hj : j / 2 < l.length := by omega
    have hr : l[j / 2]? = some l[j / 2] := List.getElem?_eq_getElem hj
    have e1 := h _ _ hr
    have e2 := cellsR_key l _ _ hr
    have e3 := cellsR_num l _ _ hr
    rcases Nat.mod_two_eq_zero_or_one j with hm | hm
    · have hj2 : j / 2 * 2 = j := by omega
      rw [hj2] at e1 e2
      have a1 := e1.1
      rw [Array.getElem?_eq_getElem h1] at a1
      have b1 : (cellsR l).toArray[j]? = some (.string l[j / 2].1) := by simpa using e2
      rw [Array.getElem?_eq_getElem h2] at b1
      exact Option.some.inj (a1.trans b1.symm)
    · have hj2 : j / 2 * 2 + 1 = j := by omega
      rw [hj2] at e1 e3
      have a1 := e1.2
      rw [Array.getElem?_eq_getElem h1] at a1
      have b1 : (cellsR l).toArray[j]? = some (.int .i64 l[j / 2].2) := by simpa using e3
      rw [Array.getElem?_eq_getElem h2] at b1
      exact Option.some.inj (a1.trans b1.symm)

/-- row k of a block of rows is written -/
def putR (cs : Array Value) (k : Nat) (r : R) : Array Value := (cs.setIfInBounds (k * 2) (.string r.1)).setIfInBounds (k * 2 + 1) (.int .i64 r.2)
theorem putR_size (cs : Array Value) (k : Nat) (r : R) : (putR cs k r).size = cs.size := by simp [putR]
theorem putR_step (l : List R) (cs : Array Value) (k : Nat) (hk : k < l.length) (hs : cs.size = l.length * 2)
    (h : ∀ j r, j < k → l[j]? = some r → cs[j * 2]? = some (.string r.1) ∧ cs[j * 2 + 1]? = some (.int .i64 r.2)) :
    ∀ j r, j < k + 1 → l[j]? = some r → (putR cs k l[k])[j * 2]? = some (.string r.1) ∧ (putR cs k l[k])[j * 2 + 1]? = some (.int .i64 r.2) := by
  intro j r hj hr
  unfold putR
  by_cases e : j = k
  · subst e
    have : l[j] = r := by rw [List.getElem?_eq_getElem hk] at hr; exact Option.some.inj hr
    subst this
    rw [Array.getElem?_setIfInBounds_ne (by omega), Array.getElem?_setIfInBounds_self_of_lt (by omega), Array.getElem?_setIfInBounds_self_of_lt (by simp; omega)]
    exact ⟨rfl, rfl⟩
  · rw [Array.getElem?_setIfInBounds_ne (by omega), Array.getElem?_setIfInBounds_ne (by omega), Array.getElem?_setIfInBounds_ne (by omega), Array.getElem?_setIfInBounds_ne (by omega)]
    exact h j r (by omega) hr

def zeroR : Array Value := #[.string ByteArray.empty, .int .i64 0]
theorem infoR0 : (Try.prog.info? 90).map (fun i => (i.zero, i.size, i.bytes)) = some (some (.agg zeroR), 2, 24) := by kernel_rfl
theorem infoR : ∃ i, Try.prog.info? 90 = some i ∧ i.zero = some (.agg zeroR) ∧ i.size = 2 ∧ i.bytes = 24 := by
  have h := infoR0
  cases hi : Try.prog.info? 90 with
  | none => rw [hi] at h; cases h
  | some i =>
    rw [hi] at h
    simp only [Option.map_some, Option.some.injEq, Prod.mk.injEq] at h
    exact ⟨i, rfl, h.1, h.2.1, h.2.2⟩
/-- a new row of n zero rows -/
def freshR (n : Nat) : Array Value := madeCells zeroR (n * 2)
theorem freshR_size (n : Nat) : (freshR n).size = n * 2 := size_madeCells _ _
theorem mkRt (t : TypeId) (ht : Try.prog.underlying t = some (.slice 90)) (n c : Nat) (hn : n ≤ c) (hc : c ≤ 2097152) (w : World) : (Instr.makeSlice t (.int .i64 (n : Int)) (.int .i64 (c : Int))).run Try.prog w =
    .ok (.slice (some ⟨w.heap.size, 0, none⟩) n c) (w.alloc (.cells (freshR c) 90)) := by
  obtain ⟨i, hi, hz, hs, hb⟩ := infoR
  have h := run_make (P := Try.prog) w t 90 i _ ht hi hz .i64 .i64 (n : Int) (c : Int) (by omega) (by omega) (by rw [hb]; omega) (by omega)
  rw [hs] at h
  simp only [Int.toNat_natCast] at h
  exact h
theorem mkR (n c : Nat) (hn : n ≤ c) (hc : c ≤ 2097152) (w : World) : (Instr.makeSlice 33 (.int .i64 (n : Int)) (.int .i64 (c : Int))).run Try.prog w =
    .ok (.slice (some ⟨w.heap.size, 0, none⟩) n c) (w.alloc (.cells (freshR c) 90)) := by
  obtain ⟨i, hi, hz, hs, hb⟩ := infoR
  have h := run_make (P := Try.prog) w 33 90 i _ Try.underlying33 hi hz .i64 .i64 (n : Int) (c : Int) (by omega) (by omega) (by rw [hb]; omega) (by omega)
  rw [hs] at h
  simp only [Int.toNat_natCast] at h
  exact h

/-- the numbers and the keys of rows fit Go's kinds -/
def FitR (l : List R) : Prop := ∀ r ∈ l, r.1.size ≤ maxLen ∧ -9223372036854775808 ≤ r.2 ∧ r.2 ≤ 9223372036854775807

end Go.Proofs.Ytbhdgalkedegjaa
