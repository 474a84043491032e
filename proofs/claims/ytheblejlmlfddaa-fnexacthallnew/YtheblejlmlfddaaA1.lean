/- How slices of rows lie in memory: 'Rd w B A l': the slice at A reads as the list l of keys and numbers, in blocks below B.
The document's test of a key, and that both the program's and the model's function compute it.
Texts by their bytes: '<' on texts, what a table of rows is. Plain mathematics, no program.
The law's marks: texts that are written into memory and looked for again.
The reader of a code: what it picks is some number below the bound.
An argument that is a slice of bytes, opened. -/
import Derived.Test.YtheblejlmlfddaaProg
import Derived.WalkKit
import Derived.WalkSpells
import Derived.WalkLawsBesides
import Derived.Lib.Hide
import Derived.Deep.Draws
import Derived.Deep.RegionHeld3
import Derived.Laws.IdiomStrings
import Derived.Deep.QuietTactic
import Derived.BigQuiet
import Derived.IntWalk
import Derived.Laws.BitsAllLaws
import Derived.Laws.BitsLemmas
import Derived.Test.YtheblejlmlfddaaRows
import Derived.ProofKit
import Derived.OpenShut
import Derived.ShutString
import Derived.ChangeOld
import Derived.Below
namespace Go.Proofs.Ytheblejlmlfddaa
open Go.RowKit
set_option linter.unusedVariables false

/-- a row: its key and its number -/
abbrev R := ByteArray × Int

def Rd (w : World) (B : Nat) (A : Option Addr) (l : List R) : Prop :=
 ∀ i r, l[i]? = some r → ∃ b o, A = some ⟨b, o, none⟩ ∧ b < B ∧ w.cell? ⟨b, o + i * 2, none⟩ = some (.string r.1) ∧ w.cell? ⟨b, o + i * 2 + 1, none⟩ = some (.int .i64 r.2)

section
variable {w w' : World} {B B' : Nat} {A : Option Addr} {l : List R}
theorem Rd.nil : Rd w B A [] := fun i r h => by simp at h
theorem Rd.keep (h : Rd w B A l) (hk : ∀ b o, b < B → w'.cell? ⟨b, o, none⟩ = w.cell? ⟨b, o, none⟩) : Rd w' B A l := fun i r hi => by
 obtain ⟨b, o, e, hb, h1, h2⟩ := h i r hi
 exact ⟨b, o, e, hb, (hk _ _ hb).trans h1, (hk _ _ hb).trans h2⟩
theorem Rd.below (h : Rd w B A l) (hb : Below B w w') : Rd w' B A l := h.keep fun _ _ hp => hb.cell hp
theorem Rd.more (h : Rd w B A l) (hB : B ≤ B') : Rd w B' A l := fun i r hi => by
 obtain ⟨b, o, e, hb, h1, h2⟩ := h i r hi
 exact ⟨b, o, e, by omega, h1, h2⟩
theorem Rd.at_ (h : Rd w B A l) {i : Nat} (hi : i < l.length) : ∃ b o, A = some ⟨b, o, none⟩ ∧ b < B ∧ w.cell? ⟨b, o + i * 2, none⟩ = some (.string l[i].1) ∧ w.cell? ⟨b, o + i * 2 + 1, none⟩ = some (.int .i64 l[i].2) :=
 h i l[i] (List.getElem?_eq_getElem hi)
theorem Rd.fix (h : Rd w B A l) {b o : Nat} (e : A = some ⟨b, o, none⟩) {i : Nat} (hi : i < l.length) : w.cell? ⟨b, o + i * 2, none⟩ = some (.string l[i].1) ∧ w.cell? ⟨b, o + i * 2 + 1, none⟩ = some (.int .i64 l[i].2) := by
 obtain ⟨b', o', e', _, h1, h2⟩ := h.at_ hi
 rw [e] at e'
 injection e' with e'
 injection e' with e1 e2
 subst e1 e2
 exact ⟨h1, h2⟩
end

theorem below_drewN {B : Nat} {a w : World} (h : Below B a w) (n : Nat) : Below B a (w.drewN n) := ⟨h.os, h.tape, h.output, h.size, h.block⟩
theorem below_next {a b c : World} (h : Below a.heap.size a b) (k : Below b.heap.size b c) : Below a.heap.size a c := h.trans (k.mono h.size)

theorem ret_int {k : IntKind} {a b : Int} (h : a = b) : Ending.returned (.int k a) = .returned (.int k b) := by rw [h]

/-- block g is known whole: its cells, none of them frozen -/
def Blk (w : World) (g : Nat) (t : TypeId) (cs : Array Value) : Prop := w.heap[g]? = some (.cells cs t (0, 0))

section
variable {w w' : World} {g : Nat} {t : TypeId} {cs : Array Value}
theorem Blk.lt (h : Blk w g t cs) : g < w.heap.size := by
 rcases Nat.lt_or_ge g w.heap.size with hl | hge
 ·
  exact hl
 ·
  unfold Blk at h; rw [Array.getElem?_eq_none hge] at h; cases h
theorem Blk.cell (h : Blk w g t cs) (i : Nat) : w.cell? ⟨g, i, none⟩ = cs[i]? := cell_of_row w g i cs t (0, 0) h
theorem Blk.free (h : Blk w g t cs) (i : Nat) : w.frozen? ⟨g, i, none⟩ = false := frozen_of_row w g i cs t h
theorem Blk.below {B : Nat} (h : Blk w g t cs) (hb : Below B w w') (hg : g < B) : Blk w' g t cs := (hb.block g hg).trans h
theorem Blk.next (h : Blk w g t cs) (hb : Below w.heap.size w w') : Blk w' g t cs := h.below hb h.lt
theorem Blk.set_ (h : Blk w g t cs) (i : Nat) (u : Value) : Blk (w.setCell ⟨g, i, none⟩ u) g t (cs.setIfInBounds i u) := heap_setCell_same w g i cs t u h
end

/-- the cells of a list of rows -/
def cellsR (l : List R) : List Value := l.flatMap fun r => [.string r.1, .int .i64 r.2]
theorem cellsR_length (l : List R) : (cellsR l).length = l.length * 2 := by
 induction l with
 | nil => rfl
 | cons r l ih =>
  have : cellsR (r :: l) = .string r.1 :: .int .i64 r.2 :: cellsR l := rfl
  rw [this]; simp [ih]; omega
theorem cellsR_key (l : List R) (i : Nat) (r : R) (h : l[i]? = some r) : (cellsR l)[i * 2]? = some (.string r.1) := by
 induction l generalizing i with
 | nil => simp at h
 | cons r0 l ih =>
  have e : cellsR (r0 :: l) = .string r0.1 :: .int .i64 r0.2 :: cellsR l := rfl
  rw [e]
  cases i with
  | zero => simp at h; simp [h]
  | succ i => simp at h; rw [show (i + 1) * 2 = i * 2 + 1 + 1 from by omega]; simpa using ih i h
theorem cellsR_num (l : List R) (i : Nat) (r : R) (h : l[i]? = some r) : (cellsR l)[i * 2 + 1]? = some (.int .i64 r.2) := by
 induction l generalizing i with
 | nil => simp at h
 | cons r0 l ih =>
  have e : cellsR (r0 :: l) = .string r0.1 :: .int .i64 r0.2 :: cellsR l := rfl
  rw [e]
  cases i with
  | zero => simp at h; simp [h]
  | succ i => simp at h; rw [show (i + 1) * 2 + 1 = i * 2 + 1 + 1 + 1 from by omega]; simpa using ih i h
/-- a block of rows, known whole, reads as these rows -/
theorem Blk.rd {w : World} {g : Nat} {t : TypeId} {l : List R} (h : Blk w g t (cellsR l).toArray) : Rd w w.heap.size (some ⟨g, 0, none⟩) l := fun i r hi =>
 ⟨g, 0, rfl, h.lt, by rw [h.cell]; simpa using cellsR_key l i r hi, by rw [h.cell]; simpa using cellsR_num l i r hi⟩
/-- an array whose cells are those of the rows is the rows' cells -/
theorem cellsR_ext (l : List R) (cs : Array Value) (hs : cs.size = l.length * 2) (h : ∀ i r, l[i]? = some r → cs[i * 2]? = some (.string r.1) ∧ cs[i * 2 + 1]? = some (.int .i64 r.2)) : cs = (cellsR l).toArray := by
 apply Array.ext
 ·
  simp [hs, cellsR_length]
 ·
  intro j h1 h2
  have hj : j / 2 < l.length := by omega
  have hr : l[j / 2]? = some l[j / 2] := List.getElem?_eq_getElem hj
  have e1 := h _ _ hr
  have e2 := cellsR_key l _ _ hr
  have e3 := cellsR_num l _ _ hr
  rcases Nat.mod_two_eq_zero_or_one j with hm | hm
  ·
   have hj2 : j / 2 * 2 = j := by omega
   rw [hj2] at e1 e2
   have a1 := e1.1
   rw [Array.getElem?_eq_getElem h1] at a1
   have b1 : (cellsR l).toArray[j]? = some (.string l[j / 2].1) := by simpa using e2
   rw [Array.getElem?_eq_getElem h2] at b1
   exact Option.some.inj (a1.trans b1.symm)
  ·
   have hj2 : j / 2 * 2 + 1 = j := by omega
   rw [hj2] at e1 e3
   have a1 := e1.2
   rw [Array.getElem?_eq_getElem h1] at a1
   have b1 : (cellsR l).toArray[j]? = some (.int .i64 l[j / 2].2) := by simpa using e3
   rw [Array.getElem?_eq_getElem h2] at b1
   exact Option.some.inj (a1.trans b1.symm)

/-- row k of a block of rows is written -/
def putR (cs : Array Value) (k : Nat) (r : R) : Array Value := (cs.setIfInBounds (k * 2) (.string r.1)).setIfInBounds (k * 2 + 1) (.int .i64 r.2)
theorem putR_size (cs : Array Value) (k : Nat) (r : R) : (putR cs k r).size = cs.size := by simp [putR]
theorem putR_step (l : List R) (cs : Array Value) (k : Nat) (hk : k < l.length) (hs : cs.size = l.length * 2)
  (h : ∀ j r, j < k → l[j]? = some r → cs[j * 2]? = some (.string r.1) ∧ cs[j * 2 + 1]? = some (.int .i64 r.2)) :
  ∀ j r, j < k + 1 → l[j]? = some r → (putR cs k l[k])[j * 2]? = some (.string r.1) ∧ (putR cs k l[k])[j * 2 + 1]? = some (.int .i64 r.2) := by
 intro j r hj hr
 unfold putR
 by_cases e : j = k
 ·
  subst e
  have : l[j] = r := by rw [List.getElem?_eq_getElem hk] at hr; exact Option.some.inj hr
  subst this
  rw [Array.getElem?_setIfInBounds_ne (by omega), Array.getElem?_setIfInBounds_self_of_lt (by omega), Array.getElem?_setIfInBounds_self_of_lt (by simp; omega)]
  exact ⟨rfl, rfl⟩
 ·
  rw [Array.getElem?_setIfInBounds_ne (by omega), Array.getElem?_setIfInBounds_ne (by omega), Array.getElem?_setIfInBounds_ne (by omega), Array.getElem?_setIfInBounds_ne (by omega)]
  exact h j r (by omega) hr

def zeroR : Array Value := #[.string ByteArray.empty, .int .i64 0]
/-- a new row of n zero rows -/
def freshR (n : Nat) : Array Value := madeCells zeroR (n * 2)
theorem freshR_size (n : Nat) : (freshR n).size = n * 2 := size_madeCells _ _
/-- the numbers and the keys of rows fit Go's kinds -/
def FitR (l : List R) : Prop := ∀ r ∈ l, r.1.size ≤ maxLen ∧ -9223372036854775808 ≤ r.2 ∧ r.2 ≤ 9223372036854775807

end Go.Proofs.Ytheblejlmlfddaa

namespace Go.Proofs.Ytheblejlmlfddaa
open Go.RowKit
set_option linter.unusedVariables false

/-- a letter a to z -/
def letB (c : UInt8) : Bool := decide (97 ≤ c.toNat) && decide (c.toNat ≤ 122)

/-- a key: one or two letters -/
def keyB (s : ByteArray) : Bool := decide (1 ≤ s.size) && decide (s.size ≤ 2) && s.data.toList.all letB

theorem take_snoc (s : ByteArray) (k : Nat) (h : k < s.size) : s.data.toList.take (k + 1) = s.data.toList.take k ++ [s[k]] := by
 rw [List.take_succ_eq_append_getElem (by simpa using h)]; rfl

theorem all_take_succ (s : ByteArray) (k : Nat) (h : k < s.size) (ha : (s.data.toList.take k).all letB = true) (hl : letB s[k] = true) :
  (s.data.toList.take (k + 1)).all letB = true := by
 rw [take_snoc s k h, List.all_append, ha]; simp [hl]

theorem all_bad (s : ByteArray) (k : Nat) (h : k < s.size) (hl : letB s[k] = false) : s.data.toList.all letB = false := by
 rw [List.all_eq_false]
 exact ⟨s[k], by rw [show s[k] = s.data.toList[k]'(by simpa using h) from rfl]; exact List.getElem_mem _, by simp [hl]⟩

theorem ret_bool {a b : Bool} (h : a = b) : Ending.returned (.bool a) = .returned (.bool b) := by rw [h]

theorem keyB_bad (s : ByteArray) (k : Nat) (h : k < s.size) (hl : letB s[k] = false) : keyB s = false := by
 unfold keyB; rw [all_bad s k h hl]; simp

theorem keyB_two (s : ByteArray) (hF : s.data.toList.all letB = true) (h1 : (1 : Int) ≤ s.size) : decide ((s.size : Int) ≤ 2) = keyB s := by
 have h : 1 ≤ s.size := by omega
 unfold keyB; rw [hF, Bool.eq_iff_iff]; simp [h]; omega

end Go.Proofs.Ytheblejlmlfddaa

namespace Go.Proofs.Ytheblejlmlfddaa
open Go.RowKit
set_option linter.unusedVariables false

theorem str_ne {s t : ByteArray} (h : s ≠ t) : (s.toList == t.toList) = false := by
 rw [beq_eq_false_iff_ne, ByteArray.toList_eq, ByteArray.toList_eq]
 intro e
 exact h (by cases s; cases t; simp only [ByteArray.mk.injEq]; exact Array.ext' e)
theorem str_eq {s t : ByteArray} (h : (s.toList == t.toList) = true) : s = t := by
 by_cases e : s = t
 ·
  exact e
 ·
  rw [str_ne e] at h; cases h

theorem bl_irrefl : ∀ x : List UInt8, Op.bytesLess x x = false
 | [] => rfl
 | a :: x => by simp [Op.bytesLess, bl_irrefl x]
theorem bl_trans : ∀ x y z : List UInt8, Op.bytesLess x y = true → Op.bytesLess y z = true → Op.bytesLess x z = true
 | [], y, [], h1, h2 => by cases y <;> simp [Op.bytesLess] at h2
 | [], _, _ :: _, _, _ => rfl
 | a :: x, [], _, h1, _ => by simp [Op.bytesLess] at h1
 | a :: x, b :: y, [], _, h2 => by simp [Op.bytesLess] at h2
 | a :: x, b :: y, c :: z, h1, h2 => by
  simp only [Op.bytesLess, Bool.or_eq_true, decide_eq_true_eq, Bool.and_eq_true, beq_iff_eq] at h1 h2 ⊢
  rcases h1 with h1 | ⟨rfl, h1⟩ <;> rcases h2 with h2 | ⟨rfl, h2⟩
  ·
   exact .inl (UInt8.lt_trans h1 h2)
  ·
   exact .inl h1
  ·
   exact .inl h2
  ·
   exact .inr ⟨rfl, bl_trans x y z h1 h2⟩
theorem bl_tri : ∀ x y : List UInt8, Op.bytesLess x y = false → Op.bytesLess y x = false → x = y
 | [], [], _, _ => rfl
 | [], b :: y, h, _ => by simp [Op.bytesLess] at h
 | a :: x, [], _, h => by simp [Op.bytesLess] at h
 | a :: x, b :: y, h1, h2 => by
  simp only [Op.bytesLess, Bool.or_eq_false_iff, decide_eq_false_iff_not, Bool.and_eq_false_iff, beq_eq_false_iff_ne] at h1 h2
  have e : a = b := UInt8.le_antisymm (UInt8.not_lt.1 h2.1) (UInt8.not_lt.1 h1.1)
  subst e
  rw [bl_tri x y (by simpa using h1.2) (by simpa using h2.2)]

/-- '<' on texts -/
def lt (a b : ByteArray) : Bool := Op.bytesLess a.toList b.toList
theorem lt_irrefl (a : ByteArray) : lt a a = false := bl_irrefl _
theorem lt_trans {a b c : ByteArray} (h : lt a b = true) (k : lt b c = true) : lt a c = true := bl_trans _ _ _ h k
theorem lt_tri {a b : ByteArray} (h : lt a b = false) (k : lt b a = false) : a = b := str_eq (by rw [bl_tri _ _ h k]; simp)
theorem lt_asymm {a b : ByteArray} (h : lt a b = true) : lt b a = false := by
 cases e : lt b a
 ·
  rfl
 ·
  have := lt_trans h e; rw [lt_irrefl] at this; cases this

def numB (n : Int) : Bool := decide (-999 ≤ n) && decide (n ≤ 999)

/-- the keys ascend -/
def AscP (l : List R) : Prop := ∀ i (h : i + 1 < l.length), lt l[i].1 l[i + 1].1 = true
open Classical in
noncomputable def ascB (l : List R) : Bool := decide (AscP l)
theorem ascB_yes {l : List R} (h : AscP l) : ascB l = true := by unfold ascB; simp [h]
theorem ascB_no {l : List R} (h : ¬ AscP l) : ascB l = false := by unfold ascB; simp [h]

/-- a valid table of rows -/
structure RowsP (l : List R) : Prop where
 len : l.length ≤ 10
 each : ∀ i (h : i < l.length), keyB l[i].1 = true ∧ numB l[i].2 = true
 asc : AscP l

open Classical in
noncomputable def rowsB (l : List R) : Bool := decide (RowsP l)
theorem rowsB_yes {l : List R} (h : RowsP l) : rowsB l = true := by unfold rowsB; simp [h]
theorem rowsB_no {l : List R} (h : ¬ RowsP l) : rowsB l = false := by unfold rowsB; simp [h]
theorem rowsB_iff {l : List R} : rowsB l = true ↔ RowsP l := by unfold rowsB; simp

theorem quietL {P : Program} {f : FuncId} {args : Array Value} {w : World} {n : Nat} {v : Value}
  (h : Calls P f args (w.drewN n) fun e w' => e = .returned v ∧ w.drewN n = w') : Calls P f args (w.drewN n) fun e w'' => e = .returned v ∧ ∃ m, w'' = w.drewN m :=
 h.mono fun _ _ ⟨he, hm⟩ => ⟨he, n, hm.symm⟩

end Go.Proofs.Ytheblejlmlfddaa

namespace Go.Proofs.Ytheblejlmlfddaa
open Go.RowKit
set_option linter.unusedVariables false

/-- a slice of one byte, as the call itself has just made it, made a text -/
theorem oneByte (n : Nat) (W : World) (hn : n < 256) :
  (convert 82 9 (.slice (some ⟨W.heap.size, 0, none⟩) 1 1)).run Try.prog (W.alloc (.cells #[.int .u8 (n : Int)] 5)) = .ok (.string ⟨#[UInt8.ofNat n]⟩) (W.alloc (.cells #[.int .u8 (n : Int)] 5)) := by
 have e : (UInt8.ofNat n).toNat = n := by simp; omega
 exact run_convert_bytes_back (P := Try.prog) (W.alloc (.cells #[.int .u8 (n : Int)] 5)) 82 9 5 ⟨W.heap.size, 0, none⟩ 1 [UInt8.ofNat n] Try.underlying82 Try.underlying5 Try.underlying9 (fun j hj => by
  obtain rfl : j = 0 := by simpa using hj
  simp only [List.getElem_cons_zero, e]
  rw [show (⟨W.heap.size, 0, none⟩ : Addr).add 0 = ⟨W.heap.size, 0, none⟩ from rfl, World.cell?_alloc_at _ _ _ _ rfl]
  rfl)

/-- a digit ahead of a text -/
def digS (m : Nat) (s : ByteArray) : ByteArray := ⟨#[48 + UInt8.ofNat (m % 10)]⟩ ++ s
theorem digS_size (m : Nat) (s : ByteArray) : (digS m s).size = s.size + 1 := by
 unfold digS
 rw [ByteArray.size_append]
 show 1 + s.size = s.size + 1
 omega
/-- the digits of m ahead of a text -/
def digits : Nat → Nat → ByteArray → ByteArray
 | 0, _, s => s
 | _ + 1, 0, s => s
 | f + 1, m + 1, s => digits f ((m + 1) / 10) (digS (m + 1) s)
theorem digits_zero (f : Nat) (s : ByteArray) : digits f 0 s = s := by cases f <;> rfl
theorem digits_step (f m : Nat) (s : ByteArray) (h0 : 0 < m) (h : m ≤ f) : digits f m s = digits (f - 1) (m / 10) (digS m s) := by
 cases f with
 | zero => omega
 | succ f => cases m with
  | zero => omega
  | succ m => rfl
def mt (k : Nat) : ByteArray := ⟨#[109]⟩ ++ digits k k ByteArray.empty

theorem ret_s {a b : ByteArray} (h : a = b) : Ending.returned (.string a) = .returned (.string b) := by rw [h]

set_option maxRecDepth 100000 in
set_option maxHeartbeats 1000000 in
theorem markText_c (k : Nat) (w : World) (h0 : 0 < k) (hk : k ≤ 8388608) :
  Calls Try.prog 33 #[.int .i64 k] w fun e w' => e = .returned (.string (mt k)) ∧ Below w.heap.size w w' := by
 have hp : ¬ ((k : Int) ≤ 0) := by omega
 have hd : decide ((k : Int) ≤ 0) = false := decide_eq_false hp
 go_enter Try.func33, Try.ntmps33
 go_wp2
 go_loopw [0, 3] (fun i o W => ∃ (m : Nat) (s : ByteArray), m + s.size ≤ k ∧ i = .int .i64 m ∧ o = .string s ∧ Below w.heap.size w W ∧ ∃ f, m ≤ f ∧ digits f m s = digits k k ByteArray.empty) (fun i _ _ => (intOf i).toNat)
 case atStart => exact ⟨k, ByteArray.empty, by simp, rfl, rfl, Below.refl _ _, k, Nat.le_refl _, rfl⟩
 case round =>
  obtain ⟨m, s, hms, rfl, rfl, hb, f, hmf, hdig⟩ := hrel
  by_cases hm : 0 < m
  ·
   have hm1 : (0 : Int) < (m : Int) := by omega
   have HD := Lib.hid (digits_step f m s hm hmf)
   have HG := Lib.hid hdig
   clear hdig
   have hcv := oneByte (48 + m % 10) wr (by omega)
   rw [show ((48 + m % 10 : Nat) : Int) = 48 + (m : Int) % 10 from by omega] at hcv
   have hsz := digS_size m s
   have HS := Lib.hid hsz
   clear hsz
   go_wp2
   go_roundw
   case rel => exact ⟨m / 10, digS m s, by rw [HS.out]; omega, by go_num, rfl, hb.alloc hb.size _, f - 1, by omega, by rw [← HD.out]; exact HG.out⟩
   case measure => simp [intOf]; omega
  ·
   have hm0 : m = 0 := by omega
   subst hm0
   have HG := Lib.hid (show s = digits k k ByteArray.empty from by rw [← hdig, digits_zero])
   clear hdig
   have hz : ((1 : Nat) + s.size ≤ 8388609) := by omega
   go_wp2
   go_ret
   exact ⟨ret_s (by unfold mt; rw [← HG.out]), hb⟩

def marksR (n k : Nat) : List R := (List.range n).map fun i => (mt (k + 2 * i), ((k + 2 * i + 1 : Nat) : Int))
theorem marksR_length (n k : Nat) : (marksR n k).length = n := by simp [marksR]
theorem marksR_get (n k i : Nat) (r : R) (h : (marksR n k)[i]? = some r) : i < n ∧ r = (mt (k + 2 * i), ((k + 2 * i + 1 : Nat) : Int)) := by
 have hi : i < n := by have := (List.getElem?_eq_some_iff.1 h).1; simpa [marksR_length] using this
 refine ⟨hi, ?_⟩
 unfold marksR at h
 rw [List.getElem?_map, List.getElem?_range hi] at h
 simpa using h.symm

theorem take_ext (l : List R) (cs : Array Value) (hs : l.length * 2 ≤ cs.size) (h : ∀ i r, l[i]? = some r → cs[i * 2]? = some (.string r.1) ∧ cs[i * 2 + 1]? = some (.int .i64 r.2)) : cs.toList.take (l.length * 2) = cellsR l := by
 have e := cellsR_ext l (cs.toList.take (l.length * 2)).toArray (by simp; omega) fun i r hi => by
  have hil := (List.getElem?_eq_some_iff.1 hi).1
  obtain ⟨h1, h2⟩ := h i r hi
  constructor
  ·
   simp only [List.getElem?_toArray]
   rw [List.getElem?_take_of_lt (by omega)]; simpa using h1
  ·
   simp only [List.getElem?_toArray]
   rw [List.getElem?_take_of_lt (by omega)]; simpa using h2
 have := congrArg Array.toList e
 simpa using this

/-- only block g has turned; what is new is new -/
theorem grown_call {a w w' : World} {g : Nat} (h : a.grownBy w (some g)) (hb : Below w.heap.size w w') : a.grownBy w' (some g) :=
 ⟨hb.os.trans h.os, hb.tape.trans h.tape, hb.output.trans h.output, Nat.le_trans h.size hb.size, fun k hk hne => (hb.block k (Nat.lt_of_lt_of_le hk h.size)).trans (h.block k hk hne)⟩
theorem grown_set {a w : World} {g i : Nat} (h : a.grownBy w (some g)) (u : Value) : a.grownBy (w.setCell ⟨g, i, none⟩ u) (some g) :=
 ⟨h.os, h.tape, h.output, by simpa [World.setCell] using h.size, fun k hk hne => (Below.heap_setCell w ⟨g, i, none⟩ u k (by rintro rfl; exact hne rfl)).trans (h.block k hk hne)⟩

theorem mark_step (cs : Array Value) (k j K : Nat) (hK : k + 2 * j = K) (hs : j * 2 + 1 < cs.size) (h : ∀ i, i < j → cs[i * 2]? = some (.string (mt (k + 2 * i))) ∧ cs[i * 2 + 1]? = some (.int .i64 (k + 2 * i + 1 : Nat))) :
  ∀ i, i < j + 1 → (putR cs j (mt K, (K : Int) + 1))[i * 2]? = some (.string (mt (k + 2 * i))) ∧ (putR cs j (mt K, (K : Int) + 1))[i * 2 + 1]? = some (.int .i64 (k + 2 * i + 1 : Nat)) := by
 intro i hi
 unfold putR
 by_cases e : i = j
 ·
  subst e
  rw [Array.getElem?_setIfInBounds_ne (by omega), Array.getElem?_setIfInBounds_self_of_lt (by omega), Array.getElem?_setIfInBounds_self_of_lt (by simp; omega), hK]
  exact ⟨rfl, rfl⟩
 ·
  rw [Array.getElem?_setIfInBounds_ne (by omega), Array.getElem?_setIfInBounds_ne (by omega), Array.getElem?_setIfInBounds_ne (by omega), Array.getElem?_setIfInBounds_ne (by omega)]
  exact h i (by omega)

end Go.Proofs.Ytheblejlmlfddaa

namespace Go.Proofs.Ytheblejlmlfddaa
open Go.RowKit
set_option linter.unusedVariables false

/-- bytes that can be read, below block B -/
def RdB (w : World) (B : Nat) (A : Option Addr) (n : Nat) : Prop :=
 ∀ i, i < n → ∃ b o z, A = some ⟨b, o, none⟩ ∧ b < B ∧ w.cell? ⟨b, o + i, none⟩ = some (.int .u8 z) ∧ 0 ≤ z ∧ z ≤ 255

theorem RdB.below {w w' : World} {A : Option Addr} {n : Nat} (h : RdB w w.heap.size A n) (hb : Below w.heap.size w w') : RdB w' w'.heap.size A n := fun i hi => by
 obtain ⟨b, o, z, e, hbb, hc, hz⟩ := h i hi
 exact ⟨b, o, z, e, Nat.lt_of_lt_of_le hbb hb.size, (hb.cell (p := ⟨b, o + i, none⟩) hbb).trans hc, hz⟩

theorem grown_drewN {a w : World} {row : Option Nat} (h : a.grownBy w row) (n : Nat) : a.grownBy (w.drewN n) row := ⟨h.os, h.tape, h.output, h.size, h.block⟩
theorem mod_nat (z : Int) (m : Nat) (h : 0 ≤ z) : z % (m : Int) = ((z.toNat % m : Nat) : Int) := by
 obtain ⟨k, rfl⟩ := Int.eq_ofNat_of_zero_le h
 simp
theorem bv64 (a : Nat) (ha : a < 4611686018427387904) : (BitVec.ofInt 64 (a : Int)).toNat = a := by
 rw [BitVec.ofInt_natCast, BitVec.toNat_ofNat]; exact Nat.mod_eq_of_lt (by omega)
theorem xor64 (a b : Nat) (ha : a < 4611686018427387904) (hb : b < 4611686018427387904) : bits .xor .i64 (a : Int) (b : Int) = ((a ^^^ b : Nat) : Int) := by
 have hx : a ^^^ b < 2 ^ 62 := Nat.xor_lt_two_pow (by omega) (by omega)
 show IntKind.i64.wrap ((BitVec.ofInt 64 (a : Int) ^^^ BitVec.ofInt 64 (b : Int)).toNat : Int) = _
 rw [BitVec.toNat_xor, bv64 a ha, bv64 b hb, IntKind.wrap_i64]
 omega
theorem mix_some (z1 z2 : Int) (p q : Nat) (h1 : 0 ≤ z1) (h1' : z1 ≤ 255) (h2 : 0 ≤ z2) (h2' : z2 ≤ 255) (hp : p ≤ 1000000) (hq : q ≤ 1000000) :
  ∃ X : Nat, z1 * 131 + z2 * 1117 + (p : Int) * 29 + (q : Int) * 53 = (X : Int) ∧ X ≤ 1000000000 := ⟨(z1 * 131 + z2 * 1117 + (p : Int) * 29 + (q : Int) * 53).toNat, by omega, by omega⟩

end Go.Proofs.Ytheblejlmlfddaa

namespace Go.Proofs.Ytheblejlmlfddaa
open Go.ChangeShapes Go.WideShapes Go.ChangeAt Go.RowKit
set_option linter.unusedVariables false

set_option maxRecDepth 100000 in
theorem openBytes {H : Type} {enc : TypeId × Value → H} {W : World} {r : Reach} {b0 : Nat} {v : Value} {d : DataW H} {p : List MemPlace}
  (hv : Value.okWide Try.prog W r b0 82 v) (h : DataW.Trod enc Try.prog W 0 (fun _ => true) true 82 v d p) :
  ∃ (A : Option Addr) (n c : Nat), v = .slice A n c ∧ n ≤ c ∧ c ≤ maxLen ∧ RdB W W.heap.size A n := by
 obtain ⟨a0, len0, cap0, rfl⟩ := okWide_slice Try.underlying82 hv
 obtain ⟨fuel, hf⟩ := h
 rcases open_ints Try.underlying82 Try.underlying5 (by kernel_rfl) hf with ⟨hcs, _⟩ | ⟨x, l, c, zs, hcs, _, hl, hm, hz, _, hcell, hwz⟩
 ·
  simp [Value.cells] at hcs
  obtain ⟨rfl, rfl, rfl⟩ := hcs
  exact ⟨none, 0, 0, rfl, Nat.le_refl _, by unfold maxLen; omega, fun i hi => absurd hi (by omega)⟩
 ·
  simp [Value.cells] at hcs
  obtain ⟨rfl, rfl, rfl⟩ := hcs
  have hz' : zs.length = cap0 := by simpa using hz
  refine ⟨_, len0, cap0, rfl, hl, hm, fun i hi => ?_⟩
  have h0 := hcell 0 (by omega)
  have hi1 := hcell i (by omega)
  obtain ⟨b, off, spot⟩ := x
  have hspot : spot = none := by simpa [Addr.add] using World.cell?_spot h0
  subst hspot
  have hb : b < W.heap.size := by
   have := block_lt_of_cell h0
   simpa [Addr.add] using this
  refine ⟨b, off, zs.getD i 0, rfl, hb, ?_, ?_⟩
  ·
   rw [← hi1]
   congr 1
   unfold Addr.add
   split
   ·
    simp
   ·
    rfl
  ·
   have hmem : zs.getD i 0 ∈ zs := by
    rw [List.getD_eq_getElem?_getD, List.getElem?_eq_getElem (by omega)]
    exact List.getElem_mem _
   have := hwz _ hmem
   simpa [Lit.wf, IntKind.min, IntKind.max, IntKind.signed, IntKind.bits] using this

end Go.Proofs.Ytheblejlmlfddaa
