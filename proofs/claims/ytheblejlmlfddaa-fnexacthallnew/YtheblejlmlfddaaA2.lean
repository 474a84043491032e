/- Appending rows to rows of the call's own.
The model's RowsOk computes 'rowsB'.
The program's RowsOk computes 'rowsB'.
Where a key is in rows: the model's search and the program's. -/
import Derived.Test.YtheblejlmlfddaaA1
import Derived.Maps.AppendAt
import Derived.Deep.AppendLies
import Derived.Deep.QuietTactic
import Derived.BigQuiet
import Derived.Deep.RegionHeld3
import Derived.IntWalk
namespace Go.Proofs.Ytheblejlmlfddaa
open Go.RowKit
set_option linter.unusedVariables false

theorem app_types {P : Program} (t t' ty e e' : TypeId) (i : TypeInfo) (ht : P.underlying t = some (.slice e)) (ht' : P.underlying t' = some (.slice e')) (hi : P.info? e = some i) (b : Option Addr) (n c : Nat) (A : Option Addr) (m c2 : Nat) (w : World) :
  (Builtin.append_ #[t, t'] ty #[.slice b n c, .slice A m c2]).run P w = (Builtin.append_ #[t, t] ty #[.slice b n c, .slice A m c2]).run P w := by
 simp [Builtin.append_, run_underlying ht, run_underlying ht', sizeOf, typeInfo, hi]

theorem cellsR_append (a b : List R) : cellsR (a ++ b) = cellsR a ++ cellsR b := by simp [cellsR]
theorem cellsR_one (l : List R) : ∀ u ∈ cellsR l, u.oneCell' = true := by
 intro u hu
 obtain ⟨r, _, h⟩ := List.mem_flatMap.1 hu
 simp at h
 rcases h with rfl | rfl <;> rfl
theorem cellsR_even (l : List R) (j : Nat) (u : Value) (h : (cellsR l)[j]? = some u) : ∃ r, l[j / 2]? = some r ∧ (j % 2 = 0 ∧ u = .string r.1 ∨ j % 2 = 1 ∧ u = .int .i64 r.2) := by
 have hj : j < l.length * 2 := by have := (List.getElem?_eq_some_iff.1 h).1; rwa [cellsR_length] at this
 have hr : l[j / 2]? = some (l[j / 2]'(by omega)) := List.getElem?_eq_getElem _
 refine ⟨_, hr, ?_⟩
 have e2 := cellsR_key l _ _ hr
 have e3 := cellsR_num l _ _ hr
 rcases Nat.mod_two_eq_zero_or_one j with hm | hm
 ·
  left
  rw [show j / 2 * 2 = j from by omega] at e2
  exact ⟨hm, Option.some.inj (h.symm.trans e2)⟩
 ·
  right
  rw [show j / 2 * 2 + 1 = j from by omega] at e3
  exact ⟨hm, Option.some.inj (h.symm.trans e3)⟩
theorem Rd.cells {w : World} {B : Nat} {ad : Addr} {l : List R} (h : Rd w B (some ad) l) : ∀ j u, (cellsR l)[j]? = some u → w.cell? (ad.add j) = some u := by
 intro j u hu
 obtain ⟨r, hr, hv⟩ := cellsR_even l j u hu
 obtain ⟨b, o, e, _, h1, h2⟩ := h _ r hr
 injection e with e
 subst e
 have ha : (⟨b, o, none⟩ : Addr).add j = ⟨b, o + j, none⟩ := by
  unfold Addr.add
  split
  ·
   rename_i h0; subst h0; rfl
  ·
   rfl
 rw [ha]
 rcases hv with ⟨hm, rfl⟩ | ⟨hm, rfl⟩
 ·
  rw [show o + j = o + j / 2 * 2 from by omega]; exact h1
 ·
  rw [show o + j = o + j / 2 * 2 + 1 from by omega]; exact h2

theorem below_alloc {a w : World} (h : Below a.heap.size a w) (o : Obj) : Below a.heap.size a (w.alloc o) := h.alloc h.size o
theorem rdOne (w : World) (key : ByteArray) (num : Int) (t : TypeId) : Rd (w.alloc (.cells #[.string key, .int .i64 num] t)) (w.alloc (.cells #[.string key, .int .i64 num] t)).heap.size (some ⟨w.heap.size, 0, none⟩) [(key, num)] := fun i r hi => by
 have h0 : i = 0 := by have := (List.getElem?_eq_some_iff.1 hi).1; simpa using this
 subst h0
 have : r = (key, num) := by simpa using hi.symm
 subst this
 exact ⟨w.heap.size, 0, rfl, by simp, by rw [World.cell?_alloc_at _ _ _ _ rfl]; rfl, by rw [World.cell?_alloc_at _ _ _ _ rfl]; rfl⟩

theorem rdOneD (w : World) (key : ByteArray) (num : Int) (t : TypeId) : Rd (w.alloc (.cells #[.string key, .int .i64 num] t)).drew (w.alloc (.cells #[.string key, .int .i64 num] t)).drew.heap.size (some ⟨w.heap.size, 0, none⟩) [(key, num)] := rdOne w key num t

theorem Rd.take {w : World} {B : Nat} {A : Option Addr} {l : List R} (h : Rd w B A l) (k : Nat) : Rd w B A (l.take k) := fun i r hi => by
 rw [List.getElem?_take] at hi
 split at hi
 ·
  exact h i r hi
 ·
  cases hi
theorem Rd.drop {w : World} {B : Nat} {A : Option Addr} {l : List R} (h : Rd w B A l) (k cap : Nat) (hc : l.length ≤ cap) : Rd w B (if cap = k then A else A.map (·.add (k * 2))) (l.drop k) := fun i r hi => by
 rw [List.getElem?_drop] at hi
 have hl := (List.getElem?_eq_some_iff.1 hi).1
 rw [if_neg (by omega)]
 obtain ⟨b, o, rfl, hb, h1, h2⟩ := h (k + i) r hi
 refine ⟨b, o + k * 2, ?_, hb, ?_, ?_⟩
 ·
  unfold Addr.add
  simp only [Option.map_some, Option.some.injEq]
  split
  ·
   rename_i h0; rw [h0]; rfl
  ·
   rfl
 ·
  rw [show o + k * 2 + i * 2 = o + (k + i) * 2 from by omega]; exact h1
 ·
  rw [show o + k * 2 + i * 2 + 1 = o + (k + i) * 2 + 1 from by omega]; exact h2

/-- where the slice xs[p:] begins -/
def cutA (A : Option Addr) (c p : Nat) : Option Addr := if c = p then A else A.map (·.add (p * 2))
theorem rdTk {w W : World} {A : Option Addr} {l : List R} (hr : Rd w w.heap.size A l) (p : Nat) (h : Below w.heap.size w W) : Rd W W.heap.size A (l.take p) := ((hr.take p).below h).more h.size
theorem rdDp {w W : World} {A : Option Addr} {l : List R} (hr : Rd w w.heap.size A l) (p c : Nat) (hc : l.length ≤ c) (h : Below w.heap.size w W) : Rd W W.heap.size (cutA A c p) (l.drop p) := ((hr.drop p c hc).below h).more h.size

end Go.Proofs.Ytheblejlmlfddaa

namespace Go.Proofs.Ytheblejlmlfddaa
open Go.RowKit
set_option linter.unusedVariables false

end Go.Proofs.Ytheblejlmlfddaa

namespace Go.Proofs.Ytheblejlmlfddaa
open Go.RowKit
set_option linter.unusedVariables false

theorem ret_str {a b : ByteArray} (h : a = b) : Ending.returned (.string a) = .returned (.string b) := by rw [h]

end Go.Proofs.Ytheblejlmlfddaa

namespace Go.Proofs.Ytheblejlmlfddaa
open Go.RowKit
set_option linter.unusedVariables false

/-- k is the first place whose key is not below the key -/
structure Pos (l : List R) (key : ByteArray) (k : Nat) : Prop where
 le : k ≤ l.length
 low : ∀ i (h : i < l.length), i < k → lt l[i].1 key = true
 at_ : ∀ h : k < l.length, lt l[k].1 key = false

def posN (l : List R) (key : ByteArray) : Nat := (l.takeWhile fun r => lt r.1 key).length
theorem posN_pos : (l : List R) → (key : ByteArray) → Pos l key (posN l key)
 | [], key => ⟨by simp [posN], fun i h => by simp at h, fun h => by simp at h⟩
 | r :: l, key => by
  have ih := posN_pos l key
  cases hr : lt r.1 key
  ·
   have e : posN (r :: l) key = 0 := by simp [posN, hr]
   rw [e]
   exact ⟨Nat.zero_le _, fun i h h0 => absurd h0 (by omega), fun h => by simpa using hr⟩
  ·
   have e : posN (r :: l) key = posN l key + 1 := by simp [posN, hr]
   rw [e]
   refine ⟨by have := ih.le; simp; omega, fun i h h0 => ?_, fun h => ?_⟩
   ·
    cases i with
    | zero => simpa using hr
    | succ i => simpa using ih.low i (by simpa using h) (by omega)
   ·
    simpa using ih.at_ (by simpa using h)
theorem Pos.unique {l : List R} {key : ByteArray} {k k' : Nat} (h : Pos l key k) (h' : Pos l key k') : k = k' := by
 rcases Nat.lt_trichotomy k k' with c | c | c
 ·
  have a := h.at_ (by have := h'.le; omega)
  rw [h'.low k _ c] at a; cases a
 ·
  exact c
 ·
  have a := h'.at_ (by have := h.le; omega)
  rw [h.low k' _ c] at a; cases a
theorem Pos.eq {l : List R} {key : ByteArray} {k : Nat} (h : Pos l key k) : k = posN l key := h.unique (posN_pos l key)

/-- the key is there -/
def hasB (l : List R) (key : ByteArray) : Bool := l[posN l key]?.any fun r => r.1.toList == key.toList
theorem hasB_end {l : List R} {key : ByteArray} {k : Nat} (h : Pos l key k) (hk : l.length ≤ k) : hasB l key = false := by
 unfold hasB; rw [← h.eq, List.getElem?_eq_none hk]; rfl
theorem hasB_at {l : List R} {key : ByteArray} {k : Nat} (h : Pos l key k) (hk : k < l.length) : hasB l key = (l[k].1.toList == key.toList) := by
 unfold hasB; rw [← h.eq, List.getElem?_eq_getElem hk]; rfl
theorem hasB_lt {l : List R} {key : ByteArray} (h : hasB l key = true) : posN l key < l.length := by
 rcases Nat.lt_or_ge (posN l key) l.length with c | c
 ·
  exact c
 ·
  rw [hasB_end (posN_pos l key) c] at h; cases h

theorem ret_pos {a b : Nat} {p q : Bool} (h : a = b) (k : p = q) : Ending.returned (.tuple #[.int .i64 (a : Int), .bool p]) = .returned (.tuple #[.int .i64 (b : Int), .bool q]) := by rw [h, k]

theorem asc_lt {l : List R} (ha : AscP l) : ∀ j (hj : j < l.length) i (h : i < j), lt (l[i]'(by omega)).1 l[j].1 = true := by
 intro j
 induction j with
 | zero => intro hj i h; omega
 | succ j ih =>
  intro hj i h
  by_cases e : i = j
  ·
   subst e; exact ha i hj
  ·
   exact lt_trans (ih (by omega) i (by omega)) (ha j hj)

/-- the number under a key -/
noncomputable def getN (l : List R) (key : ByteArray) : Int := if rowsB l && hasB l key then (l[posN l key]?.map (·.2)).getD 0 else 0
noncomputable def getB (l : List R) (key : ByteArray) : Bool := rowsB l && hasB l key
theorem getN_no {l : List R} {key : ByteArray} (h : (rowsB l && hasB l key) = false) : getN l key = 0 := by unfold getN; rw [h]; rfl
theorem getN_yes {l : List R} {key : ByteArray} (h : (rowsB l && hasB l key) = true) (hk : posN l key < l.length) : getN l key = l[posN l key].2 := by
 unfold getN; rw [h, List.getElem?_eq_getElem hk]; rfl
theorem ret_get {a b : Int} {p q : Bool} (h : a = b) (k : p = q) : Ending.returned (.tuple #[.int .i64 a, .bool p]) = .returned (.tuple #[.int .i64 b, .bool q]) := by rw [h, k]

end Go.Proofs.Ytheblejlmlfddaa
