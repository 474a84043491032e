/- The law's comparison of rows.
The law's own helpers over rows: sizes, copies, comparisons.
The law's copies of rows: each in new memory, known whole.
Small laws that the exact laws over rows share.
Rows that are drawn.
RowsCut: the model's and the program's.
Tables of rows as plain lists: put, cut and look-up. No program.
Valid tables under put and cut. No program.
The sum of all numbers: the model's and the program's.
The laws' comparison of rows, and the contracts by the value of rows of the call's own. -/
import Derived.Test.YtheblejlmlfddaaA1
import Derived.Deep.RegionHeld3
import Derived.Test.YtheblejlmlfddaaA3
import Derived.Test.YtheblejlmlfddaaA2
import Derived.Laws.StructEq
namespace Go.Proofs.Ytheblejlmlfddaa
open Go.RowKit
set_option linter.unusedVariables false

def eqR (a b : R) : Bool := decide (a = b)
theorem eqR_yes {a b : R} (h : a = b) : eqR a b = true := decide_eq_true h
theorem eqR_no {a b : R} (h : a ≠ b) : eqR a b = false := decide_eq_false h

def eqL (a b : List R) : Bool := decide (a = b)
theorem eqL_yes {a b : List R} (h : a = b) : eqL a b = true := decide_eq_true h
theorem eqL_no {a b : List R} (h : a ≠ b) : eqL a b = false := decide_eq_false h

end Go.Proofs.Ytheblejlmlfddaa

namespace Go.Proofs.Ytheblejlmlfddaa
open Go.RowKit
set_option linter.unusedVariables false

def szR (left : Int) (k : Nat) : Int := if left < (k : Int) then -1 else left - k
theorem szR_neg {left : Int} {k : Nat} (h : left < (k : Int)) : szR left k = -1 := if_pos h
theorem szR_pos {left : Int} {k : Nat} (h : (k : Int) ≤ left) : szR left k = left - k := if_neg (by omega)

def total : List R → Nat
 | [] => 0
 | r :: l => 1 + r.1.size + total l

theorem total_append (a b : List R) : total (a ++ b) = total a + total b := by
 induction a with
 | nil => simp [total]
 | cons r a ih => simp [total, ih]; omega
theorem total_len (l : List R) : l.length ≤ total l := by
 induction l with
 | nil => simp [total]
 | cons r a ih => simp [total]; omega
theorem total_take_succ (l : List R) (k : Nat) (h : k < l.length) : total (l.take (k + 1)) = total (l.take k) + 1 + l[k].1.size := by
 rw [List.take_succ_eq_append_getElem h, total_append]; simp [total]; omega
theorem total_take_le (l : List R) (k : Nat) : total (l.take k) ≤ total l := by
 have h := total_append (l.take k) (l.drop k)
 rw [List.take_append_drop] at h; omega
theorem total_take_ge (l : List R) (k : Nat) : total (l.take k) + (l.length - k) ≤ total l := by
 have h := total_append (l.take k) (l.drop k)
 have h2 := total_len (l.drop k)
 rw [List.take_append_drop] at h; rw [List.length_drop] at h2; omega

end Go.Proofs.Ytheblejlmlfddaa

namespace Go.Proofs.Ytheblejlmlfddaa
open Go.RowKit
set_option linter.unusedVariables false

end Go.Proofs.Ytheblejlmlfddaa

namespace Go.Proofs.Ytheblejlmlfddaa
open Go.RowKit
set_option linter.unusedVariables false

theorem fitOne {s : ByteArray} {n : Int} (hs : s.size ≤ maxLen) (hn : (Lit.int .i64 n).wf = true) : FitR [(s, n)] := by
 intro r hr
 have : r = (s, n) := by simpa using hr
 subst this
 refine ⟨hs, ?_⟩
 simpa [Lit.wf, IntKind.min, IntKind.max, IntKind.signed, IntKind.bits] using hn
theorem belowGrow {a W W' : World} {row : Option Nat} (h : Below a.heap.size a W) (hg : W.grownBy W' row) (hr : ∀ k, row = some k → a.heap.size ≤ k) : Below a.heap.size a W' := h.grown hg h.size hr
end Go.Proofs.Ytheblejlmlfddaa

namespace Go.Proofs.Ytheblejlmlfddaa
open Go.RowKit
set_option linter.unusedVariables false

theorem fitDrawn {s : ByteArray} {z : Int} (hs : s.size ≤ 100) (hz : FitZ z) : FitR [(s, z)] := by
 intro r hr
 have : r = (s, z) := by simpa using hr
 subst this
 exact ⟨by show s.size ≤ maxLen; unfold maxLen; omega, hz⟩
theorem fitNil : FitR [] := fun r hr => by simp at hr
def zsMany : List Int := [2, 4, 6, 0, 1, 14]
theorem zsMany_small : ∀ z ∈ zsMany, ∃ j : Nat, z = (j : Int) ∧ j ≤ 14 := by
 intro z hz
 simp only [zsMany, List.mem_cons, List.not_mem_nil, or_false] at hz
 exact ⟨z.toNat, by omega, by omega⟩

end Go.Proofs.Ytheblejlmlfddaa

namespace Go.Proofs.Ytheblejlmlfddaa
open Go.RowKit
set_option linter.unusedVariables false

/-- a key taken away -/
def cutL (l : List R) (key : ByteArray) : List R := if hasB l key then l.take (posN l key) ++ l.drop (posN l key + 1) else l
noncomputable def cutV (l : List R) (key : ByteArray) : List R := if rowsB l then cutL l key else []
noncomputable def cutOk (l : List R) (key : ByteArray) : Bool := rowsB l && hasB l key
theorem cutL_length (l : List R) (key : ByteArray) : (cutL l key).length ≤ l.length := by
 unfold cutL
 split
 ·
  simp; omega
 ·
  exact Nat.le_refl _
theorem cutV_length (l : List R) (key : ByteArray) : (cutV l key).length ≤ l.length := by
 unfold cutV
 split
 ·
  exact cutL_length l key
 ·
  simp

end Go.Proofs.Ytheblejlmlfddaa

namespace Go.Proofs.Ytheblejlmlfddaa
open Go.RowKit
set_option linter.unusedVariables false

def ins (key : ByteArray) (num : Int) : List R → List R
 | [] => [(key, num)]
 | r :: l => if lt r.1 key then r :: ins key num l else if r.1 = key then (key, num) :: l else (key, num) :: r :: l
def del (key : ByteArray) : List R → List R
 | [] => []
 | r :: l => if lt r.1 key then r :: del key l else if r.1 = key then l else r :: l
def look (key : ByteArray) : List R → Option Int
 | [] => none
 | r :: l => if lt r.1 key then look key l else if r.1 = key then some r.2 else none

theorem posN_lt {r : R} {l : List R} {key : ByteArray} (h : lt r.1 key = true) : posN (r :: l) key = posN l key + 1 := by simp [posN, h]
theorem posN_ge {r : R} {l : List R} {key : ByteArray} (h : lt r.1 key = false) : posN (r :: l) key = 0 := by simp [posN, h]
theorem hasB_lt' {r : R} {l : List R} {key : ByteArray} (h : lt r.1 key = true) : hasB (r :: l) key = hasB l key := by simp [hasB, posN_lt h]
theorem str_beq (s t : ByteArray) : (s.toList == t.toList) = decide (s = t) := by
 by_cases h : s = t
 ·
  subst h; simp
 ·
  rw [str_ne h]; simp [h]
theorem hasB_ge {r : R} {l : List R} {key : ByteArray} (h : lt r.1 key = false) : hasB (r :: l) key = decide (r.1 = key) := by
 simp only [hasB, posN_ge h, List.getElem?_cons_zero, Option.any_some, str_beq]

theorem putL_ins (key : ByteArray) (num : Int) : (l : List R) → putL l key num = ins key num l
 | [] => by simp [putL, ins, posN]
 | r :: l => by
  have ih := putL_ins key num l
  unfold ins
  cases h : lt r.1 key
  ·
   by_cases e : r.1 = key
   ·
    have hb : hasB (r :: l) key = true := by rw [hasB_ge h]; simp [e]
    simp [putL, hb, posN_ge h, e]
   ·
    have hb : hasB (r :: l) key = false := by rw [hasB_ge h]; simp [e]
    simp [putL, hb, posN_ge h, e]
  ·
   simp only [if_true]
   rw [← ih]
   unfold putL
   rw [hasB_lt' h, posN_lt h]
   cases hasB l key <;> simp
theorem cutL_del (key : ByteArray) : (l : List R) → cutL l key = del key l
 | [] => by simp [cutL, del]
 | r :: l => by
  have ih := cutL_del key l
  unfold del
  cases h : lt r.1 key
  ·
   by_cases e : r.1 = key
   ·
    have hb : hasB (r :: l) key = true := by rw [hasB_ge h]; simp [e]
    simp [cutL, hb, posN_ge h, e]
   ·
    have hb : hasB (r :: l) key = false := by rw [hasB_ge h]; simp [e]
    simp [cutL, hb, e]
  ·
   simp only [if_true]
   rw [← ih]
   unfold cutL
   rw [hasB_lt' h, posN_lt h]
   cases hasB l key <;> simp
theorem hasB_look (key : ByteArray) : (l : List R) → hasB l key = (look key l).isSome
 | [] => by simp [hasB, look]
 | r :: l => by
  unfold look
  cases h : lt r.1 key
  ·
   rw [hasB_ge h]
   by_cases e : r.1 = key <;> simp [e]
  ·
   rw [hasB_lt' h, hasB_look key l]; simp
theorem num_look (key : ByteArray) : (l : List R) → hasB l key = true → (l[posN l key]?.map (·.2)).getD 0 = (look key l).getD 0
 | [], h => by simp [hasB] at h
 | r :: l, hb => by
  unfold look
  cases h : lt r.1 key
  ·
   rw [hasB_ge h] at hb
   have e : r.1 = key := by simpa using hb
   rw [posN_ge h]; simp [e]
  ·
   rw [hasB_lt' h] at hb
   rw [posN_lt h]
   simpa using num_look key l hb

/-- sorted, as a relation between all pairs -/
def Srt (l : List R) : Prop := l.Pairwise fun a b => lt a.1 b.1 = true
theorem AscP.srt {l : List R} (h : AscP l) : Srt l := by
 unfold Srt
 rw [List.pairwise_iff_getElem]
 intro i j hi hj hij
 exact asc_lt h j hj i hij
theorem Srt.asc {l : List R} (h : Srt l) : AscP l := fun i hi => by
 unfold Srt at h
 rw [List.pairwise_iff_getElem] at h
 exact h i (i + 1) (by omega) hi (by omega)

theorem lt_ne {a b : ByteArray} (h : lt a b = true) : a ≠ b := by rintro rfl; rw [lt_irrefl] at h; cases h
/-- not below and not equal: above -/
theorem gt_of {a b : ByteArray} (h : lt a b = false) (e : a ≠ b) : lt b a = true := by
 cases hb : lt b a
 ·
  exact absurd (lt_tri h hb) e
 ·
  rfl

theorem look_low {l : List R} {key : ByteArray} (h : ∀ r ∈ l, lt key r.1 = true) : look key l = none := by
 cases l with
 | nil => rfl
 | cons r l =>
  have h1 := h r List.mem_cons_self
  unfold look
  have hne : r.1 ≠ key := fun e => lt_ne h1 e.symm
  rw [lt_asymm h1]
  simp [hne]
theorem ins_mem {key : ByteArray} {num : Int} : {l : List R} → ∀ r ∈ ins key num l, r = (key, num) ∨ r ∈ l
 | [], r, hr => by left; simpa [ins] using hr
 | x :: l, r, hr => by
  unfold ins at hr
  split at hr
  ·
   rcases List.mem_cons.1 hr with rfl | hr
   ·
    exact .inr List.mem_cons_self
   ·
    rcases ins_mem r hr with h | h
    ·
     exact .inl h
    ·
     exact .inr (List.mem_cons_of_mem _ h)
  ·
   split at hr
   ·
    rcases List.mem_cons.1 hr with h | h
    ·
     exact .inl h
    ·
     exact .inr (List.mem_cons_of_mem _ h)
   ·
    rcases List.mem_cons.1 hr with h | h
    ·
     exact .inl h
    ·
     exact .inr h
theorem del_mem {key : ByteArray} : {l : List R} → ∀ r ∈ del key l, r ∈ l
 | [], r, hr => hr
 | x :: l, r, hr => by
  unfold del at hr
  split at hr
  ·
   rcases List.mem_cons.1 hr with rfl | hr
   ·
    exact List.mem_cons_self
   ·
    exact List.mem_cons_of_mem _ (del_mem r hr)
  ·
   split at hr
   ·
    exact List.mem_cons_of_mem _ hr
   ·
    exact hr
theorem ins_srt {key : ByteArray} {num : Int} : {l : List R} → Srt l → Srt (ins key num l)
 | [], _ => by simp [ins, Srt]
 | x :: l, h => by
  have hx := (List.pairwise_cons.1 h)
  unfold ins
  cases hl : lt x.1 key
  ·
   by_cases e : x.1 = key
   ·
    simp only [e, if_true]
    exact List.pairwise_cons.2 ⟨fun r hr => by have := hx.1 r hr; rw [e] at this; exact this, hx.2⟩
   ·
    simp only [e, if_false]
    have hk := gt_of hl e
    refine List.pairwise_cons.2 ⟨fun r hr => ?_, h⟩
    rcases List.mem_cons.1 hr with rfl | hr
    ·
     exact hk
    ·
     exact lt_trans hk (hx.1 r hr)
  ·
   simp only [if_true]
   refine List.pairwise_cons.2 ⟨fun r hr => ?_, ins_srt hx.2⟩
   rcases ins_mem r hr with rfl | hr
   ·
    exact hl
   ·
    exact hx.1 r hr
theorem del_srt {key : ByteArray} : {l : List R} → Srt l → Srt (del key l)
 | [], h => h
 | x :: l, h => by
  have hx := (List.pairwise_cons.1 h)
  unfold del
  split
  ·
   exact List.pairwise_cons.2 ⟨fun r hr => hx.1 r (del_mem r hr), del_srt hx.2⟩
  ·
   split
   ·
    exact hx.2
   ·
    exact h
theorem look_ins {key : ByteArray} {num : Int} (k : ByteArray) : {l : List R} → Srt l → look k (ins key num l) = if k = key then some num else look k l
 | [], _ => by
  unfold ins look
  by_cases e : k = key
  ·
   subst e; simp [lt_irrefl]
  ·
   have e' : key ≠ k := fun h => e h.symm
   cases h : lt key k <;> simp [e, e', look]
 | x :: l, h => by
  have hx := (List.pairwise_cons.1 h)
  have ih := look_ins (key := key) (num := num) k hx.2
  unfold ins
  cases hl : lt x.1 key
  ·
   by_cases e : x.1 = key
   ·
    subst e
    simp only [if_true]
    by_cases ek : k = x.1
    ·
     subst ek; simp [look, lt_irrefl]
    ·
     have ek' : x.1 ≠ k := fun h => ek h.symm
     simp [look, ek, ek']
   ·
    simp only [e, if_false]
    have hk := gt_of hl e
    by_cases ek : k = key
    ·
     subst ek; simp [look, lt_irrefl]
    ·
     have ek' : key ≠ k := fun h => ek h.symm
     have e1 : look k ((key, num) :: x :: l) = if lt key k then look k (x :: l) else none := by
      rw [look]; simp [ek']
     simp only [Bool.false_eq_true, if_false, e1, ek]
     cases hkk : lt key k
     ·
      rw [look_low (l := x :: l) (fun r hr => by
       have hk2 := gt_of hkk ek'
       rcases List.mem_cons.1 hr with rfl | hr
       ·
        exact lt_trans hk2 hk
       ·
        exact lt_trans hk2 (lt_trans hk (hx.1 r hr)))]
      simp
     ·
      simp
  ·
   simp only [if_true]
   unfold look
   cases hk : lt x.1 k
   ·
    by_cases ek : x.1 = k
    ·
     subst ek
     simp [fun e : x.1 = key => lt_ne hl e]
    ·
     have hk2 := gt_of hk ek
     have : k ≠ key := fun e => by subst e; rw [hl] at hk; cases hk
     simp [ek, this]
   ·
    simp [ih]
theorem look_del {key : ByteArray} (k : ByteArray) : {l : List R} → Srt l → look k (del key l) = if k = key then none else look k l
 | [], _ => by simp [del, look]
 | x :: l, h => by
  have hx := (List.pairwise_cons.1 h)
  have ih := look_del (key := key) k hx.2
  unfold del
  cases hl : lt x.1 key
  ·
   by_cases e : x.1 = key
   ·
    subst e
    simp only [if_true]
    by_cases ek : k = x.1
    ·
     subst ek
     simp [look_low hx.1]
    ·
     have ek' : x.1 ≠ k := fun h => ek h.symm
     simp only [Bool.false_eq_true, if_false, ek]
     conv => rhs; rw [look]
     simp only [ek', if_false]
     cases hkk : lt x.1 k
     ·
      rw [look_low (fun r hr => lt_trans (gt_of hkk ek') (hx.1 r hr))]; simp
     ·
      simp
   ·
    simp only [e, if_false]
    by_cases ek : k = key
    ·
     subst ek
     have hk := gt_of hl e
     simp [look, hl, e]
    ·
     simp [ek]
  ·
   simp only [if_true]
   unfold look
   cases hk : lt x.1 k
   ·
    by_cases ek : x.1 = k
    ·
     subst ek
     simp [fun e : x.1 = key => lt_ne hl e]
    ·
     have : k ≠ key := fun e => by subst e; rw [hl] at hk; cases hk
     simp [ek, this]
   ·
    simp [ih]
theorem srt_ext : {a b : List R} → Srt a → Srt b → (∀ k, look k a = look k b) → a = b
 | [], [], _, _, _ => rfl
 | [], y :: b, _, _, h => by have := h y.1; simp [look, lt_irrefl] at this
 | x :: a, [], _, _, h => by have := h x.1; simp [look, lt_irrefl] at this
 | x :: a, y :: b, ha, hb, h => by
  have hx := (List.pairwise_cons.1 ha)
  have hy := (List.pairwise_cons.1 hb)
  have h1 := h x.1
  have h2 := h y.1
  have hk : x.1 = y.1 := by
   cases hl : lt x.1 y.1
   ·
    cases hl2 : lt y.1 x.1
    ·
     exact lt_tri hl hl2
    ·
     have e : x.1 ≠ y.1 := fun e => lt_ne hl2 e.symm
     unfold look at h2
     rw [hl, lt_irrefl] at h2
     simp [e] at h2
   ·
    have e : y.1 ≠ x.1 := fun e => lt_ne hl e.symm
    unfold look at h1
    rw [lt_irrefl, lt_asymm hl] at h1
    simp [e] at h1
  have hn : x.2 = y.2 := by
   unfold look at h1
   rw [lt_irrefl, ← hk, lt_irrefl] at h1
   simpa using h1
  have hr : ∀ k, look k a = look k b := by
   intro k
   have h3 := h k
   unfold look at h3
   rw [← hk, hn] at h3
   by_cases hlk : lt x.1 k = true
   ·
    simpa [hlk] using h3
   ·
    have hlk' : lt x.1 k = false := by simpa using hlk
    have hle : ∀ r : R, lt x.1 r.1 = true → lt k r.1 = true := fun r hr => by
     by_cases e : x.1 = k
     ·
      rw [← e]; exact hr
     ·
      exact lt_trans (gt_of hlk' e) hr
    rw [look_low (fun r hr => hle r (hx.1 r hr)), look_low (fun r hr => hle r (by rw [hk]; exact hy.1 r hr))]
  rw [srt_ext hx.2 hy.2 hr]
  congr 1
  exact Prod.ext hk hn

theorem ins_length (key : ByteArray) (num : Int) : (l : List R) → (ins key num l).length = if (look key l).isSome then l.length else l.length + 1
 | [] => by simp [ins, look]
 | x :: l => by
  have ih := ins_length key num l
  unfold ins look
  cases hl : lt x.1 key
  ·
   by_cases e : x.1 = key <;> simp [e]
  ·
   simp only [if_true, List.length_cons, ih]
   split <;> rfl
theorem del_length (key : ByteArray) : (l : List R) → (del key l).length = if (look key l).isSome then l.length - 1 else l.length
 | [] => by simp [del, look]
 | x :: l => by
  have ih := del_length key l
  unfold del look
  cases hl : lt x.1 key
  ·
   by_cases e : x.1 = key <;> simp [e]
  ·
   simp only [if_true, List.length_cons, ih]
   cases hk : look key l with
   | none => simp
   | some z =>
    have : 0 < l.length := by cases l with
     | nil => simp [look] at hk
     | cons _ _ => simp
    simp; omega

end Go.Proofs.Ytheblejlmlfddaa

namespace Go.Proofs.Ytheblejlmlfddaa
open Go.RowKit
set_option linter.unusedVariables false

theorem rowsP_iff {l : List R} : RowsP l ↔ l.length ≤ 10 ∧ (∀ r ∈ l, keyB r.1 = true ∧ numB r.2 = true) ∧ Srt l := by
 constructor
 ·
  intro h
  refine ⟨h.len, fun r hr => ?_, h.asc.srt⟩
  obtain ⟨i, hi, rfl⟩ := List.getElem_of_mem hr
  exact h.each i hi
 ·
  rintro ⟨h1, h2, h3⟩
  exact ⟨h1, fun i hi => h2 _ (List.getElem_mem hi), h3.asc⟩
theorem RowsP.srt {l : List R} (h : RowsP l) : Srt l := h.asc.srt
theorem ins_self_mem (key : ByteArray) (num : Int) : (l : List R) → (key, num) ∈ ins key num l
 | [] => by simp [ins]
 | x :: l => by
  unfold ins
  split
  ·
   exact List.mem_cons_of_mem _ (ins_self_mem key num l)
  ·
   split
   ·
    exact List.mem_cons_self
   ·
    exact List.mem_cons_self
theorem ins_ok {l : List R} (h : RowsP l) (key : ByteArray) (num : Int) : rowsB (ins key num l) = (keyB key && numB num && ((look key l).isSome || decide (l.length < 10))) := by
 have h' := rowsP_iff.1 h
 have hl := ins_length key num l
 cases hk : keyB key && numB num && ((look key l).isSome || decide (l.length < 10))
 ·
  apply rowsB_no
  intro hp
  have hp' := rowsP_iff.1 hp
  have h1 := hp'.2.1 _ (ins_self_mem key num l)
  simp only [h1.1, h1.2, Bool.true_and, Bool.or_eq_false_iff, decide_eq_false_iff_not] at hk
  rw [hk.1] at hl
  simp at hl
  have := hp'.1
  omega
 ·
  apply rowsB_yes
  simp only [Bool.and_eq_true, Bool.or_eq_true, decide_eq_true_eq] at hk
  refine rowsP_iff.2 ⟨?_, fun r hr => ?_, ins_srt h'.2.2⟩
  ·
   rw [hl]
   have := h'.1
   rcases hk.2 with h1 | h1
   ·
    rw [h1]; simpa using this
   ·
    split <;> omega
  ·
   rcases ins_mem r hr with rfl | hr
   ·
    exact hk.1
   ·
    exact h'.2.1 r hr
theorem del_ok {l : List R} (h : RowsP l) (key : ByteArray) : RowsP (del key l) := by
 have h' := rowsP_iff.1 h
 have hl := del_length key l
 refine rowsP_iff.2 ⟨?_, fun r hr => h'.2.1 r (del_mem r hr), del_srt h'.2.2⟩
 have := h'.1
 rw [hl]
 split <;> omega
theorem putOk_eq (l : List R) (key : ByteArray) (num : Int) : putOk l key num = (rowsB l && (keyB key && numB num && ((look key l).isSome || decide (l.length < 10)))) := by
 unfold putOk
 cases h : rowsB l
 ·
  rfl
 ·
  rw [putL_ins, ins_ok (rowsB_iff.1 h)]
theorem getB_eq (l : List R) (key : ByteArray) : getB l key = (rowsB l && (look key l).isSome) := by unfold getB; rw [hasB_look]
theorem getN_eq (l : List R) (key : ByteArray) (h : rowsB l = true) : getN l key = (look key l).getD 0 := by
 unfold getN
 rw [h, Bool.true_and]
 cases hb : hasB l key
 ·
  rw [hasB_look] at hb
  cases hk : look key l with
  | none => rfl
  | some z => rw [hk] at hb; cases hb
 ·
  simp only [if_true]; exact num_look key l hb
theorem cutOk_eq (l : List R) (key : ByteArray) : cutOk l key = (rowsB l && (look key l).isSome) := by unfold cutOk; rw [hasB_look]
theorem cutV_eq {l : List R} (key : ByteArray) (h : rowsB l = true) : cutV l key = del key l := by unfold cutV; rw [h, cutL_del]; rfl
theorem cutV_no {l : List R} (key : ByteArray) (h : rowsB l = false) : cutV l key = [] := by unfold cutV; rw [h]; rfl
theorem putV_yes {l : List R} {key : ByteArray} {num : Int} (h : putOk l key num = true) : putV l key num = ins key num l := by
 unfold putOk at h
 simp only [Bool.and_eq_true] at h
 unfold putV
 rw [h.1, h.2, putL_ins]; rfl
theorem putV_no {l : List R} {key : ByteArray} {num : Int} (h : putOk l key num = false) : putV l key num = if rowsB l then l else [] := by
 unfold putOk at h
 unfold putV
 cases hr : rowsB l
 ·
  rfl
 ·
  rw [hr, Bool.true_and] at h
  rw [h]; rfl
theorem putOk_rows {l : List R} {key : ByteArray} {num : Int} (h : putOk l key num = true) : RowsP l ∧ RowsP (ins key num l) := by
 unfold putOk at h
 simp only [Bool.and_eq_true, rowsB_iff, putL_ins] at h
 exact h

theorem del_none {key : ByteArray} {l : List R} (h : Srt l) (hk : look key l = none) : del key l = l := by
 refine srt_ext (del_srt h) h fun k => ?_
 rw [look_del k h]
 split
 ·
  rename_i e; rw [e, hk]
 ·
  rfl
theorem ins_del {key : ByteArray} {num : Int} {l : List R} (h : Srt l) (hk : look key l = some num) : ins key num (del key l) = l := by
 refine srt_ext (ins_srt (del_srt h)) h fun k => ?_
 rw [look_ins k (del_srt h), look_del k h]
 by_cases e : k = key
 ·
  rw [if_pos e, e, hk]
 ·
  rw [if_neg e, if_neg e]
theorem ins_ins {key : ByteArray} {num : Int} {l : List R} (h : Srt l) : ins key num (ins key num l) = ins key num l := by
 refine srt_ext (ins_srt (ins_srt h)) (ins_srt h) fun k => ?_
 rw [look_ins k (ins_srt h), look_ins k h]
 split <;> rfl
theorem ins_comm {key other : ByteArray} {num n : Int} {l : List R} (h : Srt l) (hne : other ≠ key) : ins other n (ins key num l) = ins key num (ins other n l) := by
 refine srt_ext (ins_srt (ins_srt h)) (ins_srt (ins_srt h)) fun k => ?_
 rw [look_ins k (ins_srt h), look_ins k h, look_ins k (ins_srt h), look_ins k h]
 by_cases e : k = other
 ·
  subst e; rw [if_pos rfl, if_neg hne, if_pos rfl]
 ·
  rw [if_neg e, if_neg e]
theorem del_comm {key other : ByteArray} {l : List R} (h : Srt l) : del other (del key l) = del key (del other l) := by
 refine srt_ext (del_srt (del_srt h)) (del_srt (del_srt h)) fun k => ?_
 rw [look_del k (del_srt h), look_del k h, look_del k (del_srt h), look_del k h]
 by_cases e : k = other <;> by_cases e2 : k = key <;> simp [e, e2]
theorem look_del_self {key : ByteArray} {l : List R} (h : Srt l) : look key (del key l) = none := by rw [look_del key h, if_pos rfl]
theorem look_ins_self {key : ByteArray} {num : Int} {l : List R} (h : Srt l) : look key (ins key num l) = some num := by rw [look_ins key h, if_pos rfl]
theorem FitR.ins {l : List R} (h : FitR l) {key : ByteArray} {num : Int} (hk : FitR [(key, num)]) : FitR (ins key num l) := fun r hr => by
 rcases ins_mem r hr with rfl | hr
 ·
  exact hk _ (by simp)
 ·
  exact h r hr
theorem FitR.del {l : List R} (h : FitR l) (key : ByteArray) : FitR (del key l) := fun r hr => h r (del_mem r hr)
theorem FitR.putV {l : List R} (h : FitR l) {key : ByteArray} {num : Int} (hk : FitR [(key, num)]) : FitR (putV l key num) := by
 cases ho : putOk l key num
 ·
  rw [putV_no ho]
  split
  ·
   exact h
  ·
   exact fun r hr => by simp at hr
 ·
  rw [putV_yes ho]; exact h.ins hk
theorem FitR.cutV {l : List R} (h : FitR l) (key : ByteArray) : FitR (cutV l key) := by
 cases ho : rowsB l
 ·
  rw [cutV_no key ho]; exact fun r hr => by simp at hr
 ·
  rw [cutV_eq key ho]; exact h.del key
theorem look_mem : {l : List R} → {key : ByteArray} → {z : Int} → look key l = some z → (key, z) ∈ l
 | [], _, _, h => by simp [look] at h
 | x :: l, key, z, h => by
  unfold look at h
  split at h
  ·
   exact List.mem_cons_of_mem _ (look_mem h)
  ·
   split at h
   ·
    rename_i e
    have : x.2 = z := by simpa using h
    subst e this
    exact List.mem_cons_self
   ·
    cases h
theorem mem_look : {l : List R} → Srt l → {r : R} → r ∈ l → look r.1 l = some r.2
 | x :: l, hs, r, h => by
  have hx := List.pairwise_cons.1 hs
  unfold look
  rcases List.mem_cons.1 h with rfl | h
  ·
   simp [lt_irrefl]
  ·
   rw [hx.1 r h]; simp [mem_look hx.2 h]

end Go.Proofs.Ytheblejlmlfddaa

namespace Go.Proofs.Ytheblejlmlfddaa
open Go.RowKit
set_option linter.unusedVariables false

def sums : List R → Int
 | [] => 0
 | r :: l => r.2 + sums l
noncomputable def sumN (l : List R) : Int := if rowsB l then sums l else 0
theorem sums_append (a b : List R) : sums (a ++ b) = sums a + sums b := by
 induction a with
 | nil => simp [sums]
 | cons r a ih => simp [sums, ih]; omega
theorem sums_succ (l : List R) (k : Nat) (h : k < l.length) : sums (l.take (k + 1)) = sums (l.take k) + l[k].2 := by
 rw [List.take_succ_eq_append_getElem h, sums_append]; simp [sums]
theorem sums_small : (l : List R) → (∀ r ∈ l, -999 ≤ r.2 ∧ r.2 ≤ 999) → -(999 * (l.length : Int)) ≤ sums l ∧ sums l ≤ 999 * (l.length : Int)
 | [], _ => by simp [sums]
 | r :: l, h => by
  have ih := sums_small l fun x hx => h x (List.mem_cons_of_mem _ hx)
  have h0 := h r List.mem_cons_self
  simp [sums]; omega
theorem num_of {n : Int} (h : numB n = true) : -999 ≤ n ∧ n ≤ 999 := by unfold numB at h; simpa using h
theorem RowsP.small {l : List R} (h : RowsP l) : ∀ r ∈ l, -999 ≤ r.2 ∧ r.2 ≤ 999 := fun r hr => by
 obtain ⟨i, hi, rfl⟩ := List.getElem_of_mem hr
 exact num_of (h.each i hi).2
theorem RowsP.part {l : List R} (h : RowsP l) (k : Nat) : -9990 ≤ sums (l.take k) ∧ sums (l.take k) ≤ 9990 := by
 have h1 := sums_small (l.take k) fun r hr => h.small r (List.mem_of_mem_take hr)
 have h2 := h.len
 have h3 : (l.take k).length ≤ l.length := List.length_take_le' _ _
 omega

end Go.Proofs.Ytheblejlmlfddaa

namespace Go.Proofs.Ytheblejlmlfddaa
open Go.RowKit
set_option linter.unusedVariables false

/-! the contracts by the value of rows of the call's own -/
end Go.Proofs.Ytheblejlmlfddaa
