/- RowsIn of the model.
RowsIn of the program: its iterator.
RowsIn of the program.
RowsIn of the program: the whole.
RowsIn by the value of rows of the call's own; what a list that is not valid gives. -/
import Derived.Test.YtheblejlmlfddaaB3
import Derived.RangeFuncNested
import Derived.RangeFuncBound
import Derived.RangeFuncCalls
import Derived.RangeFuncLeaves
import Derived.RangeFuncBox
import Derived.Shelf.Abstract
import Derived.Shelf.RegionOpen
import Derived.WalkKit
import Derived.OwnWalkIn
import Derived.TacticsInMore
import Derived.LoopNIn
import Derived.LoopIn
import Derived.Maps.AppendAt
import Derived.Stop.RegionWithIn
import Derived.Deep.RegionWith
namespace Go.Proofs.Ytheblejlmlfddaa
open Go.RowKit
set_option linter.unusedVariables false

/-- the key lies between the two texts -/
def midB (lo hi k : ByteArray) : Bool := !lt k lo && !lt hi k
def inL (l : List R) (lo hi : ByteArray) : List R := l.filter fun r => midB lo hi r.1
noncomputable def inV (l : List R) (lo hi : ByteArray) : List R := if rowsB l then inL l lo hi else []
theorem inL_length (l : List R) (lo hi : ByteArray) : (inL l lo hi).length ≤ l.length := List.length_filter_le _ _
theorem inV_length (l : List R) (lo hi : ByteArray) : (inV l lo hi).length ≤ l.length := by
 unfold inV
 split
 ·
  exact inL_length l lo hi
 ·
  simp
theorem inL_yes {l : List R} {lo hi : ByteArray} {k : Nat} (hk : k < l.length) (h : midB lo hi l[k].1 = true) : inL (l.take (k + 1)) lo hi = inL (l.take k) lo hi ++ [l[k]] := by
 rw [List.take_succ_eq_append_getElem hk]; unfold inL; simp only [List.filter_append, List.filter_cons, h, if_true, List.filter_nil]
theorem inL_no {l : List R} {lo hi : ByteArray} {k : Nat} (hk : k < l.length) (h : midB lo hi l[k].1 = false) : inL (l.take (k + 1)) lo hi = inL (l.take k) lo hi := by
 rw [List.take_succ_eq_append_getElem hk]; unfold inL; rw [List.filter_append, List.filter_cons_of_neg (by rw [h]; simp)]; simp
theorem le_yes {a b : ByteArray} (h : Op.bytesLess b.toList a.toList = false) : Op.bytesLess a.toList b.toList = true ∨ (Op.bytesLess a.toList b.toList = false ∧ (a.toList == b.toList) = true) := by
 cases h1 : Op.bytesLess a.toList b.toList
 ·
  right
  refine ⟨rfl, ?_⟩
  have e : a = b := lt_tri h1 h
  rw [e]; simp
 ·
  left; rfl
theorem le_no {a b : ByteArray} (h : Op.bytesLess b.toList a.toList = true) : Op.bytesLess a.toList b.toList = false ∧ (a.toList == b.toList) = false := by
 have h1 : lt b a = true := h
 exact ⟨lt_asymm h1, str_ne fun e => lt_ne h1 e.symm⟩
theorem FitR.inL {l : List R} (h : FitR l) (lo hi : ByteArray) : FitR (inL l lo hi) := fun r hr => h r ((List.mem_filter.1 hr).1)
theorem FitR.inV {l : List R} (h : FitR l) (lo hi : ByteArray) : FitR (inV l lo hi) := by
 unfold Go.Proofs.Ytheblejlmlfddaa.inV
 split
 ·
  exact h.inL lo hi
 ·
  exact fun r hr => by simp at hr

end Go.Proofs.Ytheblejlmlfddaa

namespace Go.Proofs.Ytheblejlmlfddaa
open Go.RowKit Go.Shelf
set_option linter.unusedVariables false
attribute [local go_sem] Oper.semAt_some

/-- what a round keeps: all below n₀, and the three boxes -/
def KpB (n₀ Bn : Nat) (W W' : World) : Prop := Below n₀ W W' ∧ W.heap.size ≤ W'.heap.size ∧ ∀ k, Bn ≤ k → k < Bn + 3 → W'.heap[k]? = W.heap[k]?
/-- a round's two ways out, by its answer -/
theorem yield_t {m l0 n₀ Bn : Nat} {args : Array Value} {W : World} {p q : World → Prop} (h : YieldAt Fence.wide m Try.prog l0 args W fun e W' => (e = .returned (.bool true) ∧ p W' ∧ KpB n₀ Bn W W') ∨ (e = .returned (.bool false) ∧ q W')) :
  YieldAt Fence.wide m Try.prog l0 args W fun e W' => ∃ t, e = .returned (.bool t) ∧ ((t = true ∧ p W' ∧ KpB n₀ Bn W W') ∨ (t = false ∧ q W')) := by
 obtain ⟨fn, tmps, assign, body, hy, hR⟩ := h
 refine ⟨fn, tmps, assign, body, hy, hR.mono ?_⟩
 rintro e w' (⟨rfl, h1, h2⟩ | ⟨rfl, h1⟩)
 ·
  exact ⟨true, rfl, .inl ⟨rfl, h1, h2⟩⟩
 ·
  exact ⟨false, rfl, .inr ⟨rfl, h1⟩⟩
theorem in_eq {l : List R} {lo hi : ByteArray} (hs : Srt l) (j : Nat) (h1 : ∀ r ∈ (l.drop (posN l lo)).take j, lt hi r.1 = false) (h2 : ∀ r ∈ (l.drop (posN l lo)).drop j, lt hi r.1 = true) : inL l lo hi = (l.drop (posN l lo)).take j := by
 have hp := posN_pos l lo
 have e : l = l.take (posN l lo) ++ ((l.drop (posN l lo)).take j ++ (l.drop (posN l lo)).drop j) := by rw [List.take_append_drop, List.take_append_drop]
 have hge : ∀ r ∈ l.drop (posN l lo), lt r.1 lo = false := fun r hr => by
  obtain ⟨i, hi, rfl⟩ := List.getElem_of_mem hr
  rw [List.length_drop] at hi
  rw [List.getElem_drop]
  have h0 := hp.at_ (by omega)
  cases h : lt (l[posN l lo + i]).1 lo
  ·
   rfl
  ·
   by_cases hi0 : i = 0
   ·
    subst hi0; rw [← h0, ← h]; rfl
   ·
    have := (List.pairwise_iff_getElem.1 hs) (posN l lo) (posN l lo + i) (by omega) (by omega) (by omega)
    rw [lt_trans this h] at h0; cases h0
 conv => lhs; rw [e]
 unfold inL
 rw [List.filter_append, List.filter_append]
 have e1 : (l.take (posN l lo)).filter (fun r => midB lo hi r.1) = [] := by
  rw [List.filter_eq_nil_iff]
  intro r hr
  obtain ⟨i, hi', rfl⟩ := List.getElem_of_mem hr
  rw [List.length_take] at hi'
  rw [List.getElem_take]
  unfold midB
  rw [hp.low i (by omega) (by omega)]; simp
 have e2 : ((l.drop (posN l lo)).take j).filter (fun r => midB lo hi r.1) = (l.drop (posN l lo)).take j := by
  rw [List.filter_eq_self]
  intro r hr
  unfold midB
  rw [hge r (List.mem_of_mem_take hr), h1 r hr]; rfl
 have e3 : ((l.drop (posN l lo)).drop j).filter (fun r => midB lo hi r.1) = [] := by
  rw [List.filter_eq_nil_iff]
  intro r hr
  unfold midB
  rw [h2 r hr]; simp
 rw [e1, e2, e3]; simp

end Go.Proofs.Ytheblejlmlfddaa

namespace Go.Proofs.Ytheblejlmlfddaa
open Go.RowKit Go.Shelf
set_option linter.unusedVariables false
attribute [local go_sem] Oper.semAt_some

theorem boxed_keep {W W' : World} {row : Option Nat} {B : Nat} {t : TypeId} {v : Value} (h : Boxed W B t v) (hg : W.grownBy W' row) (hr : ∀ r, row = some r → ∃ o : Obj, W.heap[r]? = some o ∧ o.isCells = false) : Boxed W' B t v :=
 h.kept hg fun e => by
  obtain ⟨o, h1, h2⟩ := hr B e.symm
  rw [show W.heap[B]? = _ from h] at h1
  cases h1; cases h2
theorem kpB_t {n₀ Bn : Nat} {A B C : World} (h : KpB n₀ Bn A B) (k : KpB n₀ Bn B C) : KpB n₀ Bn A C :=
 ⟨h.1.trans k.1, Nat.le_trans h.2.1 k.2.1, fun i h1 h2 => (k.2.2 i h1 h2).trans (h.2.2 i h1 h2)⟩
theorem kpB_b {n₀ Bn : Nat} {w : World} (hn : n₀ ≤ w.heap.size) (hB : Bn + 3 ≤ w.heap.size) (W : World) (l : Nat) (o o' : Obj) (hl : w.heap.size ≤ l) (h : W.heap[l]? = some o) (h1 : o.isCells = false) (h2 : o.isWalk = false) : KpB n₀ Bn W (W.putObj l o') := by
 have hb := belowK_b (w := w) (Nat.le_refl _) W l o o' hl h h1 h2
 exact ⟨hb.mono hn, hb.size, fun k _ hk => hb.block k (by omega)⟩
end Go.Proofs.Ytheblejlmlfddaa

namespace Go.Proofs.Ytheblejlmlfddaa
open Go.RowKit Go.Shelf
set_option linter.unusedVariables false
attribute [local go_sem] Oper.semAt_some

end Go.Proofs.Ytheblejlmlfddaa

namespace Go.Proofs.Ytheblejlmlfddaa
open Go.RowKit
set_option linter.unusedVariables false

/-- rows of which something is not valid -/
theorem inV_rows {l : List R} (h : RowsP l) (lo hi : ByteArray) : RowsP (inL l lo hi) := by
 obtain ⟨h1, h2, h3⟩ := rowsP_iff.1 h
 exact rowsP_iff.2 ⟨Nat.le_trans (inL_length l lo hi) h1, fun r hr => h2 r (List.mem_filter.1 hr).1, List.Pairwise.sublist List.filter_sublist h3⟩
theorem inL_twice (l : List R) (lo hi : ByteArray) : inL (inL l lo hi) lo hi = inL l lo hi := by unfold inL; rw [List.filter_filter]; simp
theorem let_step {a : UInt8} {x y : List UInt8} (h : letB a = true) (k : Op.bytesLess x y = false) : Op.bytesLess (122 :: x) (a :: y) = false := by
 have h2 : ¬ (122 : UInt8) < a := by
  intro e
  have e2 : (122 : UInt8).toNat < a.toNat := e
  have : a.toNat ≤ 122 := by unfold letB at h; simp at h; exact h.2
  have e3 : (122 : UInt8).toNat = 122 := rfl
  omega
 unfold Op.bytesLess
 rw [k, decide_eq_false h2]; simp
theorem key_bytes : (x : List UInt8) → x.length ≤ 2 → x.all letB = true → Op.bytesLess [122, 122, 122] x = false
 | [], _, _ => rfl
 | [a], _, h => by
  simp only [List.all_cons, Bool.and_eq_true] at h
  exact let_step h.1 rfl
 | [a, b], _, h => by
  simp only [List.all_cons, Bool.and_eq_true] at h
  exact let_step h.1 (let_step h.2.1 rfl)
 | _ :: _ :: _ :: _, h, _ => by simp at h
theorem emp_list : (⟨#[]⟩ : ByteArray).toList = [] := by rw [ByteArray.toList_eq]
theorem zzz_list : (⟨#[122, 122, 122]⟩ : ByteArray).toList = [122, 122, 122] := by rw [ByteArray.toList_eq]
theorem low_emp (x : List UInt8) : Op.bytesLess x [] = false := by cases x <;> rfl
/-- every key lies between the empty text and 'zzz' -/
theorem key_mid {k : ByteArray} (h : keyB k = true) : midB ⟨#[]⟩ ⟨#[122, 122, 122]⟩ k = true := by
 unfold keyB at h
 simp only [Bool.and_eq_true, decide_eq_true_eq] at h
 unfold midB lt
 rw [emp_list, zzz_list, low_emp, key_bytes k.toList (by rw [ByteArray.toList_eq]; exact h.1.2) (by rw [ByteArray.toList_eq]; exact h.2)]
 rfl
theorem in_all {l : List R} (h : RowsP l) : inL l ⟨#[]⟩ ⟨#[122, 122, 122]⟩ = l := by
 obtain ⟨h1, h2, h3⟩ := rowsP_iff.1 h
 unfold inL
 rw [List.filter_eq_self]
 exact fun r hr => key_mid (h2 r hr).1
/-- the empty text is no key -/
theorem look_emp {l : List R} (h : RowsP l) : look ⟨#[]⟩ l = none := by
 cases e : look ⟨#[]⟩ l with
 | none => rfl
 | some z =>
  have := ((rowsP_iff.1 h).2.1 _ (look_mem e)).1
  cases this
/-- nothing lies between two texts that are not in order -/
theorem in_none {l : List R} {lo hi : ByteArray} (h : lt hi lo = true) : inL l lo hi = [] := by
 unfold inL
 rw [List.filter_eq_nil_iff]
 intro r _ hr
 unfold midB at hr
 simp only [Bool.and_eq_true, Bool.not_eq_true'] at hr
 by_cases e : r.1 = lo
 ·
  rw [e, h] at hr; cases hr.2
 ·
  have := lt_trans h (gt_of hr.1 e); rw [this] at hr; cases hr.2

end Go.Proofs.Ytheblejlmlfddaa
