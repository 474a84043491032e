/- Chapter 2, the model: when a version is right, when it may stand ahead of another one, what stands at a time, when all that ever stood is right.
A region that draws its order, operation by operation: short forms of the held laws.
The program's chains: how they lie in memory; add, end, at, last.
The program's chains: at, last; the sorted list of chains: find, splice.
The program's chains: last; the sorted list of chains: find, splice, chainOf. -/
import Derived.Test.YtheblejlmlfddaaA5
import Derived.Test.YtheblejlmlfddaaA6
import Derived.Test.YtheblejlmlfddaaA2
import Derived.Test.YtheblejlmlfddaaA1
import Derived.Deep.RegionHeld3
import Derived.IntWalk
import Derived.Deep.LoopGhost
namespace Go.Proofs.Ytheblejlmlfddaa
open Go.RowKit
set_option linter.unusedVariables false
set_option maxRecDepth 100000

def verB (z : Int) (x : V) : Bool := keyB x.k && numB x.n && decide (1 ≤ x.f) && decide (x.f ≤ z) && (decide (x.t = 0) || decide (x.f < x.t) && decide (x.t ≤ z))

/-- a may stand ahead of b -/
noncomputable def aheadB (a b : V) : Bool := if a.k.toList == b.k.toList then decide (0 < a.t) && decide (a.t ≤ b.f) else lt a.k b.k

/-- it stands at a time -/
def visB (t : Int) (x : V) : Bool := decide (x.f ≤ t) && (decide (x.t = 0) || decide (t < x.t))
def rowOf (x : V) : R := (x.k, x.n)
def atL (l : List V) (t : Int) : List R := (l.filter (visB t)).map rowOf
theorem atL_yes {l : List V} {t : Int} {k : Nat} (hk : k < l.length) (h : visB t l[k] = true) : atL (l.take (k + 1)) t = atL (l.take k) t ++ [(l[k].k, l[k].n)] := by
 rw [List.take_succ_eq_append_getElem hk]; unfold atL; simp only [List.filter_append, List.filter_cons, h, if_true, List.filter_nil, List.map_append, List.map_cons, List.map_nil]; rfl
theorem atL_no {l : List V} {t : Int} {k : Nat} (hk : k < l.length) (h : visB t l[k] = false) : atL (l.take (k + 1)) t = atL (l.take k) t := by
 rw [List.take_succ_eq_append_getElem hk]; unfold atL; rw [List.filter_append, List.filter_cons_of_neg (by rw [h]; simp)]; simp
theorem atL_length (l : List V) (t : Int) : (atL l t).length ≤ l.length := by unfold atL; rw [List.length_map]; exact List.length_filter_le _ _

theorem lenI (k n : Nat) (h : k < n) : (k : Int) < (n : Int) := by omega

end Go.Proofs.Ytheblejlmlfddaa

namespace Go.Proofs.Ytheblejlmlfddaa
open Go.RowKit
set_option linter.unusedVariables false

theorem ga {α : Type} (xs : List α) (i : Nat) : xs.toArray[i]? = xs[i]? := by simp
theorem gb {α : Type} (a : α) (l : List α) (i : Nat) : (a :: l)[i + 1]? = l[i]? := rfl
theorem gc {α : Type} (a : α) (l : List α) : (a :: l)[0]? = some a := rfl
theorem pa {α : Type} (xs : List α) (i : Nat) (a : α) : xs.toArray.setIfInBounds i a = (xs.set i a).toArray := by simp
theorem pb {α : Type} (a b : α) (l : List α) : (a :: l).set 0 b = b :: l := rfl
theorem pc {α : Type} (a b : α) (l : List α) (i : Nat) : (a :: l).set (i + 1) b = a :: l.set i b := rfl

section
variable {P : Program} {md : Region.Mode} {ops : Array Oper} {Q : Exit → Act → World → Prop} {S : World → Prop} {i : Nat} {oi : Oper} {fuel : Nat} {listed : Array Bool} {a : Act} {w : World}
/-- what is wanted is taken first -/
theorem tkW {v : Value} (hi : ops[i]? = some oi) (hb : (Region.noSelect ops && Region.free md ops listed i && (Region.ready md ops listed).contains i) = true)
  (hQ : ∀ c a w, Q (.panic c) (a.put oi.dst v) w → Q (.panic c) a w) (hw : Region.wanted oi (yielded ops a.tmps) = true) (hy : ∀ w, S w → (execOp a.eval oi).run P w = .ok (.value v) w) (hS : S w)
  (h : wpAnyH P md ops Q S fuel (listed.setIfInBounds i true) (a.put oi.dst v) w) : wpAnyH P md ops Q S (fuel + 1) listed a w := by
 simp only [Bool.and_eq_true] at hb
 exact wpAnyH_take hi hb.1.1 hb.1.2 hb.2 hQ (Or.inl ⟨hw, hy⟩) hS h
/-- what is not wanted is passed over -/
theorem tkS (hi : ops[i]? = some oi) (hb : (Region.noSelect ops && Region.free md ops listed i && (Region.ready md ops listed).contains i) = true)
  (hQ : ∀ c a w, Q (.panic c) (a.put oi.dst undef) w → Q (.panic c) a w) (hw : Region.wanted oi (yielded ops a.tmps) = false) (hS : S w)
  (h : wpAnyH P md ops Q S fuel (listed.setIfInBounds i true) (a.put oi.dst undef) w) : wpAnyH P md ops Q S (fuel + 1) listed a w := by
 simp only [Bool.and_eq_true] at hb
 exact wpAnyH_take hi hb.1.1 hb.1.2 hb.2 hQ (Or.inr ⟨hw, rfl⟩) hS h
end

end Go.Proofs.Ytheblejlmlfddaa

namespace Go.Proofs.Ytheblejlmlfddaa
open Go.RowKit
set_option linter.unusedVariables false

section
variable {P : Program} {md : Region.Mode} {ops : Array Oper} {Q : Exit → Act → World → Prop} {S : World → Prop} {fuel : Nat} {listed : Array Bool} {a : Act} {w : World}
/-- what is wanted is taken first -/
theorem tk (i : Nat) {oi : Oper} {v : Value} {a' : Act} (h : wpAnyH P md ops Q S fuel (listed.setIfInBounds i true) a' w) (hi : ops[i]? = some oi := by (simp only [ga, gb, gc]; rfl)) (hb : (Region.noSelect ops && Region.free md ops listed i && (Region.ready md ops listed).contains i) = true := by kernel_rfl)
  (hw : Region.wanted oi (yielded ops a.tmps) = true := by rfl)
  (hy : ∀ w, S w → (execOp a.eval oi).run P w = .ok (.value v) w := by (intro w hSw; (try dsimp only at hSw); go_simp) <;> with_reducible rfl) (ha : a.put oi.dst v = a' := by ((try simp only [Act.put, pa, pb, pc]); rfl))
  (hQ : ∀ c a w, Q (.panic c) (a.put oi.dst v) w → Q (.panic c) a w := by (intro _ _ _ h; exact h)) (hS : S w := by assumption) : wpAnyH P md ops Q S (fuel + 1) listed a w := tkW hi hb hQ hw hy hS (by rw [ha]; exact h)
/-- what is not wanted is passed over -/
theorem ts (i : Nat) {oi : Oper} {a' : Act} (h : wpAnyH P md ops Q S fuel (listed.setIfInBounds i true) a' w) (hi : ops[i]? = some oi := by (simp only [ga, gb, gc]; rfl)) (hb : (Region.noSelect ops && Region.free md ops listed i && (Region.ready md ops listed).contains i) = true := by kernel_rfl)
  (hw : Region.wanted oi (yielded ops a.tmps) = false := by rfl) (ha : a.put oi.dst undef = a' := by ((try simp only [Act.put, pa, pb, pc]); rfl))
  (hQ : ∀ c a w, Q (.panic c) (a.put oi.dst undef) w → Q (.panic c) a w := by (intro _ _ _ h; exact h)) (hS : S w := by assumption) : wpAnyH P md ops Q S (fuel + 1) listed a w := tkS hi hb hQ hw hS (by rw [ha]; exact h)
/-- the one operation that is ready comes up -/
theorem rd1 (i : Nat) {oi : Oper} (h : ∀ K' : Act → World → Prop, Shut (∀ a w, S w → (S w → wpAnyH P md ops Q S fuel (listed.setIfInBounds i true) a w) → K' a w) → if Region.wanted oi (yielded ops a.tmps) = true then Oper.wp P oi a w K' Q else K' (a.put oi.dst undef) w)
  (hr : Region.ready md ops listed = [i] := by kernel_rfl) (hi : ops[i]? = some oi := by (simp only [ga, gb, gc]; rfl)) : wpAnyH P md ops Q S (fuel + 1) listed a w := wpAnyH_ready hr (by simp) (AllReadyH.cons hi h AllReadyH.nil)
end

end Go.Proofs.Ytheblejlmlfddaa


namespace Go.Proofs.Ytheblejlmlfddaa
open Go.RowKit
set_option linter.unusedVariables false
set_option maxRecDepth 100000

/-- from w to w' the blocks of S alone may have turned; what is new is new -/
structure Chg (S : Nat → Prop) (w w' : World) : Prop where
 os : w'.os = w.os
 tape : w'.tape = w.tape
 output : w'.output = w.output
 size : w.heap.size ≤ w'.heap.size
 block : ∀ k, k < w.heap.size → ¬ S k → w'.heap[k]? = w.heap[k]?
section
variable {S S' : Nat → Prop} {w w' w'' : World} {g : Nat} {t : TypeId} {cs : Array Value}
theorem Chg.refl (S : Nat → Prop) (w : World) : Chg S w w := ⟨rfl, rfl, rfl, Nat.le_refl _, fun _ _ _ => rfl⟩
theorem Chg.alloc (h : Chg S w w') (o : Obj) : Chg S w (w'.alloc o) := ⟨h.os, h.tape, h.output, Nat.le_trans h.size (by simp), fun k hk hn => (Below.heap_alloc w' o k (Nat.lt_of_lt_of_le hk h.size)).trans (h.block k hk hn)⟩
theorem Chg.setCell (h : Chg S w w') {a : Addr} (ha : S a.block ∨ w.heap.size ≤ a.block) (u : Value) : Chg S w (w'.setCell a u) :=
 ⟨h.os, h.tape, h.output, by simpa [World.setCell] using h.size, fun k hk hn => (Below.heap_setCell w' a u k (by rintro rfl; rcases ha with ha | ha; exact hn ha; omega)).trans (h.block k hk hn)⟩
theorem Chg.below (h : Chg S w w') (hb : Below w'.heap.size w' w'') : Chg S w w'' :=
 ⟨hb.os.trans h.os, hb.tape.trans h.tape, hb.output.trans h.output, Nat.le_trans h.size hb.size, fun k hk hn => (hb.block k (Nat.lt_of_lt_of_le hk h.size)).trans (h.block k hk hn)⟩
theorem Chg.of_below (hb : Below w.heap.size w w') : Chg S w w' := (Chg.refl S w).below hb
theorem Chg.mono (h : Chg S w w') (hs : ∀ k, S k → S' k) : Chg S' w w' := ⟨h.os, h.tape, h.output, h.size, fun k hk hn => h.block k hk fun hk' => hn (hs k hk')⟩
theorem Chg.trans (h : Chg S w w') (k : Chg S' w' w'') (hs : ∀ b, b < w.heap.size → S' b → S b) : Chg S w w'' :=
 ⟨k.os.trans h.os, k.tape.trans h.tape, k.output.trans h.output, Nat.le_trans h.size k.size, fun b hb hn => (k.block b (Nat.lt_of_lt_of_le hb h.size) fun hb' => hn (hs b hb hb')).trans (h.block b hb hn)⟩
theorem Chg.toBelow {B : Nat} (h : Chg S w w') (hB : B ≤ w.heap.size) (hs : ∀ k, S k → B ≤ k) : Below B w w' := ⟨h.os, h.tape, h.output, h.size, fun k hk => h.block k (by omega) fun hk' => by have := hs k hk'; omega⟩
theorem Blk.chg (h : Blk w g t cs) (hc : Chg S w w') (hn : ¬ S g) : Blk w' g t cs := (hc.block g h.lt hn).trans h
theorem Blk.next' (h : Blk w g t cs) (hb : Below w.heap.size w w') : Blk w' g t cs := h.next hb
theorem Blk.cast {cs' : Array Value} (h : Blk w g t cs) (e : cs = cs') : Blk w g t cs' := e ▸ h
theorem blkAt (cs : Array Value) (t : TypeId) (hg : w.heap.size = g) : Blk (w.alloc (.cells cs t)) g t cs := by subst hg; exact blkA w cs t
theorem Blk.ne {g' : Nat} {t' : TypeId} {cs' : Array Value} (h : Blk w g t cs) (h' : Blk w g' t' cs') (hne : t ≠ t') : g ≠ g' := by
 rintro rfl
 have e := Option.some.inj (h.symm.trans h')
 injection e with e1 e2 e3
 exact hne e2
end

theorem nil_or_snoc {α : Type} (l : List α) : l = [] ∨ ∃ i y, l = i ++ [y] := by
 rcases List.eq_nil_or_concat l with h | ⟨i, y, h⟩
 ·
  exact .inl h
 ·
  exact .inr ⟨i, y, by rw [h, List.concat_eq_append]⟩

/-- a link: its block, and its version -/
structure Lk where
 g : Nat
 v : V
/-- a chain: its block, its key, its links -/
structure Ch where
 g : Nat
 k : ByteArray
 ls : List Lk
def ptrO (o : Option Nat) : Value := .pointer (o.map fun g => ⟨g, 0, none⟩)
def lkCells (x : V) (nx : Option Nat) : Array Value := #[.string x.k, .int .i64 x.n, .int .i64 x.f, .int .i64 x.t, ptrO nx]
def nextG (ls : List Lk) (i : Nat) : Option Nat := ls[i + 1]?.map Lk.g
def LksOk (w : World) (ls : List Lk) : Prop := ∀ i x, ls[i]? = some x → Blk w x.g 167 (lkCells x.v (nextG ls i))
def chCells (c : Ch) : Array Value := #[.string c.k, ptrO (c.ls.head?.map Lk.g), ptrO (c.ls.getLast?.map Lk.g)]
structure ChOk (w : World) (c : Ch) : Prop where
 blk : Blk w c.g 165 (chCells c)
 ls : LksOk w c.ls
 nd : (c.ls.map Lk.g).Nodup
/-- the blocks of a chain -/
def Ch.has (c : Ch) (b : Nat) : Prop := b = c.g ∨ b ∈ c.ls.map Lk.g
def Ch.vs (c : Ch) : List V := c.ls.map Lk.v

section
variable {w w' : World} {c : Ch} {S : Nat → Prop}
theorem ChOk.lt (h : ChOk w c) {b : Nat} (hb : c.has b) : b < w.heap.size := by
 rcases hb with rfl | hb
 ·
  exact h.blk.lt
 ·
  obtain ⟨x, hx, rfl⟩ := List.mem_map.1 hb
  obtain ⟨i, hi, rfl⟩ := List.getElem_of_mem hx
  exact (h.ls i _ (List.getElem?_eq_getElem hi)).lt
theorem ChOk.chg (h : ChOk w c) (hc : Chg S w w') (hn : ∀ b, c.has b → ¬ S b) : ChOk w' c :=
 ⟨h.blk.chg hc (hn _ (.inl rfl)), fun i x hx => (h.ls i x hx).chg hc (hn _ (.inr (List.mem_map.2 ⟨x, List.mem_of_getElem? hx, rfl⟩))), h.nd⟩
theorem ChOk.next (h : ChOk w c) (hb : Below w.heap.size w w') : ChOk w' c :=
 h.chg (Chg.of_below (S := fun _ => False) hb) fun _ _ h => h
theorem LksOk.get (h : LksOk w c.ls) {i : Nat} (hi : i < c.ls.length) : Blk w c.ls[i].g 167 (lkCells c.ls[i].v (nextG c.ls i)) := h i _ (List.getElem?_eq_getElem hi)
end

theorem blkTypes : (165 : TypeId) ≠ 167 := by decide

/-- a link more -/
theorem lks_add {w w' : World} {init : List Lk} {y z : Lk} (h : LksOk w (init ++ [y]))  (hold : ∀ x cs, x ∈ init → Blk w x.g 167 cs → Blk w' x.g 167 cs) (hy : Blk w' y.g 167 (lkCells y.v (some z.g))) (hz : Blk w' z.g 167 (lkCells z.v none)) : LksOk w' (init ++ [y] ++ [z]) := by
 intro i x hx
 rcases Nat.lt_trichotomy i init.length with hi | hi | hi
 ·
  have hx0 : (init ++ [y])[i]? = some x := by rw [List.getElem?_append_left (by simp; omega)] at hx; exact hx
  have hxm : x ∈ init := by rw [List.getElem?_append_left hi] at hx0; exact List.mem_of_getElem? hx0
  have e : nextG (init ++ [y] ++ [z]) i = nextG (init ++ [y]) i := by unfold nextG; rw [List.getElem?_append_left (by simp; omega)]
  rw [e]
  exact hold x _ hxm (h i x hx0)
 ·
  subst hi
  have e : x = y := by
   rw [List.getElem?_append_left (by simp), List.getElem?_append_right (Nat.le_refl _)] at hx
   simpa using hx.symm
  subst e
  have e2 : nextG (init ++ [x] ++ [z]) init.length = some z.g := by
   unfold nextG
   rw [List.getElem?_append_right (by simp)]
   simp
  rw [e2]; exact hy
 ·
  have hl := (List.getElem?_eq_some_iff.1 hx).1
  have hi2 : i = init.length + 1 := by simp at hl; omega
  subst hi2
  have e : x = z := by
   rw [List.getElem?_append_right (by simp)] at hx
   simpa using hx.symm
  subst e
  have e2 : nextG (init ++ [y] ++ [x]) (init.length + 1) = none := by
   unfold nextG
   rw [List.getElem?_eq_none (by simp)]
   rfl
  rw [e2]; exact hz

/-- the chain has got a link more -/
def RetAdd (w : World) (c : Ch) (x : V) (e : Ending) (w' : World) : Prop := (∃ v, e = .returned v) ∧ ∃ g, w.heap.size ≤ g ∧ ChOk w' ⟨c.g, c.k, c.ls ++ [⟨g, x⟩]⟩ ∧ Chg c.has w w'

/-- the newest version ends, if it still stands -/
def endV (t : Int) (x : V) : V := if x.t = 0 then ⟨x.k, x.n, x.f, t⟩ else x
def endLk (t : Int) (ls : List Lk) : List Lk := match ls.getLast? with | none => ls | some y => ls.dropLast ++ [⟨y.g, endV t y.v⟩]
theorem endLk_snoc (t : Int) (init : List Lk) (y : Lk) : endLk t (init ++ [y]) = init ++ [⟨y.g, endV t y.v⟩] := by unfold endLk; simp
def RetEnd (w : World) (c : Ch) (t : Int) (e : Ending) (w' : World) : Prop := (∃ v, e = .returned v) ∧ ChOk w' ⟨c.g, c.k, endLk t c.ls⟩ ∧ Chg c.has w w'

theorem lks_last {w w' : World} {init : List Lk} {y : Lk} (x : V) (h : LksOk w (init ++ [y]))
  (hold : ∀ x cs, x ∈ init → Blk w x.g 167 cs → Blk w' x.g 167 cs) (hy : Blk w' y.g 167 (lkCells x none)) : LksOk w' (init ++ [⟨y.g, x⟩]) := by
 intro i z hz
 by_cases hi : i < init.length
 ·
  have hz0 : (init ++ [y])[i]? = some z := by rw [List.getElem?_append_left hi] at hz ⊢; exact hz
  have hzm : z ∈ init := by rw [List.getElem?_append_left hi] at hz; exact List.mem_of_getElem? hz
  have e : nextG (init ++ [(⟨y.g, x⟩ : Lk)]) i = nextG (init ++ [y]) i := by
   unfold nextG
   by_cases h1 : i + 1 < init.length
   ·
    rw [List.getElem?_append_left h1, List.getElem?_append_left h1]
   ·
    rw [List.getElem?_append_right (by omega), List.getElem?_append_right (by omega), show i + 1 - init.length = 0 from by omega]; rfl
  rw [e]
  exact hold z _ hzm (h i z hz0)
 ·
  have hl := (List.getElem?_eq_some_iff.1 hz).1
  have hi2 : i = init.length := by simp at hl; omega
  subst hi2
  have e : z = ⟨y.g, x⟩ := by
   rw [List.getElem?_append_right (Nat.le_refl _)] at hz
   simpa using hz.symm
  subst e
  have e2 : nextG (init ++ [(⟨y.g, x⟩ : Lk)]) init.length = none := by unfold nextG; rw [List.getElem?_eq_none (by simp)]; rfl
  rw [e2]; exact hy

/-- what a chain shows at a time: the first version that stands -/
def seen (t : Int) (c : Ch) : Option V := c.vs.find? (visB t)

end Go.Proofs.Ytheblejlmlfddaa

namespace Go.Proofs.Ytheblejlmlfddaa
open Go.RowKit
set_option linter.unusedVariables false
set_option maxRecDepth 100000

def zeroV : V := ⟨ByteArray.empty, 0, 0, 0⟩
/-- what 'at' answers -/
def seenT : Option V → Value
 | some x => .tuple #[.agg #[.string x.k, .int .i64 x.n, .int .i64 x.f, .int .i64 x.t], .bool true]
 | none => .tuple #[.agg #[.string ByteArray.empty, .int .i64 0, .int .i64 0, .int .i64 0], .bool false]
theorem seen_some {c : Ch} {t : Int} {i : Nat} {y : Lk} (hi : c.ls[i]? = some y) (hlow : ∀ j z, j < i → c.ls[j]? = some z → visB t z.v = false) (hv : visB t y.v = true) : seen t c = some y.v := by
 unfold seen Ch.vs
 rw [List.find?_eq_some_iff_getElem]
 have hl := (List.getElem?_eq_some_iff.1 hi).1
 refine ⟨hv, i, by simpa using hl, ?_, fun j hj => ?_⟩
 ·
  rw [List.getElem_map, (List.getElem?_eq_some_iff.1 hi).2]
 ·
  rw [List.getElem_map, hlow j _ hj (List.getElem?_eq_getElem (by omega))]; rfl
theorem seen_none {c : Ch} {t : Int} (hlow : ∀ (j : Nat) z, c.ls[j]? = some z → visB t z.v = false) : seen t c = none := by
 unfold seen Ch.vs
 rw [List.find?_eq_none]
 intro x hx
 obtain ⟨z, hz, rfl⟩ := List.mem_map.1 hx
 obtain ⟨j, hj, rfl⟩ := List.getElem_of_mem hz
 rw [hlow j _ (List.getElem?_eq_getElem hj)]; simp

def RetAt (w : World) (c : Ch) (t : Int) (e : Ending) (w' : World) : Prop := e = .returned (seenT (seen t c)) ∧ Below w.heap.size w w'

end Go.Proofs.Ytheblejlmlfddaa

namespace Go.Proofs.Ytheblejlmlfddaa
open Go.RowKit
set_option linter.unusedVariables false
set_option maxRecDepth 100000

def lastI (ls : List Lk) : Int := match ls.getLast? with | none => 0 | some y => if y.v.f ≤ y.v.t then y.v.t else y.v.f
/-- a pointer to a chain -/
structure Pt where
 g : Nat
instance elPt : Elt Pt where
 T := 162
 wd := 1
 byt := 8
 zero := .pointer none
 cs := fun x => [.pointer (some ⟨x.g, 0, none⟩)]
 len := fun _ => rfl
 pos := by omega
 one := by
  intro a u hu
  simp only [List.mem_cons, List.not_mem_nil, or_false] at hu
  subst hu; rfl
 info := by kernel_rfl
 zsize := rfl
 small := by omega
theorem RdG.atPt {w : World} {B : Nat} {A : Option Addr} {l : List Pt} (h : RdG w B A l) {i : Nat} (hi : i < l.length) : ∃ b o, A = some ⟨b, o, none⟩ ∧ b < B ∧ w.cell? ⟨b, o + i, none⟩ = some (.pointer (some ⟨l[i].g, 0, none⟩)) := by
 obtain ⟨b, o, e, hb, h1⟩ := h.at_ hi
 refine ⟨b, o, e, hb, ?_⟩
 have := h1 0 _ rfl
 rw [show Elt.wd Pt = 1 from rfl, Nat.mul_one, Nat.add_zero] at this
 exact this
def pts (chs : List Ch) : List Pt := chs.map fun c => ⟨c.g⟩
def keysR (chs : List Ch) : List R := chs.map fun c => (c.k, 0)
theorem pts_length (chs : List Ch) : (pts chs).length = chs.length := by simp [pts]
theorem keysR_length (chs : List Ch) : (keysR chs).length = chs.length := by simp [keysR]

theorem rdTkG {α : Type} [Elt α] {w W : World} {A : Option Addr} {l : List α} (hr : RdG w w.heap.size A l) (p : Nat) (h : Below w.heap.size w W) : RdG W W.heap.size A (l.take p) := ((hr.take p).below h).more h.size
theorem rdDpG {α : Type} [Elt α] {w W : World} {A : Option Addr} {l : List α} (hr : RdG w w.heap.size A l) (p c : Nat) (hc : l.length ≤ c) (h : Below w.heap.size w W) : RdG W W.heap.size (cutG α A c p) (l.drop p) := ((hr.drop p c hc).below h).more h.size

end Go.Proofs.Ytheblejlmlfddaa
