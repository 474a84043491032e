/- The model's l2Write: what one write does, in memory of one's own. -/
import Derived.Test.YtheblejlmlfddaaB5
namespace Go.Proofs.Ytheblejlmlfddaa
open Go.RowKit
set_option linter.unusedVariables false
set_option maxRecDepth 100000

theorem Chg.ofGrown {w w' : World} {row : Option Nat} (hg : w.grownBy w' row) : Chg (fun b => row = some b) w w' :=
 ⟨hg.os, hg.tape, hg.output, hg.size, fun k hk hn => hg.block k hk fun e => hn e.symm⟩
theorem RdG.cellsV {w : World} {B b o : Nat} {l : List V} (h : RdG w B (some ⟨b, o, none⟩) l) {i : Nat} {r : V} (hi : l[i]? = some r) :
  w.cell? ⟨b, o + i * 4, none⟩ = some (.string r.k) ∧ w.cell? ⟨b, o + i * 4 + 1, none⟩ = some (.int .i64 r.n) ∧ w.cell? ⟨b, o + i * 4 + 2, none⟩ = some (.int .i64 r.f) ∧ w.cell? ⟨b, o + i * 4 + 3, none⟩ = some (.int .i64 r.t) := by
 obtain ⟨hl, rfl⟩ := List.getElem?_eq_some_iff.1 hi
 exact h.fixV rfl hl
theorem own_slice {A : Option Addr} {n c p d : Nat} : (Value.slice A n c).ownBlock = (Value.slice A p d).ownBlock := by cases A <;> rfl
theorem OwnG.addr {α : Type} [Elt α] {w : World} {base n c : Nat} {A : Option Addr} {l : List α} (h : OwnG w base (.slice A n c) l) (hl : 0 < l.length) : ∃ g o, A = some ⟨g, o, none⟩ ∧ Hid (o = 0) ∧ base ≤ g ∧ g < w.heap.size := by
 rcases h.cases with ⟨_, rfl⟩ | ⟨g, cap, cur, e, hb, hblk, _⟩
 ·
  simp at hl
 ·
  injection e with e1 e2 e3
  exact ⟨g, 0, e1, Lib.hid rfl, hb, hblk.lt⟩
theorem OwnG.setAt {α : Type} [E : Elt α] {w : World} {base g o n c : Nat} {l : List α} (h : OwnG w base (.slice (some ⟨g, o, none⟩) n c) l) (ho : o = 0) {i : Nat} {r r' : α} {j : Nat} {u : Value} (hi : l[i]? = some r) (hj : j < Elt.wd α) (hcs : Elt.cs r' = (Elt.cs r).set j u) :
  OwnG (w.setCell ⟨g, o + i * Elt.wd α + j, none⟩ u) base (.slice (some ⟨g, o, none⟩) n c) (l.set i r') := by
 subst ho
 rcases h.cases with ⟨e, _⟩ | ⟨g', cap, cur, e, hb, hblk, hl, hm, hs, ht⟩
 ·
  cases e
 ·
  injection e with e1 e2 e3
  injection e1 with e1
  injection e1 with e1
  subst e1 e2 e3
  rw [Nat.zero_add]
  have hil := (List.getElem?_eq_some_iff.1 hi).1
  refine OwnG.of_fill (l.set i r') (by simp) hb (hblk.set_ (i * Elt.wd α + j) u) hl hm (by simpa using hs) ?_
  intro q y hq hy m z hz
  have hml := csG_lt hz
  by_cases eq : q = i
  ·
   subst eq
   rw [List.getElem?_set_self hil] at hy
   obtain rfl := Option.some.inj hy
   rw [hcs] at hz
   by_cases em : m = j
   ·
    subst em
    rw [List.getElem?_set_self (by rw [Elt.len]; exact hml)] at hz
    obtain rfl := Option.some.inj hz
    refine Array.getElem?_setIfInBounds_self_of_lt ?_
    rw [hs]
    have h2 : (q + 1) * Elt.wd α ≤ c * Elt.wd α := Nat.mul_le_mul_right _ (by omega)
    rw [Nat.add_mul] at h2
    omega
   ·
    rw [List.getElem?_set_ne (by omega)] at hz
    rw [Array.getElem?_setIfInBounds_ne (by omega)]
    exact take_get ht hi hz
  ·
   rw [List.getElem?_set_ne (by omega)] at hy
   have hne : i * Elt.wd α + j ≠ q * Elt.wd α + m := by
    intro e
    rcases Nat.lt_or_gt_of_ne eq with h1 | h1
    ·
     have h2 : (q + 1) * Elt.wd α ≤ i * Elt.wd α := Nat.mul_le_mul_right _ h1
     rw [Nat.add_mul] at h2
     omega
    ·
     have h2 : (i + 1) * Elt.wd α ≤ q * Elt.wd α := Nat.mul_le_mul_right _ h1
     rw [Nat.add_mul] at h2
     omega
   rw [Array.getElem?_setIfInBounds_ne hne]
   exact take_get ht hy hz
theorem OwnG.takeN {α : Type} [E : Elt α] {w : World} {base n c : Nat} {A : Option Addr} {l : List α} (h : OwnG w base (.slice A n c) l) {p : Nat} (hp : p ≤ l.length) : OwnG w base (.slice A p c) (l.take p) := by
 rcases h.cases with ⟨e, rfl⟩ | ⟨g, cap, cur, e, hb, hblk, hl, hm, hs, ht⟩
 ·
  injection e with e1 e2 e3
  subst e1 e3
  have : p = 0 := by simpa using hp
  subst this
  exact OwnG.nil _ _
 ·
  injection e with e1 e2 e3
  subst e1 e3
  have e4 : (l.take p).length = p := by simp; omega
  have hk : cur.toList.take ((l.take p).length * Elt.wd α) = cellsG (l.take p) := by
   have e5 : cellsG (l.take p) = (cellsG l).take (p * Elt.wd α) := by
    have e6 : cellsG l = cellsG (l.take p) ++ cellsG (l.drop p) := by rw [← cellsG_append, List.take_append_drop]
    rw [e6, List.take_append_of_le_length (by rw [cellsG_length, e4]; exact Nat.le_refl _)]
    exact (List.take_of_length_le (by rw [cellsG_length, e4]; exact Nat.le_refl _)).symm
   rw [e5, e4, ← ht, List.take_take, Nat.min_eq_left (Nat.mul_le_mul_right _ hp)]
  have := OwnG.mk (l := l.take p) hb hblk (by omega) hm hs hk
  rwa [e4] at this

/-- the first k versions are done -/
def halfE (key : ByteArray) (now : Int) (l : List V) (k : Nat) : List V := (l.take k).map (endF key now) ++ l.drop k
section
variable {key : ByteArray} {now : Int} {l : List V} {k : Nat}
theorem half_length : (halfE key now l k).length = l.length := by unfold halfE; simp; omega
theorem half_zero : halfE key now l 0 = l := by simp [halfE]
theorem half_all (h : l.length ≤ k) : halfE key now l k = l.map (endF key now) := by unfold halfE; rw [List.take_of_length_le h, List.drop_of_length_le h, List.append_nil]
theorem half_get (h : k < l.length) : (halfE key now l k)[k]? = some l[k] := by
 unfold halfE
 rw [List.getElem?_append_right (by simp; omega), List.length_map, List.length_take, Nat.min_eq_left (by omega), Nat.sub_self, List.getElem?_drop, Nat.add_zero, List.getElem?_eq_getElem h]
theorem half_succ (h : k < l.length) : halfE key now l (k + 1) = (halfE key now l k).set k (endF key now l[k]) := by
 unfold halfE
 rw [List.set_append_right _ _ (by simp; omega), List.length_map, List.length_take, Nat.min_eq_left (by omega), Nat.sub_self, List.drop_eq_getElem_cons h, List.set_cons_zero, List.take_succ_eq_append_getElem h, List.map_append, List.append_assoc]; rfl
theorem half_same (h : k < l.length) : (halfE key now l k).set k l[k] = halfE key now l k := by
 apply List.ext_getElem?
 intro i
 by_cases e : k = i
 ·
  subst e; rw [List.getElem?_set_self (by rw [half_length]; exact h), half_get h]
 ·
  rw [List.getElem?_set_ne e]
theorem place_succ (h : k < l.length) : placeL (l.take (k + 1)) key = if lt key l[k].k then placeL (l.take k) key else k + 1 := by
 rw [List.take_succ_eq_append_getElem h, place_snoc, List.length_take, Nat.min_eq_left (by omega)]
end

/-- the call returns a list in memory of one's own; nothing but the list that came in is written -/
def RetW (w : World) (base : Nat) (v : Value) (l : List V) (e : Ending) (w' : World) : Prop := ∃ v', e = .returned v' ∧ OwnG w' base v' l ∧ Chg (fun b => v.ownBlock = some b) w w'

end Go.Proofs.Ytheblejlmlfddaa
