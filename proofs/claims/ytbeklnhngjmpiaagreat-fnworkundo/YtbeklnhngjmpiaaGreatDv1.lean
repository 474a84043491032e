/- A reader is opened; a key near some rows is drawn. -/
import Derived.Test.YtbeklnhngjmpiaaGreatA4
import Derived.Test.YtbeklnhngjmpiaaGreatB7
namespace Go.Proofs.YtbeklnhngjmpiaaGreat
open Go.RowKit
set_option linter.unusedVariables false

/-- a reader is opened at the code's beginning -/
def Opened (A : Option Addr) (c : Nat) (w : World) (e : Ending) (w' : World) : Prop := ∃ m, e = .returned (.pointer (some ⟨w.heap.size, 0, none⟩)) ∧ Rdr w' w.heap.size A m c 0 ∧ Below w.heap.size w w'

set_option maxRecDepth 100000 in
set_option maxHeartbeats 1000000 in
theorem open_d (A : Option Addr) (n c : Nat) (w : World) (hc : n ≤ c) (hcm : c ≤ maxLen) (hr : RdB w w.heap.size A n) :
  Calls Tryz.prog 85 #[.slice A n c] w (Opened A c w) := by
 unfold maxLen at hcm
 by_cases hn : n ≤ 2000
 ·
  have hn1 : ¬ ((2000 : Int) < (n : Int)) := by omega
  go_enter Tryz.func85, Tryz.ntmps85
  go_wp2
  go_ret
  refine ⟨n, rfl, ⟨heap_alloc_new _ _, hn, fun i hi => ?_⟩, below_alloc (Below.refl _ _) _⟩
  obtain ⟨b, o, z, e, hb, h1, h2⟩ := hr i hi
  exact ⟨b, o, z, e, hb, (World.cell?_alloc_lt w _ ⟨b, o + i, none⟩ hb).trans h1, h2⟩
 ·
  have hn1 : ((2000 : Int) < (n : Int)) := by omega
  have hc1 : ((2000 : Int) ≤ (c : Int)) := by omega
  go_enter Tryz.func85, Tryz.ntmps85
  go_wp2
  go_ret
  refine ⟨2000, rfl, ⟨heap_alloc_new _ _, Nat.le_refl _, fun i hi => ?_⟩, below_alloc (Below.refl _ _) _⟩
  obtain ⟨b, o, z, e, hb, h1, h2⟩ := hr i (by omega)
  exact ⟨b, o, z, e, hb, (World.cell?_alloc_lt w _ ⟨b, o + i, none⟩ hb).trans h1, h2⟩

set_option maxRecDepth 100000 in
set_option maxHeartbeats 1000000 in
theorem near_d (g : Nat) (A : Option Addr) (n c p : Nat) (A' : Option Addr) (c' : Nat) (l : List R) (w : World) (h : Rdr w g A n c p) (hp : p ≤ 999000) (hfit : FitR l) (hl : l.length ≤ 1000) (base : Nat) (hg : g < base) (hown : OwnR w base (.slice A' l.length c') l) :
  Calls Tryz.prog 128 #[.pointer (some ⟨g, 0, none⟩), .slice A' l.length c'] w fun e w' => ∃ s, e = .returned (.string s) ∧ s.size ≤ maxLen ∧ Dw g A n c p 3 w w' := by
 have hd0 := Dw.refl h
 by_cases h0 : 0 < l.length
 ·
  have h01 : (0 : Int) < (l.length : Int) := by omega
  go_enter Tryz.func128, Tryz.ntmps128
  go_wp2_with fail
  refine (pick_d g A n c p 2 w h (by omega) (by omega) (by omega)).mono ?_
  rintro e w1 ⟨k, rfl, hk, hd1⟩
  obtain ⟨q1, h11, h12, hq1⟩ := hd1.rdr
  have hown1 := hown.drawn hg hd1.grown
  by_cases hk0 : k = 0
  ·
   have s0 : ((k : Int) == 0) = true := beq_iff_eq.2 (by omega)
   have K0 := Lib.hid hk0
   clear hk0
   go_wp2_with fail
   refine (pick_d g A n c q1 l.length w1 hq1 (by omega) (by omega) (by omega)).mono ?_
   rintro e w2 ⟨j, rfl, hj, hd2⟩
   obtain ⟨q2, h21, h22, hq2⟩ := hd2.rdr
   have hown2 := hown1.drawn hg hd2.grown
   obtain ⟨A2, c2, ev, _, _, hrd⟩ := hown2.read
   injection ev with ev1 ev2 ev3
   subst ev1 ev3
   obtain ⟨b, o, rfl, hbB, hc1, hc2⟩ := hrd.at_ hj
   have hf := (hfit _ (List.getElem_mem hj)).1
   have hi1 : (j : Int) < (l.length : Int) := by omega
   go_wp2
   go_ret
   exact ⟨_, rfl, hf, (Dw.then_ (K := 1) hd1.grown h11 h12 hd2).more (by omega)⟩
  ·
   have s0 : ((k : Int) == 0) = false := beq_eq_false_iff_ne.2 (by omega)
   go_wp2_with fail
   refine (key_d g A n c q1 w1 hq1 (by omega)).mono ?_
   rintro e w2 ⟨s, rfl, hs, hd2⟩
   go_wp2
   go_ret
   exact ⟨s, rfl, by unfold maxLen; omega, (Dw.then_ (K := 1) hd1.grown h11 h12 hd2).more (by omega)⟩
 ·
  have h01 : decide ((0 : Int) < (l.length : Int)) = false := decide_eq_false (by omega)
  have h02 : decide (0 < l.length) = false := decide_eq_false (by omega)
  go_enter Tryz.func128, Tryz.ntmps128
  go_wp2_with fail
  refine (key_d g A n c p w h (by omega)).mono ?_
  rintro e w2 ⟨s, rfl, hs, hd2⟩
  go_wp2
  go_ret
  exact ⟨s, rfl, by unfold maxLen; omega, hd2.more (by omega)⟩


/-- writes in memory of the call's own are returned, and the reader has gone on -/
def RetDX (g : Nat) (A : Option Addr) (n c p K N : Nat) (w : World) (e : Ending) (w' : World) : Prop :=
 ∃ v l, e = .returned v ∧ OwnG w' w.heap.size v l ∧ FitXs l ∧ l.length ≤ N ∧ Dw g A n c p K w w'
theorem OwnG.drawn {α : Type} [Elt α] {w w' : World} {base g : Nat} {v : Value} {l : List α} (h : OwnG w base v l) (hg : g < base) (hd : w.grownBy w' (some g)) : OwnG w' base v l :=
 h.kept hd fun k hk e => by have := (h.block_lt hk).1; have e2 : k = g := Option.some.inj e; omega
theorem Blk.drawn {w w' : World} {b g : Nat} {t : TypeId} {cs : Array Value} (h : Blk w b t cs) (hg : b ≠ g) (hd : w.grownBy w' (some g)) : Blk w' b t cs := h.grown hd (fun e => hg (Option.some.inj e))
theorem rdBlk {α : Type} [Elt α] {w : World} {b : Nat} {t : TypeId} {us : Array Value} {x : α} (h : Blk w b t us) (hu : us.toList = Elt.cs x) : RdG w w.heap.size (some ⟨b, 0, none⟩) [x] := fun i r hi => by
 have h0 : i = 0 := by have := (List.getElem?_eq_some_iff.1 hi).1; simpa using this
 subst h0
 have : r = x := by simpa using hi.symm
 subst this
 refine ⟨b, 0, rfl, h.lt, fun j u hj => ?_⟩
 rw [h.cell]
 rw [← hu] at hj
 simpa using hj
def zsWrites : List Int := [1, 2, 1, 3, 0, 5]
theorem zsWrites_small : ∀ z ∈ zsWrites, ∃ j : Nat, z = (j : Int) ∧ j ≤ 5 := by
 intro z hz
 simp only [zsWrites, List.mem_cons, List.not_mem_nil, or_false] at hz
 exact ⟨z.toNat, by omega, by omega⟩
theorem fitX_put {lo : List X} {x : X} {m : Nat} (h : FitXs lo) (hx : FitX x) : FitXs (lo.take m ++ [x] ++ lo.drop m) := by
 intro r hr
 simp only [List.mem_append, List.mem_singleton] at hr
 rcases hr with (hr | rfl) | hr
 ·
  exact h r (List.mem_of_mem_take hr)
 ·
  exact hx
 ·
  exact h r (List.mem_of_mem_drop hr)

end Go.Proofs.YtbeklnhngjmpiaaGreat
