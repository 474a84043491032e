/- The whole draws of chapter 1. -/
import Derived.Test.YtabpepddbkipiaaDraw3
namespace Go.Proofs.Ytabpepddbkipiaa
open Go.RowKit
set_option linter.unusedVariables false

/-- a reader is opened at the code's beginning -/
def Opened (A : Option Addr) (c : Nat) (w : World) (e : Ending) (w' : World) : Prop := ∃ m, e = .returned (.pointer (some ⟨w.heap.size, 0, none⟩)) ∧ Rdr w' w.heap.size A m c 0 ∧ Below w.heap.size w w'

set_option maxRecDepth 100000 in
set_option maxHeartbeats 1000000 in
theorem open_d (A : Option Addr) (n c : Nat) (w : World) (hc : n ≤ c) (hcm : c ≤ maxLen) (hr : RdB w w.heap.size A n) :
    Calls Try.prog 69 #[.slice A n c] w (Opened A c w) := by
  unfold maxLen at hcm
  by_cases hn : n ≤ 2000
  · have hn1 : ¬ ((2000 : Int) < (n : Int)) := by omega
    go_enter Try.func69, Try.ntmps69
    go_wp2
    go_ret
    refine ⟨n, rfl, ⟨heap_alloc_new _ _, hn, fun i hi => ?_⟩, below_alloc (Below.refl _ _) _⟩
    obtain ⟨b, o, z, e, hb, h1, h2⟩ := hr i hi
    exact ⟨b, o, z, e, hb, (World.cell?_alloc_lt w _ ⟨b, o + i, none⟩ hb).trans h1, h2⟩
  · have hn1 : ((2000 : Int) < (n : Int)) := by omega
    have hc1 : ((2000 : Int) ≤ (c : Int)) := by omega
    go_enter Try.func69, Try.ntmps69
    go_wp2
    go_ret
    refine ⟨2000, rfl, ⟨heap_alloc_new _ _, Nat.le_refl _, fun i hi => ?_⟩, below_alloc (Below.refl _ _) _⟩
    obtain ⟨b, o, z, e, hb, h1, h2⟩ := hr i (by omega)
    exact ⟨b, o, z, e, hb, (World.cell?_alloc_lt w _ ⟨b, o + i, none⟩ hb).trans h1, h2⟩

set_option maxRecDepth 100000 in
set_option maxHeartbeats 1000000 in
theorem near_d (g : Nat) (A : Option Addr) (n c p : Nat) (A' : Option Addr) (c' : Nat) (l : List R) (w : World) (h : Rdr w g A n c p) (hp : p ≤ 999000) (hfit : FitR l) (hl : l.length ≤ 15) (base : Nat) (hg : g < base) (hown : OwnR w base (.slice A' l.length c') l) :
    Calls Try.prog 72 #[.pointer (some ⟨g, 0, none⟩), .slice A' l.length c'] w fun e w' => ∃ s, e = .returned (.string s) ∧ s.size ≤ maxLen ∧ Dw g A n c p 3 w w' := by
  have hd0 := Dw.refl h
  by_cases h0 : 0 < l.length
  · have h01 : (0 : Int) < (l.length : Int) := by omega
    go_enter Try.func72, Try.ntmps72
    go_wp2_with fail
    refine (pick_d g A n c p 2 w h (by omega) (by omega) (by omega)).mono ?_
    rintro e w1 ⟨k, rfl, hk, hd1⟩
    obtain ⟨q1, h11, h12, hq1⟩ := hd1.rdr
    have hown1 := hown.drawn hg hd1.grown
    by_cases hk0 : k = 0
    · have s0 : ((k : Int) == 0) = true := beq_iff_eq.2 (by omega)
      have K0 := Lib.hid hk0
      clear hk0
      go_wp2_with fail
      refine (pick_d g A n c q1 l.length w1 hq1 (by omega) (by omega) (by omega)).mono ?_
      rintro e w2 ⟨j, rfl, hj, hd2⟩
      obtain ⟨q2, h21, h22, hq2⟩ := hd2.rdr
      have hown2 := hown1.drawn hg hd2.grown
      obtain ⟨A2, c2, ev, _, _, hrd⟩ := hown2.read
      injection ev with ev1 ev2 ev3
      subst ev1 ev3
      obtain ⟨b, o, rfl, hbB, hc1, hc2⟩ := hrd.at_ hj
      have hf := (hfit _ (List.getElem_mem hj)).1
      have hi1 : (j : Int) < (l.length : Int) := by omega
      go_wp2
      go_ret
      exact ⟨_, rfl, hf, (Dw.then_ (K := 1) hd1.grown h11 h12 hd2).more (by omega)⟩
    · have s0 : ((k : Int) == 0) = false := beq_eq_false_iff_ne.2 (by omega)
      go_wp2_with fail
      refine (key_d g A n c q1 w1 hq1 (by omega)).mono ?_
      rintro e w2 ⟨s, rfl, hs, hd2⟩
      go_wp2
      go_ret
      exact ⟨s, rfl, by unfold maxLen; omega, (Dw.then_ (K := 1) hd1.grown h11 h12 hd2).more (by omega)⟩
  · have h01 : decide ((0 : Int) < (l.length : Int)) = false := decide_eq_false (by omega)
    have h02 : decide (0 < l.length) = false := decide_eq_false (by omega)
    go_enter Try.func72, Try.ntmps72
    go_wp2_with fail
    refine (key_d g A n c p w h (by omega)).mono ?_
    rintro e w2 ⟨s, rfl, hs, hd2⟩
    go_wp2
    go_ret
    exact ⟨s, rfl, by unfold maxLen; omega, hd2.more (by omega)⟩

/-- rows are drawn: any rows that fit -/
def DrawnR (w : World) (e : Ending) (w' : World) : Prop := ∃ v l, e = .returned v ∧ OwnR w' w.heap.size v l ∧ FitR l ∧ l.length ≤ 15 ∧ Below w.heap.size w w'
def DrawnRS (w : World) (e : Ending) (w' : World) : Prop := ∃ v l s, e = .returned (.tuple #[v, .string s]) ∧ OwnR w' w.heap.size v l ∧ FitR l ∧ l.length ≤ 15 ∧ s.size ≤ maxLen ∧ Below w.heap.size w w'
def DrawnRSZ (w : World) (e : Ending) (w' : World) : Prop := ∃ v l s z, e = .returned (.tuple #[v, .string s, .int .i64 z]) ∧ OwnR w' w.heap.size v l ∧ FitR l ∧ l.length ≤ 15 ∧ FitR [(s, z)] ∧ Below w.heap.size w w'

theorem belowDw {a w w' : World} {A : Option Addr} {n c p K : Nat} (h : Below a.heap.size a w) (hd : Dw a.heap.size A n c p K w w') : Below a.heap.size a w' :=
  h.grown hd.grown h.size fun k hk => Nat.le_of_eq (Option.some.inj hk)

set_option maxRecDepth 100000 in
set_option maxHeartbeats 1000000 in
theorem drawOk (A : Option Addr) (n c : Nat) (w : World) (hc : n ≤ c) (hcm : c ≤ maxLen) (hr : RdB w w.heap.size A n) :
    Calls Try.prog 52 #[.slice A n c] w (DrawnR w) := by
  go_enter Try.func52, Try.ntmps52
  go_wp2_with fail
  refine (open_d A n c w hc hcm hr).mono ?_
  rintro e w1 ⟨m, rfl, hq1, hb1⟩
  go_wp2_with fail
  refine (rows_d _ A m c 0 w1 hq1 (by omega)).mono ?_
  rintro e w2 ⟨v2, l2, rfl, hown2, hf2, hl2, hd2⟩
  obtain ⟨q2, h21, h22, hq2⟩ := hd2.rdr
  obtain ⟨A2, c2, rfl, hc2, hm2, hrd2⟩ := hown2.read
  go_wp2_with fail
  refine (bent_d _ A m c q2 A2 c2 l2 w2 hq2 (by omega) hf2 hl2 hrd2).mono ?_
  rintro e w3 ⟨v3, l3, rfl, hown3, hf3, hl3, hd3⟩
  have hw2 := belowDw hb1 hd2
  have hw3 := belowDw hw2 hd3
  go_wp2
  go_ret
  exact ⟨v3, l3, rfl, ownLow hw2 hown3, hf3, by omega, hw3⟩

set_option maxRecDepth 100000 in
set_option maxHeartbeats 1000000 in
theorem drawSum (A : Option Addr) (n c : Nat) (w : World) (hc : n ≤ c) (hcm : c ≤ maxLen) (hr : RdB w w.heap.size A n) :
    Calls Try.prog 49 #[.slice A n c] w (DrawnR w) := by
  go_enter Try.func49, Try.ntmps49
  go_wp2_with fail
  refine (drawOk A n c w hc hcm hr).mono ?_
  rintro e w1 ⟨v, l, rfl, h1, h2, h3, h4⟩
  go_wp2
  go_ret
  exact ⟨v, l, rfl, h1, h2, h3, h4⟩

set_option maxRecDepth 100000 in
set_option maxHeartbeats 1000000 in
theorem drawGet (A : Option Addr) (n c : Nat) (w : World) (hc : n ≤ c) (hcm : c ≤ maxLen) (hr : RdB w w.heap.size A n) :
    Calls Try.prog 74 #[.slice A n c] w (DrawnRS w) := by
  go_enter Try.func74, Try.ntmps74
  go_wp2_with fail
  refine (open_d A n c w hc hcm hr).mono ?_
  rintro e w1 ⟨m, rfl, hq1, hb1⟩
  go_wp2_with fail
  refine (rows_d _ A m c 0 w1 hq1 (by omega)).mono ?_
  rintro e w2 ⟨v2, l2, rfl, hown2, hf2, hl2, hd2⟩
  obtain ⟨q2, h21, h22, hq2⟩ := hd2.rdr
  obtain ⟨A2, c2, rfl, hc2, hm2, hrd2⟩ := hown2.read
  go_wp2_with fail
  refine (bent_d _ A m c q2 A2 c2 l2 w2 hq2 (by omega) hf2 hl2 hrd2).mono ?_
  rintro e w3 ⟨v3, l3, rfl, hown3, hf3, hl3, hd3⟩
  obtain ⟨q3, h31, h32, hq3⟩ := hd3.rdr
  have hw2 := belowDw hb1 hd2
  have hw3 := belowDw hw2 hd3
  have hlt2 := hq2.lt
  obtain ⟨A3, c3, rfl, hc3, hm3, hrd3⟩ := hown3.read
  go_wp2_with fail
  refine (near_d _ A m c q3 A3 c3 l3 w3 hq3 (by omega) hf3 (by omega) w2.heap.size hlt2 hown3).mono ?_
  rintro e w4 ⟨s, rfl, hs, hd4⟩
  have hw4 := belowDw hw3 hd4
  go_wp2
  go_ret2
  exact ⟨_, l3, s, rfl, ownLow hw2 (hown3.drawn hlt2 hd4.grown), hf3, by omega, hs, hw4⟩

set_option maxRecDepth 100000 in
set_option maxHeartbeats 1000000 in
theorem drawCut (A : Option Addr) (n c : Nat) (w : World) (hc : n ≤ c) (hcm : c ≤ maxLen) (hr : RdB w w.heap.size A n) :
    Calls Try.prog 47 #[.slice A n c] w (DrawnRS w) := by
  go_enter Try.func47, Try.ntmps47
  go_wp2_with fail
  refine (drawGet A n c w hc hcm hr).mono ?_
  rintro e w1 ⟨v, l, s, rfl, h1, h2, h3, h4, h5⟩
  go_wp2
  go_ret2
  exact ⟨v, l, s, rfl, h1, h2, h3, h4, h5⟩

set_option maxRecDepth 100000 in
set_option maxHeartbeats 1000000 in
theorem drawPut (A : Option Addr) (n c : Nat) (w : World) (hc : n ≤ c) (hcm : c ≤ maxLen) (hr : RdB w w.heap.size A n) :
    Calls Try.prog 45 #[.slice A n c] w (DrawnRSZ w) := by
  go_enter Try.func45, Try.ntmps45
  go_wp2_with fail
  refine (open_d A n c w hc hcm hr).mono ?_
  rintro e w1 ⟨m, rfl, hq1, hb1⟩
  go_wp2_with fail
  refine (rows_d _ A m c 0 w1 hq1 (by omega)).mono ?_
  rintro e w2 ⟨v2, l2, rfl, hown2, hf2, hl2, hd2⟩
  obtain ⟨q2, h21, h22, hq2⟩ := hd2.rdr
  obtain ⟨A2, c2, rfl, hc2, hm2, hrd2⟩ := hown2.read
  go_wp2_with fail
  refine (bent_d _ A m c q2 A2 c2 l2 w2 hq2 (by omega) hf2 hl2 hrd2).mono ?_
  rintro e w3 ⟨v3, l3, rfl, hown3, hf3, hl3, hd3⟩
  obtain ⟨q3, h31, h32, hq3⟩ := hd3.rdr
  have hw2 := belowDw hb1 hd2
  have hw3 := belowDw hw2 hd3
  have hlt2 := hq2.lt
  obtain ⟨A3, c3, rfl, hc3, hm3, hrd3⟩ := hown3.read
  go_wp2_with fail
  refine (near_d _ A m c q3 A3 c3 l3 w3 hq3 (by omega) hf3 (by omega) w2.heap.size hlt2 hown3).mono ?_
  rintro e w4 ⟨s, rfl, hs, hd4⟩
  obtain ⟨q4, h41, h42, hq4⟩ := hd4.rdr
  have hw4 := belowDw hw3 hd4
  have hown4 := hown3.drawn hlt2 hd4.grown
  go_wp2_with fail
  refine (value_d _ A m c q4 w4 hq4 (by omega)).mono ?_
  rintro e w5 ⟨z, rfl, hz, hd5⟩
  have hw5 := belowDw hw4 hd5
  go_wp2
  go_ret3
  refine ⟨_, l3, s, z, rfl, ownLow hw2 (hown4.drawn hlt2 hd5.grown), hf3, by omega, ?_, hw5⟩
  intro x hx
  have : x = (s, z) := by simpa using hx
  subst this
  exact ⟨hs, hz⟩

end Go.Proofs.Ytabpepddbkipiaa
