/- The draw of two lists of rows. -/
import Derived.Test.YtabpepddbkipiaaDraw4
import Derived.Test.YtabpepddbkipiaaWp
namespace Go.Proofs.Ytabpepddbkipiaa
open Go.RowKit
set_option linter.unusedVariables false

def DrawnRR (w : World) (e : Ending) (w' : World) : Prop := ∃ v l u m, e = .returned (.tuple #[v, u]) ∧ OwnR w' w.heap.size v l ∧ FitR l ∧ l.length ≤ 15 ∧ OwnR w' w.heap.size u m ∧ FitR m ∧ m.length ≤ 16 ∧ Below w.heap.size w w'

theorem FitR.cutL {l : List R} (h : FitR l) (key : ByteArray) : FitR (cutL l key) := by rw [cutL_del]; exact h.del key

set_option maxRecDepth 100000 in
set_option maxHeartbeats 2000000 in
theorem drawDiff (A : Option Addr) (n c : Nat) (w : World) (hc : n ≤ c) (hcm : c ≤ maxLen) (hr : RdB w w.heap.size A n) :
    Calls Try.prog 50 #[.slice A n c] w (DrawnRR w) := by
  go_enter Try.func50, Try.ntmps50
  go_wp2_with fail
  refine (open_d A n c w hc hcm hr).mono ?_
  rintro e w1 ⟨m, rfl, hq1, hb1⟩
  go_wp2_with fail
  refine (rows_d _ A m c 0 w1 hq1 (by omega)).mono ?_
  rintro e w2 ⟨v2, l2, rfl, hown2, hf2, hl2, hd2⟩
  obtain ⟨q2, h21, h22, hq2⟩ := hd2.rdr
  obtain ⟨A2, c2, rfl, hc2, hm2, hrd2⟩ := hown2.read
  go_wp2_with fail
  refine (bent_d _ A m c q2 A2 c2 l2 w2 hq2 (by omega) hf2 hl2 hrd2).mono ?_
  rintro e w3 ⟨v3, l3, rfl, hown3, hf3, hl3, hd3⟩
  obtain ⟨q3, h31, h32, hq3⟩ := hd3.rdr
  have hw2 := belowDw hb1 hd2
  have hw3 := belowDw hw2 hd3
  have hlt2 := hq2.lt
  have hlt3 := hq3.lt
  clear hown2 hrd2 hf2
  go_wp2_with fail
  refine (pick_d _ A m c q3 3 w3 hq3 (by omega) (by omega) (by omega)).mono ?_
  rintro e w4 ⟨k, rfl, hk, hd4⟩
  obtain ⟨q4, h41, h42, hq4⟩ := hd4.rdr
  have hw4 := belowDw hw3 hd4
  have hown4 := hown3.drawn hlt2 hd4.grown
  have hlt4 := hq4.lt
  clear hown3
  by_cases hk0 : k = 0
  · have s0 : ((k : Int) == 0) = true := beq_iff_eq.2 (by omega)
    have K0 := Lib.hid hk0
    clear hk0
    go_wp2_with fail
    refine (rows_d _ A m c q4 w4 hq4 (by omega)).mono ?_
    rintro e w5 ⟨v5, l5, rfl, hown5, hf5, hl5, hd5⟩
    have hw5 := belowDw hw4 hd5
    go_wp2
    go_ret2
    exact ⟨_, l3, _, l5, rfl, ownLow hw2 (hown4.drawn hlt2 hd5.grown), hf3, by omega, ownLow hw4 hown5, hf5, by omega, hw5⟩
  · have s0 : ((k : Int) == 0) = false := beq_eq_false_iff_ne.2 (by omega)
    obtain ⟨A4, c4, rfl, hc4, hm4, hrd4⟩ := hown4.read
    go_wp2_with fail
    refine (near_d _ A m c q4 A4 c4 l3 w4 hq4 (by omega) hf3 (by omega) w2.heap.size hlt2 hown4).mono ?_
    rintro e w5 ⟨s, rfl, hs, hd5⟩
    obtain ⟨q5, h51, h52, hq5⟩ := hd5.rdr
    have hw5 := belowDw hw4 hd5
    have hown5 := hown4.drawn hlt2 hd5.grown
    obtain ⟨A5, c5, ev, hc5, hm5, hrd5⟩ := hown5.read
    injection ev with ev1 ev2 ev3
    subst ev1 ev3
    go_wp2_with fail
    refine (specCut1 A4 c4 l3 s w5 hc5 (by omega) hrd5).mono ?_
    rintro e w6 ⟨v6, rfl, hown6, hb6⟩
    have hcl := cutL_length l3 s
    have hfc := hf3.cutL s
    have hq6 := hq5.next hb6
    have hw6 := below_next hw5 hb6
    have hown56 := hown5.next hb6
    have hlt5 := hq5.lt
    generalize cutL l3 s = lc at *
    go_wp2_with fail
    refine (key_d _ A m c q5 w6 hq6 (by omega)).mono ?_
    rintro e w7 ⟨t, rfl, ht, hd7⟩
    obtain ⟨q7, h71, h72, hq7⟩ := hd7.rdr
    have hw7 := belowDw hw6 hd7
    have hown7 := hown56.drawn hlt2 hd7.grown
    have hcut7 := hown6.drawn hlt5 hd7.grown
    go_wp2_with fail
    refine (value_d _ A m c q7 w7 hq7 (by omega)).mono ?_
    rintro e w8 ⟨z, rfl, hz, hd8⟩
    have hw8 := belowDw hw7 hd8
    have hown8 := hown7.drawn hlt2 hd8.grown
    have hcut8 := hcut7.drawn hlt5 hd8.grown
    have hk1 := fitDrawn (s := t) (z := z) (by omega) hz
    obtain ⟨A8, c8, rfl, hc8, hm8, hrd8⟩ := hcut8.read
    go_wp2_with fail
    refine (specPut1 A8 c8 lc t z w8 hc8 (by omega) hrd8).mono ?_
    rintro e w9 ⟨v9, rfl, hown9, hb9⟩
    have hpl := putL_length lc t z
    have hfp := FitR.putL hfc hk1
    go_wp2
    go_ret2
    exact ⟨_, l3, _, putL lc t z, rfl, ownLow hw2 (hown8.next hb9), hf3, by omega, ownLow hw8 hown9, hfp, by omega, below_next hw8 hb9⟩

end Go.Proofs.Ytabpepddbkipiaa
