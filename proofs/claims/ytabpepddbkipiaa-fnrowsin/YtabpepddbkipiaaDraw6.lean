/- The draw of rows and two texts. -/
import Derived.Test.YtabpepddbkipiaaDraw4
namespace Go.Proofs.Ytabpepddbkipiaa
open Go.RowKit
set_option linter.unusedVariables false

def DrawnRSS (w : World) (e : Ending) (w' : World) : Prop := ∃ v l s t, e = .returned (.tuple #[v, .string s, .string t]) ∧ OwnR w' w.heap.size v l ∧ FitR l ∧ l.length ≤ 15 ∧ s.size ≤ maxLen ∧ t.size ≤ maxLen ∧ Below w.heap.size w w'
def ssEnds : List ByteArray := [⟨#[]⟩, ⟨#[97]⟩, ⟨#[122, 122, 122]⟩]
theorem ssEnds_small : ∀ s ∈ ssEnds, s.size ≤ 3 := by
  intro s hs
  simp only [ssEnds, List.mem_cons, List.not_mem_nil, or_false] at hs
  rcases hs with rfl | rfl | rfl <;> decide

set_option maxRecDepth 100000 in
set_option maxHeartbeats 2000000 in
theorem drawIn (A : Option Addr) (n c : Nat) (w : World) (hc : n ≤ c) (hcm : c ≤ maxLen) (hr : RdB w w.heap.size A n) :
    Calls Try.prog 48 #[.slice A n c] w (DrawnRSS w) := by
  go_enter Try.func48, Try.ntmps48
  go_wp2_with fail
  refine (open_d A n c w hc hcm hr).mono ?_
  rintro e w1 ⟨m, rfl, hq1, hb1⟩
  go_wp2_with fail
  refine (rows_d _ A m c 0 w1 hq1 (by omega)).mono ?_
  rintro e w2 ⟨v2, l2, rfl, hown2, hf2, hl2, hd2⟩
  obtain ⟨q2, h21, h22, hq2⟩ := hd2.rdr
  obtain ⟨A2, c2, rfl, hc2, hm2, hrd2⟩ := hown2.read
  go_wp2_with fail
  refine (bent_d _ A m c q2 A2 c2 l2 w2 hq2 (by omega) hf2 hl2 hrd2).mono ?_
  rintro e w3 ⟨v3, l3, rfl, hown3, hf3, hl3, hd3⟩
  obtain ⟨q3, h31, h32, hq3⟩ := hd3.rdr
  have hw2 := belowDw hb1 hd2
  have hw3 := belowDw hw2 hd3
  have hlt2 := hq2.lt
  clear hown2 hrd2 hf2
  obtain ⟨A3, c3, rfl, hc3, hm3, hrd3⟩ := hown3.read
  go_wp2_with fail
  refine (near_d _ A m c q3 A3 c3 l3 w3 hq3 (by omega) hf3 (by omega) w2.heap.size hlt2 hown3).mono ?_
  rintro e w4 ⟨s, rfl, hs, hd4⟩
  obtain ⟨q4, h41, h42, hq4⟩ := hd4.rdr
  have hw4 := belowDw hw3 hd4
  have hown4 := hown3.drawn hlt2 hd4.grown
  go_wp2_with fail
  refine (pick_d _ A m c q4 3 w4 hq4 (by omega) (by omega) (by omega)).mono ?_
  rintro e w5 ⟨k, rfl, hk, hd5⟩
  obtain ⟨q5, h51, h52, hq5⟩ := hd5.rdr
  have hw5 := belowDw hw4 hd5
  have hown5 := hown4.drawn hlt2 hd5.grown
  have hlt5 := hq5.lt
  clear hown3 hown4 hrd3
  by_cases hk0 : k = 0
  · have s0 : ((k : Int) == 0) = true := beq_iff_eq.2 (by omega)
    have K0 := Lib.hid hk0
    clear hk0
    go_wp2_with fail
    refine (of_d _ A m c q5 w5.heap.size ssEnds _ (hq5.alloc _) (by omega) (by omega) (heap_alloc_new w5 _) 3 rfl (by omega) (by omega)).mono ?_
    rintro e w6 ⟨t, rfl, ht, hd6⟩
    obtain ⟨q6, h61, h62, hq6⟩ := hd6.rdr
    have hts := ssEnds_small t ht
    have hown6 := (hown5.alloc (.cells (ssEnds.map Value.string).toArray 9)).drawn hlt2 hd6.grown
    have hw6 := belowDw (below_alloc hw5 (.cells (ssEnds.map Value.string).toArray 9)) hd6
    clear ht
    go_wp2_with fail
    refine (near_d _ A m c q6 A3 c3 l3 w6 hq6 (by omega) hf3 (by omega) w2.heap.size hlt2 hown6).mono ?_
    rintro e w7 ⟨u, rfl, hu, hd7⟩
    have hw7 := belowDw hw6 hd7
    go_wp2
    go_ret3
    exact ⟨_, l3, t, u, rfl, ownLow hw2 (hown6.drawn hlt2 hd7.grown), hf3, by omega, by unfold maxLen; omega, hu, hw7⟩
  · have s0 : ((k : Int) == 0) = false := beq_eq_false_iff_ne.2 (by omega)
    go_wp2_with fail
    refine (near_d _ A m c q5 A3 c3 l3 w5 hq5 (by omega) hf3 (by omega) w2.heap.size hlt2 hown5).mono ?_
    rintro e w7 ⟨u, rfl, hu, hd7⟩
    have hw7 := belowDw hw5 hd7
    go_wp2
    go_ret3
    exact ⟨_, l3, s, u, rfl, ownLow hw2 (hown5.drawn hlt2 hd7.grown), hf3, by omega, hs, hu, hw7⟩

end Go.Proofs.Ytabpepddbkipiaa
