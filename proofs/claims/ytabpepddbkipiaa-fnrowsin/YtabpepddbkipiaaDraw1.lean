/- Keys, numbers and rows that are drawn. -/
import Derived.Test.YtabpepddbkipiaaDraw
namespace Go.Proofs.Ytabpepddbkipiaa
open Go.RowKit
set_option linter.unusedVariables false

def FitZ (z : Int) : Prop := -9223372036854775808 ≤ z ∧ z ≤ 9223372036854775807

def ssBent : List ByteArray := [⟨#[]⟩, ⟨#[97, 98, 99]⟩, ⟨#[65]⟩, ⟨#[97, 49]⟩, ⟨#[32]⟩]
def ssKeys : List ByteArray := [⟨#[97]⟩, ⟨#[98]⟩, ⟨#[99]⟩, ⟨#[100]⟩, ⟨#[97, 98]⟩, ⟨#[97, 99]⟩, ⟨#[98, 98]⟩, ⟨#[122]⟩, ⟨#[101]⟩, ⟨#[102]⟩, ⟨#[103]⟩, ⟨#[104]⟩]
theorem ssBent_small : ∀ s ∈ ssBent, s.size ≤ 3 := by
  intro s hs
  simp only [ssBent, List.mem_cons, List.not_mem_nil, or_false] at hs
  rcases hs with rfl | rfl | rfl | rfl | rfl <;> decide
theorem ssKeys_small : ∀ s ∈ ssKeys, s.size ≤ 3 := by
  intro s hs
  simp only [ssKeys, List.mem_cons, List.not_mem_nil, or_false] at hs
  rcases hs with rfl | rfl | rfl | rfl | rfl | rfl | rfl | rfl | rfl | rfl | rfl | rfl <;> decide
def zsBent : List Int := [1000, -1000, 9223372036854775807, -9223372036854775808]
def zsNums : List Int := [0, 1, 2, 3, -1, -7, 40, 500, 999, -999]
theorem zsBent_fit : ∀ z ∈ zsBent, FitZ z := by
  intro z hz
  simp only [zsBent, List.mem_cons, List.not_mem_nil, or_false] at hz
  unfold FitZ
  omega
theorem zsNums_fit : ∀ z ∈ zsNums, FitZ z := by
  intro z hz
  simp only [zsNums, List.mem_cons, List.not_mem_nil, or_false] at hz
  unfold FitZ
  omega

theorem Rdr.lt {w : World} {g n c p : Nat} {A : Option Addr} (h : Rdr w g A n c p) : g < w.heap.size := h.blk.lt
theorem Rdr.alloc {w : World} {g n c p : Nat} {A : Option Addr} (h : Rdr w g A n c p) (o : Obj) : Rdr (w.alloc o) g A n c p := h.next (below_alloc (Below.refl _ _) o)
theorem grown_alloc {a w : World} {g : Nat} (h : a.grownBy w (some g)) (o : Obj) : a.grownBy (w.alloc o) (some g) := grown_call h (below_alloc (Below.refl _ _) o)

set_option maxRecDepth 100000 in
set_option maxHeartbeats 1000000 in
theorem key_d (g : Nat) (A : Option Addr) (n c p : Nat) (w : World) (h : Rdr w g A n c p) (hp : p ≤ 999990) :
    Calls Try.prog 77 #[.pointer (some ⟨g, 0, none⟩)] w fun e w' => ∃ s, e = .returned (.string s) ∧ s.size ≤ 3 ∧ Dw g A n c p 2 w w' := by
  go_enter Try.func77, Try.ntmps77
  go_wp2_with fail
  refine (pick_d g A n c p 20 w h (by omega) (by omega) (by omega)).mono ?_
  rintro e w1 ⟨k, rfl, hk, hd⟩
  obtain ⟨q, hq1, hq2, hq⟩ := hd.rdr
  by_cases h0 : k = 0
  · have hb : ((k : Int) == 0) = true := by simp [h0]
    go_wp2_with fail
    refine (of_d g A n c q w1.heap.size ssBent _ (hq.alloc _) (by omega) (by have := hq.lt; omega) (heap_alloc_new w1 _) 5 rfl (by omega) (by omega)).mono ?_
    rintro e w2 ⟨s, rfl, hs, hd2⟩
    go_wp2
    go_ret
    exact ⟨s, rfl, ssBent_small s hs, Dw.then_ (K := 1) (grown_alloc hd.grown _) hq1 hq2 hd2⟩
  · have hb : ((k : Int) == 0) = false := by simp; omega
    go_wp2_with fail
    refine (of_d g A n c q w1.heap.size ssKeys _ (hq.alloc _) (by omega) (by have := hq.lt; omega) (heap_alloc_new w1 _) 12 rfl (by omega) (by omega)).mono ?_
    rintro e w2 ⟨s, rfl, hs, hd2⟩
    go_wp2
    go_ret
    exact ⟨s, rfl, ssKeys_small s hs, Dw.then_ (K := 1) (grown_alloc hd.grown _) hq1 hq2 hd2⟩

set_option maxRecDepth 100000 in
set_option maxHeartbeats 1000000 in
theorem value_d (g : Nat) (A : Option Addr) (n c p : Nat) (w : World) (h : Rdr w g A n c p) (hp : p ≤ 999990) :
    Calls Try.prog 73 #[.pointer (some ⟨g, 0, none⟩)] w fun e w' => ∃ z, e = .returned (.int .i64 z) ∧ FitZ z ∧ Dw g A n c p 2 w w' := by
  go_enter Try.func73, Try.ntmps73
  go_wp2_with fail
  refine (pick_d g A n c p 20 w h (by omega) (by omega) (by omega)).mono ?_
  rintro e w1 ⟨k, rfl, hk, hd⟩
  obtain ⟨q, hq1, hq2, hq⟩ := hd.rdr
  by_cases h0 : k = 0
  · have hb : ((k : Int) == 0) = true := by simp [h0]
    go_wp2_with fail
    refine (num_d g A n c q w1.heap.size zsBent _ (hq.alloc _) (by omega) (by have := hq.lt; omega) (heap_alloc_new w1 _) 4 rfl (by omega) (by omega)).mono ?_
    rintro e w2 ⟨s, rfl, hs, hd2⟩
    go_wp2
    go_ret
    exact ⟨s, rfl, zsBent_fit s hs, Dw.then_ (K := 1) (grown_alloc hd.grown _) hq1 hq2 hd2⟩
  · have hb : ((k : Int) == 0) = false := by simp; omega
    go_wp2_with fail
    refine (num_d g A n c q w1.heap.size zsNums _ (hq.alloc _) (by omega) (by have := hq.lt; omega) (heap_alloc_new w1 _) 10 rfl (by omega) (by omega)).mono ?_
    rintro e w2 ⟨s, rfl, hs, hd2⟩
    go_wp2
    go_ret
    exact ⟨s, rfl, zsNums_fit s hs, Dw.then_ (K := 1) (grown_alloc hd.grown _) hq1 hq2 hd2⟩

end Go.Proofs.Ytabpepddbkipiaa
