/- Rows that are drawn. -/
import Derived.Test.YtabpepddbkipiaaDraw1
import Derived.Test.YtabpepddbkipiaaLw
namespace Go.Proofs.Ytabpepddbkipiaa
open Go.RowKit
set_option linter.unusedVariables false

/-- rows of the call's own are returned, and the reader has gone on -/
def RetD (g : Nat) (A : Option Addr) (n c p K N : Nat) (w : World) (e : Ending) (w' : World) : Prop :=
  ∃ v l, e = .returned v ∧ OwnR w' w.heap.size v l ∧ FitR l ∧ l.length ≤ N ∧ Dw g A n c p K w w'

theorem fitDrawn {s : ByteArray} {z : Int} (hs : s.size ≤ 100) (hz : FitZ z) : FitR [(s, z)] := by
  intro r hr
  have : r = (s, z) := by simpa using hr
  subst this
  exact ⟨by show s.size ≤ maxLen; unfold maxLen; omega, hz⟩
theorem fitNil : FitR [] := fun r hr => by simp at hr
/-- rows of the call's own stand while the reader goes on -/
theorem OwnR.drawn {w w' : World} {base g : Nat} {v : Value} {l : List R} (h : OwnR w base v l) (hg : g < base) (hd : w.grownBy w' (some g)) : OwnR w' base v l :=
  h.kept hd fun k hk e => by have := (h.block_lt hk).1; have e2 : k = g := Option.some.inj e; omega

def zsMany : List Int := [2, 4, 6, 0, 1, 14]
theorem zsMany_small : ∀ z ∈ zsMany, ∃ j : Nat, z = (j : Int) ∧ j ≤ 14 := by
  intro z hz
  simp only [zsMany, List.mem_cons, List.not_mem_nil, or_false] at hz
  exact ⟨z.toNat, by omega, by omega⟩

set_option maxRecDepth 100000 in
set_option maxHeartbeats 1000000 in
theorem rows_d (g : Nat) (A : Option Addr) (n c p : Nat) (w : World) (h : Rdr w g A n c p) (hp : p ≤ 999000) :
    Calls Try.prog 71 #[.pointer (some ⟨g, 0, none⟩)] w (RetD g A n c p 60 14 w) := by
  have hlt := h.lt
  go_enter Try.func71, Try.ntmps71
  go_wp2_with fail
  have hr0 := (h.alloc (.cells #[] 50)).alloc (.cells #[.int .i64 2, .int .i64 4, .int .i64 6, .int .i64 0, .int .i64 1, .int .i64 14] 3)
  refine (num_d g A n c p (w.heap.size + 1) zsMany _ hr0 (by omega) (by omega) (heap_alloc2_new w _ _) 6 rfl (by omega) (by omega)).mono ?_
  rintro e w1 ⟨z, rfl, hz, hd⟩
  obtain ⟨j0, rfl, hj0⟩ := zsMany_small z hz
  obtain ⟨q0, hq1, hq2, hq⟩ := hd.rdr
  have hO1 := ((OwnR.fresh w w.heap.size (Nat.le_refl _)).alloc (.cells #[.int .i64 2, .int .i64 4, .int .i64 6, .int .i64 0, .int .i64 1, .int .i64 14] 3)).drawn (by omega) hd.grown
  have hgr : w.grownBy w1 (some g) := (grown_alloc (grown_alloc (World.grownBy.refl w _) _) _).trans hd.grown
  go_wp2
  go_loopw [3, 4] (fun o i W => ∃ (j : Nat) (lo : List R), j ≤ 14 ∧ i = .int .i64 j ∧ OwnR W w.heap.size o lo ∧ FitR lo ∧ lo.length + j ≤ 14 ∧ w.grownBy W (some g) ∧ ∃ q, p ≤ q ∧ q + 4 * j ≤ p + 57 ∧ Rdr W g A n c q) (fun _ i _ => (intOf i).toNat)
  case atStart => exact ⟨j0, [], hj0, rfl, hO1, fitNil, by simpa using hj0, hgr, q0, hq1, by omega, hq⟩
  case round =>
    obtain ⟨j, lo, hj, rfl, hown, hfit, hlen, hgrw, q, hq1, hq2, hq⟩ := hrel
    have hgl : g < w.heap.size := hlt
    by_cases hj0 : 0 < j
    · have hj1 : (0 : Int) < (j : Int) := by omega
      go_wp2_with fail
      refine (key_d g A n c q wr hq (by omega)).mono ?_
      rintro e w2 ⟨s, rfl, hs, hd2⟩
      obtain ⟨q2, h21, h22, hq2'⟩ := hd2.rdr
      have hown2 := hown.drawn hgl hd2.grown
      go_wp2_with fail
      refine (value_d g A n c q2 w2 hq2' (by omega)).mono ?_
      rintro e w3 ⟨z, rfl, hz, hd3⟩
      obtain ⟨q3, h31, h32, hq3⟩ := hd3.rdr
      have hown3 := hown2.drawn hgl hd3.grown
      have hgr3 : w.grownBy w3 (some g) := (hgrw.trans hd2.grown).trans hd3.grown
      have hk1 := fitDrawn (s := s) (z := z) (by omega) hz
      obtain ⟨A', c', rfl, hc', hm', hrd⟩ := hown3.read
      go_wp2_with fail
      refine (specPut1 A' c' lo s z w3 hc' (by omega) hrd).mono ?_
      rintro e w4 ⟨v4, rfl, hown4, hb4⟩
      have hpl := putL_length lo s z
      have hfp := FitR.putL hfit hk1
      have hgr4 : w.grownBy w4 (some g) := grown_call hgr3 hb4
      have hown34 := hown3.next hb4
      have hown4' : OwnR w4 w.heap.size v4 (putL lo s z) := hown4.low hgr3.size
      have hq4 := hq3.next hb4
      obtain ⟨A4, c4, rfl, hc4, hm4, hrd4⟩ := hown4.read
      generalize putL lo s z = lp at *
      cases hok : rowsB lp
      · go_wp2_with fail
        refine (specRowsOk A4 c4 lp w4 hfp hc4 hm4 hrd4).mono ?_
        rintro e w5 ⟨rfl, n5, rfl⟩
        rw [hok]
        go_wp2
        go_roundw
        case rel => exact ⟨j - 1, lo, by omega, by go_num, hown34.next (below_drewN (Below.refl _ _) _), hfit, by omega, grown_drewN hgr4 _, q3, by omega, by omega, hq4.drewN _⟩
        case measure => simp [intOf]; omega
      · go_wp2_with fail
        refine (specRowsOk A4 c4 lp w4 hfp hc4 hm4 hrd4).mono ?_
        rintro e w5 ⟨rfl, n5, rfl⟩
        rw [hok]
        go_wp2
        go_roundw
        case rel => exact ⟨j - 1, lp, by omega, by go_num, hown4'.next (below_drewN (Below.refl _ _) _), hfp, by omega, grown_drewN hgr4 _, q3, by omega, by omega, hq4.drewN _⟩
        case measure => simp [intOf]; omega
    · have hj2 : j = 0 := by omega
      have HJ := Lib.hid hj2
      clear hj2
      go_wp2
      go_ret
      exact ⟨_, lo, rfl, hown, hfit, by omega, hgrw, q, hq1, by have := HJ.out; omega, hq⟩

end Go.Proofs.Ytabpepddbkipiaa
