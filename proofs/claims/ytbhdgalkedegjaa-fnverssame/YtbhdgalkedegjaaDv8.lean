/- The whole draws of chapter 2: what one does. -/
import Derived.Test.YtbhdgalkedegjaaDv5
namespace Go.Proofs.Ytbhdgalkedegjaa
open Go.RowKit
set_option linter.unusedVariables false
set_option maxRecDepth 100000

def DrawnX (w : World) (e : Ending) (w' : World) : Prop := ∃ v l, e = .returned v ∧ OwnG w' w.heap.size v l ∧ FitXs l ∧ l.length ≤ 20 ∧ Below w.heap.size w w'
def sliceLen : Value → Nat
  | .slice _ n _ => n
  | _ => 0
def ssZ : List ByteArray := [⟨#[120]⟩, ⟨#[121]⟩, ⟨#[122]⟩]
theorem ssZ_small : ∀ s ∈ ssZ, ((⟨#[122]⟩ : ByteArray) ++ s).size ≤ maxLen := by
  intro s hs
  simp only [ssZ, List.mem_cons, List.not_mem_nil, or_false] at hs
  rcases hs with rfl | rfl | rfl <;> decide

theorem ssZ_size : ∀ s ∈ ssZ, s.size = 1 := by
  intro s hs
  simp only [ssZ, List.mem_cons, List.not_mem_nil, or_false] at hs
  rcases hs with rfl | rfl | rfl <;> rfl

set_option maxHeartbeats 1600000 in
theorem drawWritesOk (A : Option Addr) (n c : Nat) (w : World) (hc : n ≤ c) (hcm : c ≤ maxLen) (hr : RdB w w.heap.size A n) : Calls Try.prog 56 #[.slice A n c] w (DrawnX w) := by
  go_enter Try.func56, Try.ntmps56
  go_wp2_with fail
  refine (open_d A n c w hc hcm hr).mono ?_
  rintro e w1 ⟨m, rfl, hq1, hw1⟩
  have hg1 := hq1.lt
  go_wp2_with fail
  refine (rows_d w.heap.size A m c 0 w1 hq1 (by omega)).mono ?_
  rintro e w2 ⟨v2, l2, rfl, hO2, hf2, hl2, hd2⟩
  obtain ⟨q2, h21, h22, hq2⟩ := hd2.rdr
  have hw2 : Below w.heap.size w w2 := hw1.grown hd2.grown hw1.size (fun k hk => by have := Option.some.inj hk; omega)
  have hg2 := hq2.lt
  have hs2 := hw2.size
  obtain ⟨A2, c2, rfl, hx1, hx2, hx3⟩ := hO2.read
  clear hx1 hx2 hx3
  go_wp2_with fail
  refine (writes_d w.heap.size A m c q2 A2 c2 l2 w2 hq2 (by omega) hf2 (by omega) w1.heap.size hg1 hO2).mono ?_
  rintro e w3 ⟨v3, l3, rfl, hO3, hf3, hl3, hd3⟩
  obtain ⟨q3, h31, h32, hq3⟩ := hd3.rdr
  have hw3 : Below w.heap.size w w3 := hw2.grown hd3.grown hw2.size (fun k hk => by have := Option.some.inj hk; omega)
  have hs23 := hd3.grown.size
  clear hO2 hq2 hd2 hd3
  obtain ⟨A3, c3, rfl, hx1, hx2, hx3⟩ := hO3.read
  clear hx1 hx2 hx3
  by_cases hl0 : 0 < l3.length
  · have hld : decide (0 < l3.length) = true := decide_eq_true hl0
    have hldi : decide ((0 : Int) < (l3.length : Int)) = true := decide_eq_true (by omega)
    go_wp2_with fail
    refine (pick_z w.heap.size A m c q3 10 w3 hq3 (by omega) (by omega) (by omega)).mono ?_
    rintro e w5 ⟨k5, rfl, hk5, hd5⟩
    obtain ⟨q5, h51, h52, hq5⟩ := hd5.rdr
    have hw5 : Below w.heap.size w w5 := hw3.grown hd5.grown hw3.size (fun k hk => by have := Option.some.inj hk; omega)
    have hO5 := hO3.drawn hg2 hd5.grown
    have hs35 := hd5.grown.size
    by_cases hk50 : k5 = 0
    · have hkd5 : ((k5 : Int) == 0) = true := by simp [hk50]
      clear hk50
      go_wp2_with fail
      refine (pick_z w.heap.size A m c q5 (l3.length : Int) w5 hq5 (by omega) (by omega) (by omega)).mono ?_
      rintro e w6 ⟨k6, rfl, hk6, hd6⟩
      obtain ⟨q6, h61, h62, hq6⟩ := hd6.rdr
      have hw6 : Below w.heap.size w w6 := hw5.grown hd6.grown hw5.size (fun k hk => by have := Option.some.inj hk; omega)
      have hO6 := hO5.drawn hg2 hd6.grown
      have hs56 := hd6.grown.size
      have hk6n : k6 < l3.length := by omega
      obtain ⟨eb, eo, rfl, HO0, heb1, heb2⟩ := hO6.addr hl0
      have hcg := (hO6.rd'.2.2.2.fixX rfl hk6n).2.2
      have hfz : w6.frozen? ⟨eb, eo + k6 * 3 + 2, none⟩ = false := by obtain ⟨cs, hcs⟩ := hO6.blk_of (g := eb) rfl; exact hcs.free _
      have hOs := hO6.setAt HO0.out (i := k6) (r := l3[k6]) (r' := ⟨l3[k6].k, l3[k6].n, true⟩) (j := 2) (u := .bool true) (List.getElem?_eq_getElem hk6n) (by decide) rfl
      have hws : Below w.heap.size w (w6.setCell ⟨eb, eo + k6 * 3 + 2, none⟩ (.bool true)) := hw6.setCell (show w.heap.size ≤ eb from by omega) _
      have hqs : Rdr (w6.setCell ⟨eb, eo + k6 * 3 + 2, none⟩ (.bool true)) w.heap.size A m c q6 := hq6.belowR (show Below w2.heap.size w6 (w6.setCell ⟨eb, eo + k6 * 3 + 2, none⟩ (.bool true)) from (Below.refl _ _).setCell (show w2.heap.size ≤ eb from heb1) _) hg2
      have hfs : FitXs (l3.set k6 ⟨l3[k6].k, l3[k6].n, true⟩) := fun r hr => by
        rcases List.mem_or_eq_of_mem_set hr with hr | rfl
        · exact hf3 r hr
        · have h3 := hf3 _ (List.getElem_mem hk6n)
          exact ⟨h3.1, h3.2.1, h3.2.2⟩
      have hls : (l3.set k6 ⟨l3[k6].k, l3[k6].n, true⟩).length = l3.length := List.length_set
      obtain ⟨ls, HLS⟩ : ∃ ls, Hid (l3.set k6 ⟨l3[k6].k, l3[k6].n, true⟩ = ls) := ⟨_, Lib.hid rfl⟩
      have hO8 : OwnG (w6.setCell ⟨eb, eo + k6 * 3 + 2, none⟩ (.bool true)) w2.heap.size (.slice (some ⟨eb, eo, none⟩) l3.length c3) ls := by rw [← HLS.out]; exact hOs
      rw [HLS.out] at hfs hls
      clear hOs
      have hws8 := hws
      have hq8 := hqs
      have hw8 := hws
      have hss : (w6.setCell ⟨eb, eo + k6 * 3 + 2, none⟩ (.bool true)).heap.size = w6.heap.size := by simp [World.setCell]
      go_wp2_with fail
      refine (pick_z w.heap.size A m c q6 20 _ hq8 (by omega) (by omega) (by omega)).mono ?_
      rintro e w7 ⟨k7, rfl, hk7, hd7⟩
      obtain ⟨q7, h71, h72, hq7⟩ := hd7.rdr
      have hw7 : Below w.heap.size w w7 := hw8.grown hd7.grown hw8.size (fun k hk => by have := Option.some.inj hk; omega)
      have hO7 := hO8.drawn hg2 hd7.grown
      have hs7 := hd7.grown.size
      have hs27 : w2.heap.size ≤ w7.heap.size := by rw [hss] at hs7; omega
      by_cases hk70 : k7 = 0
      · have hkd7 : ((k7 : Int) == 0) = true := by simp [hk70]
        clear hk70
        go_wp2
        go_loopw [4] (fun v W => ∃ (lo : List X) (q : Nat), OwnG W w2.heap.size v lo ∧ FitXs lo ∧ lo.length ≤ 8 ∧ q + (9 - lo.length) ≤ 2000 ∧ Rdr W w.heap.size A m c q ∧ w2.heap.size ≤ W.heap.size ∧ Below w.heap.size w W) (fun v _ => 9 - sliceLen v)
        case atStart => exact ⟨ls, q7, hO7, hfs, by omega, by omega, hq7, hs27, hw7⟩
        case round =>
          obtain ⟨lo, q, hO, hfo, hlo, hqb, hq, hsr, hb⟩ := hrel
          obtain ⟨Ao, co, rfl, hy1, hy2, hy3⟩ := hO.read
          clear hy1 hy2 hy3
          by_cases h6 : lo.length ≤ 6
          · have hd6 : decide (lo.length ≤ 6) = true := decide_eq_true h6
            have hd6i : decide ((lo.length : Int) ≤ 6) = true := decide_eq_true (by omega)
            have hqw := hq.lt
            go_wp2_with fail
            refine (of_d w.heap.size A m c q wr.heap.size ssZ _ (hq.alloc _) (by omega) (by omega) (heap_alloc_new wr _) 3 rfl (by omega) (by omega)).mono ?_
            rintro e w8 ⟨s, rfl, hs, hd8⟩
            obtain ⟨q8, h81, h82, hq8⟩ := hd8.rdr
            have hbZ := below_alloc hb (.cells #[.string ⟨#[120]⟩, .string ⟨#[121]⟩, .string ⟨#[122]⟩] 9)
            have hw8 : Below w.heap.size w w8 := hbZ.grown hd8.grown hbZ.size (fun k hk => by have := Option.some.inj hk; omega)
            have hO8 := (hO.alloc (.cells #[.string ⟨#[120]⟩, .string ⟨#[121]⟩, .string ⟨#[122]⟩] 9)).drawn hg2 hd8.grown
            clear hs7
            have hs8 := hd8.grown.size
            rw [World.size_alloc] at hs8
            have hsw : w2.heap.size ≤ w8.heap.size := by omega
            have hkz := ssZ_small s hs
            have hsz1 := ssZ_size s hs
            have hns : ¬ (9223372036854775807 < 1 + s.size) := by omega
            obtain ⟨x, HX⟩ : ∃ x : X, Hid (x = ⟨(⟨#[122]⟩ : ByteArray) ++ s, 0, false⟩) := ⟨_, Lib.hid rfl⟩
            have HFX : Hid (FitXs (lo ++ [x])) := fun r hr => by
              rcases List.mem_append.1 hr with hr | hr
              · exact hfo r hr
              · rw [List.mem_singleton] at hr; subst hr; rw [HX.out]; exact ⟨hkz, (by decide : (-9223372036854775808 : Int) ≤ 0), (by decide : (0 : Int) ≤ 9223372036854775807)⟩
            have hex := HX.out
            have hxk : (⟨#[122]⟩ : ByteArray) ++ s = x.k := by rw [hex]
            have hxn : (0 : Int) = x.n := by rw [hex]
            have hxg : false = x.g := by rw [hex]
            clear hex
            have hba : w2.heap.size ≤ (w8.alloc (.cells #[.string x.k, .int .i64 x.n, .bool x.g] 58)).heap.size := by rw [World.size_alloc]; omega
            have hR1 := rdOneX w8 x 58
            rw [← hxk, ← hxn, ← hxg] at hba hR1
            clear hxk hxn hxg
            go_wp2_with ((at_builtin; refine wpList_appG (α := X) (w8.alloc (.cells #[.string ((⟨#[122]⟩ : ByteArray) ++ s), .int .i64 0, .bool false] 58)) rfl _ _ _ _ 58 rfl Try.underlying44 Try.underlying44 w2.heap.size _ lo rfl (hO8.alloc _) (some ⟨w8.heap.size, 0, none⟩) 1 _ 1 [x] rfl rfl hR1 (by rw [List.length_singleton]; omega) hba ?_; intro v9 w9 hv9 hg9 hat9))
            have hbX : Below w2.heap.size (w8.alloc (.cells #[.string ((⟨#[122]⟩ : ByteArray) ++ s), .int .i64 0, .bool false] 58)) w9 := (Below.refl _ _).grown hg9 hba (fun k hk => (hO8.block_lt hk).1)
            have hw9 := ((below_alloc hw8 _).grown hg9 (below_alloc hw8 _).size (fun k hk => by have := (hO8.block_lt hk).1; omega))
            have hq9 := (hq8.alloc _).belowR hbX hg2
            obtain ⟨A9, c9, rfl, hz1, hz2, hz3⟩ := hv9.read
            clear hz1 hz2 hz3
            go_roundw
            case rel => exact ⟨lo ++ [x], q8, hv9, HFX.out, by rw [List.length_append, List.length_singleton]; omega, by rw [List.length_append, List.length_singleton]; omega, hq9, by have := hg9.size; rw [World.size_alloc] at this; omega, hw9⟩
            case measure => simp [sliceLen]; omega
          · have hd6 : decide (lo.length ≤ 6) = false := decide_eq_false h6
            have hd6i : decide ((lo.length : Int) ≤ 6) = false := decide_eq_false (by omega)
            go_wp2
            go_ret
            exact ⟨_, lo, rfl, hO.low hs2, hfo, by omega, hb⟩
      · have hkd7 : ((k7 : Int) == 0) = false := by simp; omega
        go_wp2
        go_ret
        exact ⟨_, ls, rfl, hO7.low hs2, hfs, by omega, hw7⟩
    · have hkd5 : ((k5 : Int) == 0) = false := by simp; omega
      go_wp2_with fail
      refine (pick_z w.heap.size A m c q5 20 w5 hq5 (by omega) (by omega) (by omega)).mono ?_
      rintro e w7 ⟨k7, rfl, hk7, hd7⟩
      obtain ⟨q7, h71, h72, hq7⟩ := hd7.rdr
      have hw7 : Below w.heap.size w w7 := hw5.grown hd7.grown hw5.size (fun k hk => by have := Option.some.inj hk; omega)
      have hO7 := hO5.drawn hg2 hd7.grown
      have hs7 := hd7.grown.size
      have hs27 : w2.heap.size ≤ w7.heap.size := by omega
      by_cases hk70 : k7 = 0
      · have hkd7 : ((k7 : Int) == 0) = true := by simp [hk70]
        clear hk70
        go_wp2
        go_loopw [4] (fun v W => ∃ (lo : List X) (q : Nat), OwnG W w2.heap.size v lo ∧ FitXs lo ∧ lo.length ≤ 8 ∧ q + (9 - lo.length) ≤ 2000 ∧ Rdr W w.heap.size A m c q ∧ w2.heap.size ≤ W.heap.size ∧ Below w.heap.size w W) (fun v _ => 9 - sliceLen v)
        case atStart => exact ⟨l3, q7, hO7, hf3, by omega, by omega, hq7, hs27, hw7⟩
        case round =>
          obtain ⟨lo, q, hO, hfo, hlo, hqb, hq, hsr, hb⟩ := hrel
          obtain ⟨Ao, co, rfl, hy1, hy2, hy3⟩ := hO.read
          clear hy1 hy2 hy3
          by_cases h6 : lo.length ≤ 6
          · have hd6 : decide (lo.length ≤ 6) = true := decide_eq_true h6
            have hd6i : decide ((lo.length : Int) ≤ 6) = true := decide_eq_true (by omega)
            have hqw := hq.lt
            go_wp2_with fail
            refine (of_d w.heap.size A m c q wr.heap.size ssZ _ (hq.alloc _) (by omega) (by omega) (heap_alloc_new wr _) 3 rfl (by omega) (by omega)).mono ?_
            rintro e w8 ⟨s, rfl, hs, hd8⟩
            obtain ⟨q8, h81, h82, hq8⟩ := hd8.rdr
            have hbZ := below_alloc hb (.cells #[.string ⟨#[120]⟩, .string ⟨#[121]⟩, .string ⟨#[122]⟩] 9)
            have hw8 : Below w.heap.size w w8 := hbZ.grown hd8.grown hbZ.size (fun k hk => by have := Option.some.inj hk; omega)
            have hO8 := (hO.alloc (.cells #[.string ⟨#[120]⟩, .string ⟨#[121]⟩, .string ⟨#[122]⟩] 9)).drawn hg2 hd8.grown
            clear hs7
            have hs8 := hd8.grown.size
            rw [World.size_alloc] at hs8
            have hsw : w2.heap.size ≤ w8.heap.size := by omega
            have hkz := ssZ_small s hs
            have hsz1 := ssZ_size s hs
            have hns : ¬ (9223372036854775807 < 1 + s.size) := by omega
            obtain ⟨x, HX⟩ : ∃ x : X, Hid (x = ⟨(⟨#[122]⟩ : ByteArray) ++ s, 0, false⟩) := ⟨_, Lib.hid rfl⟩
            have HFX : Hid (FitXs (lo ++ [x])) := fun r hr => by
              rcases List.mem_append.1 hr with hr | hr
              · exact hfo r hr
              · rw [List.mem_singleton] at hr; subst hr; rw [HX.out]; exact ⟨hkz, (by decide : (-9223372036854775808 : Int) ≤ 0), (by decide : (0 : Int) ≤ 9223372036854775807)⟩
            have hex := HX.out
            have hxk : (⟨#[122]⟩ : ByteArray) ++ s = x.k := by rw [hex]
            have hxn : (0 : Int) = x.n := by rw [hex]
            have hxg : false = x.g := by rw [hex]
            clear hex
            have hba : w2.heap.size ≤ (w8.alloc (.cells #[.string x.k, .int .i64 x.n, .bool x.g] 58)).heap.size := by rw [World.size_alloc]; omega
            have hR1 := rdOneX w8 x 58
            rw [← hxk, ← hxn, ← hxg] at hba hR1
            clear hxk hxn hxg
            go_wp2_with ((at_builtin; refine wpList_appG (α := X) (w8.alloc (.cells #[.string ((⟨#[122]⟩ : ByteArray) ++ s), .int .i64 0, .bool false] 58)) rfl _ _ _ _ 58 rfl Try.underlying44 Try.underlying44 w2.heap.size _ lo rfl (hO8.alloc _) (some ⟨w8.heap.size, 0, none⟩) 1 _ 1 [x] rfl rfl hR1 (by rw [List.length_singleton]; omega) hba ?_; intro v9 w9 hv9 hg9 hat9))
            have hbX : Below w2.heap.size (w8.alloc (.cells #[.string ((⟨#[122]⟩ : ByteArray) ++ s), .int .i64 0, .bool false] 58)) w9 := (Below.refl _ _).grown hg9 hba (fun k hk => (hO8.block_lt hk).1)
            have hw9 := ((below_alloc hw8 _).grown hg9 (below_alloc hw8 _).size (fun k hk => by have := (hO8.block_lt hk).1; omega))
            have hq9 := (hq8.alloc _).belowR hbX hg2
            obtain ⟨A9, c9, rfl, hz1, hz2, hz3⟩ := hv9.read
            clear hz1 hz2 hz3
            go_roundw
            case rel => exact ⟨lo ++ [x], q8, hv9, HFX.out, by rw [List.length_append, List.length_singleton]; omega, by rw [List.length_append, List.length_singleton]; omega, hq9, by have := hg9.size; rw [World.size_alloc] at this; omega, hw9⟩
            case measure => simp [sliceLen]; omega
          · have hd6 : decide (lo.length ≤ 6) = false := decide_eq_false h6
            have hd6i : decide ((lo.length : Int) ≤ 6) = false := decide_eq_false (by omega)
            go_wp2
            go_ret
            exact ⟨_, lo, rfl, hO.low hs2, hfo, by omega, hb⟩
      · have hkd7 : ((k7 : Int) == 0) = false := by simp; omega
        go_wp2
        go_ret
        exact ⟨_, l3, rfl, hO7.low hs2, hf3, by omega, hw7⟩
  · have hld : decide (0 < l3.length) = false := decide_eq_false hl0
    have hldi : decide ((0 : Int) < (l3.length : Int)) = false := decide_eq_false (by omega)
    go_wp2_with fail
    refine (pick_z w.heap.size A m c q3 20 w3 hq3 (by omega) (by omega) (by omega)).mono ?_
    rintro e w7 ⟨k7, rfl, hk7, hd7⟩
    obtain ⟨q7, h71, h72, hq7⟩ := hd7.rdr
    have hw7 : Below w.heap.size w w7 := hw3.grown hd7.grown hw3.size (fun k hk => by have := Option.some.inj hk; omega)
    have hO7 := hO3.drawn hg2 hd7.grown
    have hs7 := hd7.grown.size
    have hs27 : w2.heap.size ≤ w7.heap.size := by omega
    by_cases hk70 : k7 = 0
    · have hkd7 : ((k7 : Int) == 0) = true := by simp [hk70]
      clear hk70
      go_wp2
      go_loopw [4] (fun v W => ∃ (lo : List X) (q : Nat), OwnG W w2.heap.size v lo ∧ FitXs lo ∧ lo.length ≤ 8 ∧ q + (9 - lo.length) ≤ 2000 ∧ Rdr W w.heap.size A m c q ∧ w2.heap.size ≤ W.heap.size ∧ Below w.heap.size w W) (fun v _ => 9 - sliceLen v)
      case atStart => exact ⟨l3, q7, hO7, hf3, by omega, by omega, hq7, hs27, hw7⟩
      case round =>
        obtain ⟨lo, q, hO, hfo, hlo, hqb, hq, hsr, hb⟩ := hrel
        obtain ⟨Ao, co, rfl, hy1, hy2, hy3⟩ := hO.read
        clear hy1 hy2 hy3
        by_cases h6 : lo.length ≤ 6
        · have hd6 : decide (lo.length ≤ 6) = true := decide_eq_true h6
          have hd6i : decide ((lo.length : Int) ≤ 6) = true := decide_eq_true (by omega)
          have hqw := hq.lt
          go_wp2_with fail
          refine (of_d w.heap.size A m c q wr.heap.size ssZ _ (hq.alloc _) (by omega) (by omega) (heap_alloc_new wr _) 3 rfl (by omega) (by omega)).mono ?_
          rintro e w8 ⟨s, rfl, hs, hd8⟩
          obtain ⟨q8, h81, h82, hq8⟩ := hd8.rdr
          have hbZ := below_alloc hb (.cells #[.string ⟨#[120]⟩, .string ⟨#[121]⟩, .string ⟨#[122]⟩] 9)
          have hw8 : Below w.heap.size w w8 := hbZ.grown hd8.grown hbZ.size (fun k hk => by have := Option.some.inj hk; omega)
          have hO8 := (hO.alloc (.cells #[.string ⟨#[120]⟩, .string ⟨#[121]⟩, .string ⟨#[122]⟩] 9)).drawn hg2 hd8.grown
          clear hs7
          have hs8 := hd8.grown.size
          rw [World.size_alloc] at hs8
          have hsw : w2.heap.size ≤ w8.heap.size := by omega
          have hkz := ssZ_small s hs
          have hsz1 := ssZ_size s hs
          have hns : ¬ (9223372036854775807 < 1 + s.size) := by omega
          obtain ⟨x, HX⟩ : ∃ x : X, Hid (x = ⟨(⟨#[122]⟩ : ByteArray) ++ s, 0, false⟩) := ⟨_, Lib.hid rfl⟩
          have HFX : Hid (FitXs (lo ++ [x])) := fun r hr => by
            rcases List.mem_append.1 hr with hr | hr
            · exact hfo r hr
            · rw [List.mem_singleton] at hr; subst hr; rw [HX.out]; exact ⟨hkz, (by decide : (-9223372036854775808 : Int) ≤ 0), (by decide : (0 : Int) ≤ 9223372036854775807)⟩
          have hex := HX.out
          have hxk : (⟨#[122]⟩ : ByteArray) ++ s = x.k := by rw [hex]
          have hxn : (0 : Int) = x.n := by rw [hex]
          have hxg : false = x.g := by rw [hex]
          clear hex
          have hba : w2.heap.size ≤ (w8.alloc (.cells #[.string x.k, .int .i64 x.n, .bool x.g] 58)).heap.size := by rw [World.size_alloc]; omega
          have hR1 := rdOneX w8 x 58
          rw [← hxk, ← hxn, ← hxg] at hba hR1
          clear hxk hxn hxg
          go_wp2_with ((at_builtin; refine wpList_appG (α := X) (w8.alloc (.cells #[.string ((⟨#[122]⟩ : ByteArray) ++ s), .int .i64 0, .bool false] 58)) rfl _ _ _ _ 58 rfl Try.underlying44 Try.underlying44 w2.heap.size _ lo rfl (hO8.alloc _) (some ⟨w8.heap.size, 0, none⟩) 1 _ 1 [x] rfl rfl hR1 (by rw [List.length_singleton]; omega) hba ?_; intro v9 w9 hv9 hg9 hat9))
          have hbX : Below w2.heap.size (w8.alloc (.cells #[.string ((⟨#[122]⟩ : ByteArray) ++ s), .int .i64 0, .bool false] 58)) w9 := (Below.refl _ _).grown hg9 hba (fun k hk => (hO8.block_lt hk).1)
          have hw9 := ((below_alloc hw8 _).grown hg9 (below_alloc hw8 _).size (fun k hk => by have := (hO8.block_lt hk).1; omega))
          have hq9 := (hq8.alloc _).belowR hbX hg2
          obtain ⟨A9, c9, rfl, hz1, hz2, hz3⟩ := hv9.read
          clear hz1 hz2 hz3
          go_roundw
          case rel => exact ⟨lo ++ [x], q8, hv9, HFX.out, by rw [List.length_append, List.length_singleton]; omega, by rw [List.length_append, List.length_singleton]; omega, hq9, by have := hg9.size; rw [World.size_alloc] at this; omega, hw9⟩
          case measure => simp [sliceLen]; omega
        · have hd6 : decide (lo.length ≤ 6) = false := decide_eq_false h6
          have hd6i : decide ((lo.length : Int) ≤ 6) = false := decide_eq_false (by omega)
          go_wp2
          go_ret
          exact ⟨_, lo, rfl, hO.low hs2, hfo, by omega, hb⟩
    · have hkd7 : ((k7 : Int) == 0) = false := by simp; omega
      go_wp2
      go_ret
      exact ⟨_, l3, rfl, hO7.low hs2, hf3, by omega, hw7⟩

end Go.Proofs.Ytbhdgalkedegjaa
