/- A letter that is one; its bytes, and those of letters: the model's functions and the program's. -/
import Derived.Test.YtilcncnhkidndaaDoorL5b
namespace Go.Proofs.YtilcncnhkidndaaDoor
open Go.RowKit
set_option linter.unusedVariables false
set_option maxRecDepth 100000

theorem allT (p : UInt8 → Bool) (s : ByteArray) (k : Nat) (h : k < s.size) (ha : ((bs s).take k).all p = true) (hl : p s[k] = true) : ((bs s).take (k + 1)).all p = true := by
 have : (bs s).take (k + 1) = (bs s).take k ++ [s[k]] := take_snoc s k h
 rw [this, List.all_append, ha]; simp [hl]
theorem allBad (p : UInt8 → Bool) (s : ByteArray) (k : Nat) (h : k < s.size) (hl : p s[k] = false) : (bs s).all p = false := by
 rw [List.all_eq_false]
 exact ⟨s[k], by rw [show s[k] = s.data.toList[k]'(by simpa using h) from rfl]; exact List.getElem_mem _, by simp [hl]⟩
theorem allFull (p : UInt8 → Bool) (s : ByteArray) (k : Nat) (h : ¬ k < s.size) (ha : ((bs s).take k).all p = true) : (bs s).all p = true := by
 rwa [List.take_of_length_le (by rw [bs_length]; omega)] at ha

theorem implDig (c : UInt8) (w : World) : Calls Tryd.prog 50 #[.int .u8 c.toNat] w fun e w' => e = .returned (.bool (digB c)) ∧ w' = w := by
 go_enter Tryd.func50, Tryd.ntmps50
 go_wp2
 all_goals (go_ret; exact ⟨ret_bool (by unfold digB; rw [Bool.eq_iff_iff]; simp <;> omega), rfl⟩)
theorem implSg (c : UInt8) (w : World) : Calls Tryd.prog 35 #[.int .u8 c.toNat] w fun e w' => e = .returned (.bool (sgB c)) ∧ w' = w := by
 by_cases h1 : 65 ≤ c.toNat
 ·
  by_cases h2 : c.toNat ≤ 90
  ·
   have HS : sgB c = true := by unfold sgB; simp [h1, h2]
   rw [HS]
   go_enter Tryd.func35, Tryd.ntmps35
   go_wp2
   go_ret
   exact ⟨rfl, rfl⟩
  ·
   have HS : sgB c = digB c := by unfold sgB; simp [h2]
   have d2 : decide ((c.toNat : Int) ≤ 90) = false := by simp; omega
   rw [HS]
   go_enter Tryd.func35, Tryd.ntmps35
   go_wp2_with (go_at_call 50; refine (implDig c _).mono ?_; rintro e w' ⟨rfl, rfl⟩)
   go_ret
   exact ⟨rfl, rfl⟩
 ·
  have HS : sgB c = digB c := by unfold sgB; simp [h1]
  rw [HS]
  go_enter Tryd.func35, Tryd.ntmps35
  go_wp2_with (go_at_call 50; refine (implDig c _).mono ?_; rintro e w' ⟨rfl, rfl⟩)
  go_ret
  exact ⟨rfl, rfl⟩
theorem implBd (c : UInt8) (w : World) : Calls Tryd.prog 36 #[.int .u8 c.toNat] w fun e w' => e = .returned (.bool (bdB c)) ∧ w' = w := by
 go_enter Tryd.func36, Tryd.ntmps36
 go_wp2
 all_goals (go_ret; exact ⟨ret_bool (by unfold bdB; rw [Bool.eq_iff_iff]; simp <;> omega), rfl⟩)
theorem specSg (c : UInt8) (w : World) : Calls Tryd.prog 37 #[.int .u8 c.toNat] w fun e w' => e = .returned (.bool (sgB c)) ∧ w' = w := by
 go_enter Tryd.func37, Tryd.ntmps37
 go_wp2
 all_goals (go_ret; exact ⟨ret_bool (by unfold sgB digB; rw [Bool.eq_iff_iff]; simp <;> omega), rfl⟩)
theorem specBd (c : UInt8) (w : World) : Calls Tryd.prog 38 #[.int .u8 c.toNat] w fun e w' => e = .returned (.bool (bdB c)) ∧ w' = w := by
 go_enter Tryd.func38, Tryd.ntmps38
 go_wp2
 all_goals (go_ret; exact ⟨ret_bool (by unfold bdB; rw [Bool.eq_iff_iff]; simp <;> omega), rfl⟩)

theorem okB_s {s b : ByteArray} (h : s.size ≠ 1) : okB ⟨s, b⟩ = false := by unfold okB; simp [h]
theorem okB_g {s b : ByteArray} (h1 : 0 < s.size) (h : sgB s[0] = false) : okB ⟨s, b⟩ = false := by unfold okB; rw [allBad sgB s 0 h1 h]; simp
theorem okB_l {s b : ByteArray} (h : ¬ b.size ≤ 40) : okB ⟨s, b⟩ = false := by unfold okB; simp [h]
theorem okB_b {s b : ByteArray} {k : Nat} (h1 : k < b.size) (h : bdB b[k] = false) : okB ⟨s, b⟩ = false := by unfold okB; rw [allBad bdB b k h1 h]; simp
theorem okB_y {s b : ByteArray} (h1 : s.size = 1) (h0 : 0 < s.size) (hg : sgB s[0] = true) (h : b.size ≤ 40) (ha : (bs b).all bdB = true) : okB ⟨s, b⟩ = true := by
 have : (bs s).all sgB = true := by
  have := allT sgB s 0 h0 rfl hg
  rwa [List.take_of_length_le (by rw [bs_length]; omega)] at this
 unfold okB; rw [this, ha]; simp [h1, h]

set_option maxHeartbeats 2000000 in
theorem implLOk (l : LE) (w : World) (hl : FitLE l) : Calls Tryd.prog 15 #[.agg #[.string l.s, .string l.b]] w fun e w' => e = .returned (.bool (okB l)) ∧ Below w.heap.size w w' := by
 obtain ⟨s, b⟩ := l
 obtain ⟨hs, hl2⟩ := hl
 dsimp only at hs hl2 ⊢
 unfold maxLen at hs hl2
 obtain ⟨W, e0, hz, Bl, hb⟩ := al1 w rfl #[.string s, .string b] 24
 have q0 : W.cell? ⟨w.heap.size, 0, none⟩ = some (.string s) := Bl.cell 0
 have q1 : W.cell? ⟨w.heap.size, 1, none⟩ = some (.string b) := Bl.cell 1
 clear Bl
 by_cases h1 : s.size = 1
 ·
  have h0 : 0 < s.size := by omega
  have d1 : ((s.size : Int) != 1) = false := by simp; omega
  cases hg : sgB s[0]
  ·
   have HG := Lib.hid hg
   have HO := Lib.hid (okB_g (b := b) h0 hg)
   clear hg h1
   go_enter Tryd.func15, Tryd.ntmps15
   go_wp2_with (go_at_call 35; refine (implSg s[0] _).mono ?_; rw [HG.out]; rintro e w' ⟨rfl, rfl⟩)
   go_ret
   exact ⟨ret_bool HO.out.symm, hb⟩
  ·
   have HG := Lib.hid hg
   have H1 := Lib.hid h1
   clear hg h1
   by_cases h40 : b.size ≤ 40
   ·
    have d2 : decide (40 < (b.size : Int)) = false := by simp; omega
    go_enter Tryd.func15, Tryd.ntmps15
    go_wp2_with (go_at_call 35; refine (implSg s[0] _).mono ?_; rw [HG.out]; rintro e w' ⟨rfl, rfl⟩)
    go_loop [24] (fun i => ∃ k : Nat, k ≤ b.size ∧ i = .int .i64 k ∧ ((bs b).take k).all bdB = true) (fun i => b.size - (intOf i).toNat)
    case atStart => exact ⟨0, Nat.zero_le _, rfl, rfl⟩
    case round =>
     obtain ⟨k, hk, rfl, hall0⟩ := hrel
     have HA := Lib.hid hall0
     clear hall0
     by_cases hlt : k < b.size
     ·
      cases hc : bdB b[k]
      ·
       have HO := Lib.hid (okB_b (s := s) hlt hc)
       have HC := Lib.hid hc
       clear hc
       go_wp2_with (go_at_call 36; refine (implBd b[k] _).mono ?_; rw [HC.out]; rintro e w' ⟨rfl, rfl⟩)
       go_ret
       exact ⟨ret_bool HO.out.symm, hb⟩
      ·
       have HC := Lib.hid hc
       clear hc
       go_wp2_with (go_at_call 36; refine (implBd b[k] _).mono ?_; rw [HC.out]; rintro e w' ⟨rfl, rfl⟩)
       go_round
       case rel => exact ⟨k + 1, by omega, by go_num, allT bdB b k hlt HA.out HC.out⟩
       case measure => simp [intOf]; omega
     ·
      have HO := Lib.hid (okB_y H1.out h0 HG.out h40 (allFull bdB b k hlt HA.out))
      go_wp2
      go_ret
      exact ⟨ret_bool HO.out.symm, hb⟩
   ·
    have d2 : decide (40 < (b.size : Int)) = true := by simp; omega
    have HO := Lib.hid (okB_l (s := s) h40)
    go_enter Tryd.func15, Tryd.ntmps15
    go_wp2_with (go_at_call 35; refine (implSg s[0] _).mono ?_; rw [HG.out]; rintro e w' ⟨rfl, rfl⟩)
    go_ret
    exact ⟨ret_bool HO.out.symm, hb⟩
 ·
  have d1 : ((s.size : Int) != 1) = true := by simp; omega
  have HO := Lib.hid (okB_s (b := b) h1)
  go_enter Tryd.func15, Tryd.ntmps15
  go_wp2
  go_ret
  exact ⟨ret_bool HO.out.symm, hb⟩

set_option maxHeartbeats 2000000 in
theorem specLOk (l : LE) (w : World) (hl : FitLE l) : Calls Tryd.prog 16 #[.agg #[.string l.s, .string l.b]] w fun e w' => e = .returned (.bool (okB l)) ∧ Below w.heap.size w w' := by
 obtain ⟨s, b⟩ := l
 obtain ⟨hs, hl2⟩ := hl
 dsimp only at hs hl2 ⊢
 unfold maxLen at hs hl2
 obtain ⟨W, e0, hz, Bl, hb⟩ := al1 w rfl #[.string s, .string b] 24
 have q0 : W.cell? ⟨w.heap.size, 0, none⟩ = some (.string s) := Bl.cell 0
 have q1 : W.cell? ⟨w.heap.size, 1, none⟩ = some (.string b) := Bl.cell 1
 clear Bl
 by_cases h1 : s.size = 1
 ·
  have h0 : 0 < s.size := by omega
  have d1 : ((s.size : Int) != 1) = false := by simp; omega
  cases hg : sgB s[0]
  ·
   have HG := Lib.hid hg
   have HO := Lib.hid (okB_g (b := b) h0 hg)
   clear hg h1
   go_enter Tryd.func16, Tryd.ntmps16
   go_wp2_with (go_at_call 37; refine (specSg s[0] _).mono ?_; rw [HG.out]; rintro e w' ⟨rfl, rfl⟩)
   go_ret
   exact ⟨ret_bool HO.out.symm, hb⟩
  ·
   have HG := Lib.hid hg
   have H1 := Lib.hid h1
   clear hg h1
   by_cases h40 : b.size ≤ 40
   ·
    have d2 : decide (40 < (b.size : Int)) = false := by simp; omega
    go_enter Tryd.func16, Tryd.ntmps16
    go_wp2_with (go_at_call 37; refine (specSg s[0] _).mono ?_; rw [HG.out]; rintro e w' ⟨rfl, rfl⟩)
    go_loop [3] (fun i => ∃ k : Nat, k ≤ b.size ∧ i = .int .i64 k ∧ ((bs b).take k).all bdB = true) (fun i => b.size - (intOf i).toNat)
    case atStart => exact ⟨0, Nat.zero_le _, rfl, rfl⟩
    case round =>
     obtain ⟨k, hk, rfl, hall0⟩ := hrel
     have HA := Lib.hid hall0
     clear hall0
     by_cases hlt : k < b.size
     ·
      cases hc : bdB b[k]
      ·
       have HO := Lib.hid (okB_b (s := s) hlt hc)
       have HC := Lib.hid hc
       clear hc
       go_wp2_with (go_at_call 38; refine (specBd b[k] _).mono ?_; rw [HC.out]; rintro e w' ⟨rfl, rfl⟩)
       go_ret
       exact ⟨ret_bool HO.out.symm, hb⟩
      ·
       have HC := Lib.hid hc
       clear hc
       go_wp2_with (go_at_call 38; refine (specBd b[k] _).mono ?_; rw [HC.out]; rintro e w' ⟨rfl, rfl⟩)
       go_round
       case rel => exact ⟨k + 1, by omega, by go_num, allT bdB b k hlt HA.out HC.out⟩
       case measure => simp [intOf]; omega
     ·
      have HO := Lib.hid (okB_y H1.out h0 HG.out h40 (allFull bdB b k hlt HA.out))
      go_wp2
      go_ret
      exact ⟨ret_bool HO.out.symm, hb⟩
   ·
    have d2 : decide (40 < (b.size : Int)) = true := by simp; omega
    have HO := Lib.hid (okB_l (s := s) h40)
    go_enter Tryd.func16, Tryd.ntmps16
    go_wp2_with (go_at_call 37; refine (specSg s[0] _).mono ?_; rw [HG.out]; rintro e w' ⟨rfl, rfl⟩)
    go_ret
    exact ⟨ret_bool HO.out.symm, hb⟩
 ·
  have d1 : ((s.size : Int) != 1) = true := by simp; omega
  have HO := Lib.hid (okB_s (b := b) h1)
  go_enter Tryd.func16, Tryd.ntmps16
  go_wp2
  go_ret
  exact ⟨ret_bool HO.out.symm, hb⟩

end Go.Proofs.YtilcncnhkidndaaDoor
