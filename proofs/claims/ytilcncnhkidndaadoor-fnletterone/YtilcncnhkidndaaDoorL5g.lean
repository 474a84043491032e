/- The first letter is taken: the model. -/
import Derived.Test.YtilcncnhkidndaaDoorL5f
import Derived.Deep.QuietTactic
import Derived.BigQuiet
namespace Go.Proofs.YtilcncnhkidndaaDoor
open Go.RowKit
set_option linter.unusedVariables false
set_option maxRecDepth 100000

def digV (c : UInt8) : Int := if digB c then (dg c : Int) else -1
theorem digV_yes {c : UInt8} (h : digB c = true) : digV c = (dg c : Int) := by unfold digV; rw [h]; rfl
theorem digV_no {c : UInt8} (h : digB c = false) : digV c = -1 := by unfold digV; rw [h]; rfl
set_option maxHeartbeats 1000000 in
theorem specDig (c : UInt8) (w : World) : Calls Tryd.prog 55 #[.int .u8 c.toNat] w fun e w' => e = .returned (.int .i64 (digV c)) ∧ w = w' := by
 by_cases h1 : c.toNat < 48
 ·
  have HV := Lib.hid (digV_no (c := c) (by unfold digB; simp; omega))
  have d1 : decide ((c.toNat : Int) < 48) = true := by simp; omega
  go_enter Tryd.func55, Tryd.ntmps55
  go_wp2
  go_ret
  exact ⟨ret_int HV.out.symm, rfl⟩
 ·
  have d1 : decide ((c.toNat : Int) < 48) = false := by simp; omega
  by_cases h2 : 57 < c.toNat
  ·
   have HV := Lib.hid (digV_no (c := c) (by unfold digB; simp; omega))
   have d2 : decide (57 < (c.toNat : Int)) = true := by simp; omega
   go_enter Tryd.func55, Tryd.ntmps55
   go_wp2
   go_ret
   exact ⟨ret_int HV.out.symm, rfl⟩
  ·
   have d2 : decide (57 < (c.toNat : Int)) = false := by simp; omega
   have HV := Lib.hid (digV_yes (c := c) (by unfold digB; simp; omega))
   have hsub : IntKind.u8.wrap ((c.toNat : Int) - 48) = (c.toNat : Int) - 48 := by rw [IntKind.wrap_u8]; omega
   go_enter Tryd.func55, Tryd.ntmps55
   go_wp2
   go_ret
   exact ⟨ret_int (by rw [HV.out]; unfold dg; omega), rfl⟩

/-- the head: how long the body is, and how that ended -/
def headC (x : Bs) : Nat := if goodTo x (min x.length 3) then (if x.length < 3 then 1 else 0) else 2
theorem headC_bad {x : Bs} {j : Nat} (h1 : j < x.length) (h3 : j < 3) (h : okAt x j = false) : headC x = 2 := by
 unfold headC
 rw [if_neg]
 intro hg
 have := hg j (by omega)
 rw [h] at this; cases this
theorem headC_wait {x : Bs} (h : x.length < 3) (hg : goodTo x x.length) : headC x = 1 := by
 unfold headC
 rw [if_pos (hg.less (by omega)), if_pos h]
theorem headC_fine {x : Bs} (h : 3 ≤ x.length) (hg : goodTo x 3) : headC x = 0 := by
 unfold headC
 rw [if_pos (hg.less (by omega)), if_neg (by omega)]
def headN (x : Bs) : Nat := if headC x = 0 then lenL x else 0
def RetHead (w : World) (x : Bs) (e : Ending) (w' : World) : Prop := e = .returned (.tuple #[.int .i64 (headN x), .int .i64 (headC x)]) ∧ Below w.heap.size w w'
theorem RetHead.no {w w' : World} {x : Bs} {c : Nat} (h : headC x = c) (h0 : c ≠ 0) (hb : Below w.heap.size w w') : RetHead w x (.returned (.tuple #[.int .i64 0, .int .i64 c])) w' := by
 refine ⟨?_, hb⟩
 unfold headN
 rw [if_neg (by omega), h]; rfl
theorem RetHead.fine {w w' : World} {x : Bs} {n : Int} (h : headC x = 0) (hn : n = (lenL x : Nat)) (hb : Below w.heap.size w w') : RetHead w x (.returned (.tuple #[.int .i64 n, .int .i64 0])) w' := by
 refine ⟨?_, hb⟩
 unfold headN
 rw [if_pos h, h, hn]; rfl
theorem ok0 {x : Bs} : okAt x 0 = sgB (bt x 0) := rfl
theorem ok1 {x : Bs} : okAt x 1 = (digB (bt x 1) && decide (10 * dg (bt x 1) ≤ 40)) := rfl
theorem ok2 {x : Bs} : okAt x 2 = (digB (bt x 2) && decide (lenL x ≤ 40)) := rfl
theorem good1 {x : Bs} (h0 : okAt x 0 = true) : goodTo x 1 := (goodTo.zero x).succ h0
theorem good2 {x : Bs} (h0 : okAt x 0 = true) (h1 : okAt x 1 = true) : goodTo x 2 := (good1 h0).succ h1
theorem good3 {x : Bs} (h0 : okAt x 0 = true) (h1 : okAt x 1 = true) (h2 : okAt x 2 = true) : goodTo x 3 := (good2 h0 h1).succ h2

-- HEAD
set_option maxHeartbeats 1000000 in
theorem head_0 (s : ByteArray) (w : World) (hs : s.size ≤ maxLen) (hn : s.size = 0) : Calls Tryd.prog 45 #[.string s] w (RetHead w (bs s)) := by
 have HC := Lib.hid (headC_wait (x := bs s) (by rw [bs_length, hn]; decide) (by rw [bs_length, hn]; exact goodTo.zero _))
 unfold maxLen at hs
 have z0 : ¬ ((0 : Int) < (s.size : Int)) := by omega
 have y0 : decide ((0 : Int) < (s.size : Int)) = false := decide_eq_false z0
 have z1 : ¬ ((1 : Int) < (s.size : Int)) := by omega
 have y1 : decide ((1 : Int) < (s.size : Int)) = false := decide_eq_false z1
 have z2 : ¬ ((2 : Int) < (s.size : Int)) := by omega
 have y2 : decide ((2 : Int) < (s.size : Int)) = false := decide_eq_false z2
 have z3 : ((s.size : Int) < 3) := by omega
 clear hn
 go_enter Tryd.func45, Tryd.ntmps45
 go_wp2
 go_ret2
 exact RetHead.no (c := 1) HC.out (by decide) (Below.refl _ _)
set_option maxHeartbeats 1000000 in
theorem head_1 (s : ByteArray) (w : World) (hs : s.size ≤ maxLen) (hn : 1 ≤ s.size) (h0 : sgB (bt (bs s) 0) = false) : Calls Tryd.prog 45 #[.string s] w (RetHead w (bs s)) := by
 have HC := Lib.hid (headC_bad (x := bs s) (j := 0) (by rw [bs_length]; omega) (by omega) h0)
 unfold maxLen at hs
 have z0 : (0 : Int) < (s.size : Int) := by omega
 have y0 : decide ((0 : Int) < (s.size : Int)) = true := decide_eq_true z0
 have q0 : 0 < s.size := by omega
 clear hn
 have SG : ∀ W, Calls Tryd.prog 37 #[.int .u8 s[0].toNat] W fun e w' => e = .returned (.bool false) ∧ w' = W := fun W => by have := specSg s[0] W; rwa [show sgB s[0] = false from by rw [← bt_s (s := s) (k := 0) q0]; exact h0] at this
 go_enter Tryd.func45, Tryd.ntmps45
 go_wp2_with fail
 refine (SG _).mono ?_
 rintro e w' ⟨rfl, hw⟩
 subst hw
 go_wp2
 go_ret2
 exact RetHead.no (c := 2) HC.out (by decide) (Below.refl _ _)
set_option maxHeartbeats 1000000 in
theorem head_2 (s : ByteArray) (w : World) (hs : s.size ≤ maxLen) (hn : s.size = 1) (h0 : sgB (bt (bs s) 0) = true) : Calls Tryd.prog 45 #[.string s] w (RetHead w (bs s)) := by
 have HC := Lib.hid (headC_wait (x := bs s) (by rw [bs_length]; omega) (by rw [bs_length, hn]; exact good1 h0))
 unfold maxLen at hs
 have z0 : (0 : Int) < (s.size : Int) := by omega
 have y0 : decide ((0 : Int) < (s.size : Int)) = true := decide_eq_true z0
 have z1 : ¬ ((1 : Int) < (s.size : Int)) := by omega
 have y1 : decide ((1 : Int) < (s.size : Int)) = false := decide_eq_false z1
 have z2 : ¬ ((2 : Int) < (s.size : Int)) := by omega
 have y2 : decide ((2 : Int) < (s.size : Int)) = false := decide_eq_false z2
 have z3 : ((s.size : Int) < 3) := by omega
 have q0 : 0 < s.size := by omega
 clear hn
 have SG : ∀ W, Calls Tryd.prog 37 #[.int .u8 s[0].toNat] W fun e w' => e = .returned (.bool true) ∧ w' = W := fun W => by have := specSg s[0] W; rwa [show sgB s[0] = true from by rw [← bt_s (s := s) (k := 0) q0]; exact h0] at this
 go_enter Tryd.func45, Tryd.ntmps45
 go_wp2_with fail
 refine (SG _).mono ?_
 rintro e w' ⟨rfl, hw⟩
 subst hw
 go_wp2
 go_ret2
 exact RetHead.no (c := 1) HC.out (by decide) (Below.refl _ _)
set_option maxHeartbeats 1000000 in
theorem head_3 (s : ByteArray) (w : World) (hs : s.size ≤ maxLen) (hn : 2 ≤ s.size) (h0 : sgB (bt (bs s) 0) = true) (h1 : digB (bt (bs s) 1) = false) : Calls Tryd.prog 45 #[.string s] w (RetHead w (bs s)) := by
 have HC := Lib.hid (headC_bad (x := bs s) (j := 1) (by rw [bs_length]; omega) (by omega) (by rw [ok1, h1]; rfl))
 unfold maxLen at hs
 have z0 : (0 : Int) < (s.size : Int) := by omega
 have y0 : decide ((0 : Int) < (s.size : Int)) = true := decide_eq_true z0
 have z1 : (1 : Int) < (s.size : Int) := by omega
 have y1 : decide ((1 : Int) < (s.size : Int)) = true := decide_eq_true z1
 have q0 : 0 < s.size := by omega
 have q1 : 1 < s.size := by omega
 clear hn
 have SG : ∀ W, Calls Tryd.prog 37 #[.int .u8 s[0].toNat] W fun e w' => e = .returned (.bool true) ∧ w' = W := fun W => by have := specSg s[0] W; rwa [show sgB s[0] = true from by rw [← bt_s (s := s) (k := 0) q0]; exact h0] at this
 have D1 : ∀ W, Calls Tryd.prog 55 #[.int .u8 s[1].toNat] W fun e w' => e = .returned (.int .i64 (-1)) ∧ W = w' := fun W => by have := specDig s[1] W; rwa [show digV s[1] = -1 from by rw [← bt_s (s := s) (k := 1) q1, digV_no h1]] at this
 go_enter Tryd.func45, Tryd.ntmps45
 go_wp2_with fail
 refine (SG _).mono ?_
 rintro e w' ⟨rfl, hw⟩
 subst hw
 go_wp2_with fail
 refine (D1 _).mono ?_
 rintro e w' ⟨rfl, hw⟩
 subst hw
 go_wp2
 go_ret2
 exact RetHead.no (c := 2) HC.out (by decide) (Below.refl _ _)
set_option maxHeartbeats 1000000 in
theorem head_4 (s : ByteArray) (w : World) (hs : s.size ≤ maxLen) (hn : 3 ≤ s.size) (h0 : sgB (bt (bs s) 0) = true) (h1 : digB (bt (bs s) 1) = true) (h2 : digB (bt (bs s) 2) = false) : Calls Tryd.prog 45 #[.string s] w (RetHead w (bs s)) := by
 have HC := Lib.hid (headC_bad (x := bs s) (j := 2) (by rw [bs_length]; omega) (by omega) (by rw [ok2, h2]; rfl))
 unfold maxLen at hs
 have z0 : (0 : Int) < (s.size : Int) := by omega
 have y0 : decide ((0 : Int) < (s.size : Int)) = true := decide_eq_true z0
 have z1 : (1 : Int) < (s.size : Int) := by omega
 have y1 : decide ((1 : Int) < (s.size : Int)) = true := decide_eq_true z1
 have z2 : (2 : Int) < (s.size : Int) := by omega
 have y2 : decide ((2 : Int) < (s.size : Int)) = true := decide_eq_true z2
 have z3 : ¬ ((s.size : Int) < 3) := by omega
 have q0 : 0 < s.size := by omega
 have q1 : 1 < s.size := by omega
 have q2 : 2 < s.size := by omega
 clear hn
 have SG : ∀ W, Calls Tryd.prog 37 #[.int .u8 s[0].toNat] W fun e w' => e = .returned (.bool true) ∧ w' = W := fun W => by have := specSg s[0] W; rwa [show sgB s[0] = true from by rw [← bt_s (s := s) (k := 0) q0]; exact h0] at this
 obtain ⟨d1, -, f1, e1⟩ := dig_nat h1
 have D1 : ∀ W, Calls Tryd.prog 55 #[.int .u8 s[1].toNat] W fun e w' => e = .returned (.int .i64 ((d1 : Int))) ∧ W = w' := fun W => by have := specDig s[1] W; rwa [show digV s[1] = (d1 : Int) from by rw [← bt_s (s := s) (k := 1) q1, digV_yes h1, e1]] at this
 have D2 : ∀ W, Calls Tryd.prog 55 #[.int .u8 s[2].toNat] W fun e w' => e = .returned (.int .i64 (-1)) ∧ W = w' := fun W => by have := specDig s[2] W; rwa [show digV s[2] = -1 from by rw [← bt_s (s := s) (k := 2) q2, digV_no h2]] at this
 have p1 : ¬ ((d1 : Int) < 0) := by omega
 go_enter Tryd.func45, Tryd.ntmps45
 go_wp2_with fail
 refine (SG _).mono ?_
 rintro e w' ⟨rfl, hw⟩
 subst hw
 go_wp2_with fail
 refine (D1 _).mono ?_
 rintro e w' ⟨rfl, hw⟩
 subst hw
 go_wp2_with fail
 refine (D2 _).mono ?_
 rintro e w' ⟨rfl, hw⟩
 subst hw
 go_wp2
 go_ret2
 exact RetHead.no (c := 2) HC.out (by decide) (Below.refl _ _)
set_option maxHeartbeats 1000000 in
theorem head_5 (s : ByteArray) (w : World) (hs : s.size ≤ maxLen) (hn : s.size = 2) (h0 : sgB (bt (bs s) 0) = true) (h1 : digB (bt (bs s) 1) = true) (hb : ¬ 10 * dg (bt (bs s) 1) ≤ 40) : Calls Tryd.prog 45 #[.string s] w (RetHead w (bs s)) := by
 have HC := Lib.hid (headC_bad (x := bs s) (j := 1) (by rw [bs_length]; omega) (by omega) (by rw [ok1, h1, decide_eq_false hb]; rfl))
 unfold maxLen at hs
 have z0 : (0 : Int) < (s.size : Int) := by omega
 have y0 : decide ((0 : Int) < (s.size : Int)) = true := decide_eq_true z0
 have z1 : (1 : Int) < (s.size : Int) := by omega
 have y1 : decide ((1 : Int) < (s.size : Int)) = true := decide_eq_true z1
 have z2 : ¬ ((2 : Int) < (s.size : Int)) := by omega
 have y2 : decide ((2 : Int) < (s.size : Int)) = false := decide_eq_false z2
 have z3 : ((s.size : Int) < 3) := by omega
 have q0 : 0 < s.size := by omega
 have q1 : 1 < s.size := by omega
 clear hn
 have SG : ∀ W, Calls Tryd.prog 37 #[.int .u8 s[0].toNat] W fun e w' => e = .returned (.bool true) ∧ w' = W := fun W => by have := specSg s[0] W; rwa [show sgB s[0] = true from by rw [← bt_s (s := s) (k := 0) q0]; exact h0] at this
 obtain ⟨d1, -, f1, e1⟩ := dig_nat h1
 have D1 : ∀ W, Calls Tryd.prog 55 #[.int .u8 s[1].toNat] W fun e w' => e = .returned (.int .i64 ((d1 : Int))) ∧ W = w' := fun W => by have := specDig s[1] W; rwa [show digV s[1] = (d1 : Int) from by rw [← bt_s (s := s) (k := 1) q1, digV_yes h1, e1]] at this
 rw [e1] at hb
 have p1 : ¬ ((d1 : Int) < 0) := by omega
 have p4 : decide (40 < (d1 : Int) * 10) = true := by simp; omega
 go_enter Tryd.func45, Tryd.ntmps45
 go_wp2_with fail
 refine (SG _).mono ?_
 rintro e w' ⟨rfl, hw⟩
 subst hw
 go_wp2_with fail
 refine (D1 _).mono ?_
 rintro e w' ⟨rfl, hw⟩
 subst hw
 go_wp2_with fail
 refine (D1 _).mono ?_
 rintro e w' ⟨rfl, hw⟩
 subst hw
 go_wp2
 go_ret2
 exact RetHead.no (c := 2) HC.out (by decide) (Below.refl _ _)
set_option maxHeartbeats 1000000 in
theorem head_6 (s : ByteArray) (w : World) (hs : s.size ≤ maxLen) (hn : 3 ≤ s.size) (h0 : sgB (bt (bs s) 0) = true) (h1 : digB (bt (bs s) 1) = true) (h2 : digB (bt (bs s) 2) = true) (hb : ¬ 10 * dg (bt (bs s) 1) ≤ 40) : Calls Tryd.prog 45 #[.string s] w (RetHead w (bs s)) := by
 have HC := Lib.hid (headC_bad (x := bs s) (j := 1) (by rw [bs_length]; omega) (by omega) (by rw [ok1, h1, decide_eq_false hb]; rfl))
 unfold maxLen at hs
 have z0 : (0 : Int) < (s.size : Int) := by omega
 have y0 : decide ((0 : Int) < (s.size : Int)) = true := decide_eq_true z0
 have z1 : (1 : Int) < (s.size : Int) := by omega
 have y1 : decide ((1 : Int) < (s.size : Int)) = true := decide_eq_true z1
 have z2 : (2 : Int) < (s.size : Int) := by omega
 have y2 : decide ((2 : Int) < (s.size : Int)) = true := decide_eq_true z2
 have z3 : ¬ ((s.size : Int) < 3) := by omega
 have q0 : 0 < s.size := by omega
 have q1 : 1 < s.size := by omega
 have q2 : 2 < s.size := by omega
 clear hn
 have SG : ∀ W, Calls Tryd.prog 37 #[.int .u8 s[0].toNat] W fun e w' => e = .returned (.bool true) ∧ w' = W := fun W => by have := specSg s[0] W; rwa [show sgB s[0] = true from by rw [← bt_s (s := s) (k := 0) q0]; exact h0] at this
 obtain ⟨d1, -, f1, e1⟩ := dig_nat h1
 obtain ⟨d2, -, f2, e2⟩ := dig_nat h2
 have D1 : ∀ W, Calls Tryd.prog 55 #[.int .u8 s[1].toNat] W fun e w' => e = .returned (.int .i64 ((d1 : Int))) ∧ W = w' := fun W => by have := specDig s[1] W; rwa [show digV s[1] = (d1 : Int) from by rw [← bt_s (s := s) (k := 1) q1, digV_yes h1, e1]] at this
 have D2 : ∀ W, Calls Tryd.prog 55 #[.int .u8 s[2].toNat] W fun e w' => e = .returned (.int .i64 ((d2 : Int))) ∧ W = w' := fun W => by have := specDig s[2] W; rwa [show digV s[2] = (d2 : Int) from by rw [← bt_s (s := s) (k := 2) q2, digV_yes h2, e2]] at this
 rw [e1] at hb
 have p1 : ¬ ((d1 : Int) < 0) := by omega
 have p4 : decide (40 < (d1 : Int) * 10) = true := by simp; omega
 have p2 : ¬ ((d2 : Int) < 0) := by omega
 go_enter Tryd.func45, Tryd.ntmps45
 go_wp2_with fail
 refine (SG _).mono ?_
 rintro e w' ⟨rfl, hw⟩
 subst hw
 go_wp2_with fail
 refine (D1 _).mono ?_
 rintro e w' ⟨rfl, hw⟩
 subst hw
 go_wp2_with fail
 refine (D2 _).mono ?_
 rintro e w' ⟨rfl, hw⟩
 subst hw
 go_wp2_with fail
 refine (D1 _).mono ?_
 rintro e w' ⟨rfl, hw⟩
 subst hw
 go_wp2
 go_ret2
 exact RetHead.no (c := 2) HC.out (by decide) (Below.refl _ _)
set_option maxHeartbeats 1000000 in
theorem head_7 (s : ByteArray) (w : World) (hs : s.size ≤ maxLen) (hn : s.size = 2) (h0 : sgB (bt (bs s) 0) = true) (h1 : digB (bt (bs s) 1) = true) (hb : 10 * dg (bt (bs s) 1) ≤ 40) : Calls Tryd.prog 45 #[.string s] w (RetHead w (bs s)) := by
 have HC := Lib.hid (headC_wait (x := bs s) (by rw [bs_length]; omega) (by rw [bs_length, hn]; exact good2 h0 (by rw [ok1, h1, decide_eq_true hb]; rfl)))
 unfold maxLen at hs
 have z0 : (0 : Int) < (s.size : Int) := by omega
 have y0 : decide ((0 : Int) < (s.size : Int)) = true := decide_eq_true z0
 have z1 : (1 : Int) < (s.size : Int) := by omega
 have y1 : decide ((1 : Int) < (s.size : Int)) = true := decide_eq_true z1
 have z2 : ¬ ((2 : Int) < (s.size : Int)) := by omega
 have y2 : decide ((2 : Int) < (s.size : Int)) = false := decide_eq_false z2
 have z3 : ((s.size : Int) < 3) := by omega
 have q0 : 0 < s.size := by omega
 have q1 : 1 < s.size := by omega
 clear hn
 have SG : ∀ W, Calls Tryd.prog 37 #[.int .u8 s[0].toNat] W fun e w' => e = .returned (.bool true) ∧ w' = W := fun W => by have := specSg s[0] W; rwa [show sgB s[0] = true from by rw [← bt_s (s := s) (k := 0) q0]; exact h0] at this
 obtain ⟨d1, -, f1, e1⟩ := dig_nat h1
 have D1 : ∀ W, Calls Tryd.prog 55 #[.int .u8 s[1].toNat] W fun e w' => e = .returned (.int .i64 ((d1 : Int))) ∧ W = w' := fun W => by have := specDig s[1] W; rwa [show digV s[1] = (d1 : Int) from by rw [← bt_s (s := s) (k := 1) q1, digV_yes h1, e1]] at this
 rw [e1] at hb
 have p1 : ¬ ((d1 : Int) < 0) := by omega
 have p4 : decide (40 < (d1 : Int) * 10) = false := by simp; omega
 go_enter Tryd.func45, Tryd.ntmps45
 go_wp2_with fail
 refine (SG _).mono ?_
 rintro e w' ⟨rfl, hw⟩
 subst hw
 go_wp2_with fail
 refine (D1 _).mono ?_
 rintro e w' ⟨rfl, hw⟩
 subst hw
 go_wp2_with fail
 refine (D1 _).mono ?_
 rintro e w' ⟨rfl, hw⟩
 subst hw
 go_wp2
 go_ret2
 exact RetHead.no (c := 1) HC.out (by decide) (Below.refl _ _)
set_option maxHeartbeats 1000000 in
theorem head_8 (s : ByteArray) (w : World) (hs : s.size ≤ maxLen) (hn : 3 ≤ s.size) (h0 : sgB (bt (bs s) 0) = true) (h1 : digB (bt (bs s) 1) = true) (h2 : digB (bt (bs s) 2) = true) (hb : 10 * dg (bt (bs s) 1) ≤ 40) (hc : ¬ lenL (bs s) ≤ 40) : Calls Tryd.prog 45 #[.string s] w (RetHead w (bs s)) := by
 have HC := Lib.hid (headC_bad (x := bs s) (j := 2) (by rw [bs_length]; omega) (by omega) (by rw [ok2, h2, decide_eq_false hc]; rfl))
 unfold maxLen at hs
 have z0 : (0 : Int) < (s.size : Int) := by omega
 have y0 : decide ((0 : Int) < (s.size : Int)) = true := decide_eq_true z0
 have z1 : (1 : Int) < (s.size : Int) := by omega
 have y1 : decide ((1 : Int) < (s.size : Int)) = true := decide_eq_true z1
 have z2 : (2 : Int) < (s.size : Int) := by omega
 have y2 : decide ((2 : Int) < (s.size : Int)) = true := decide_eq_true z2
 have z3 : ¬ ((s.size : Int) < 3) := by omega
 have q0 : 0 < s.size := by omega
 have q1 : 1 < s.size := by omega
 have q2 : 2 < s.size := by omega
 clear hn
 have SG : ∀ W, Calls Tryd.prog 37 #[.int .u8 s[0].toNat] W fun e w' => e = .returned (.bool true) ∧ w' = W := fun W => by have := specSg s[0] W; rwa [show sgB s[0] = true from by rw [← bt_s (s := s) (k := 0) q0]; exact h0] at this
 obtain ⟨d1, -, f1, e1⟩ := dig_nat h1
 obtain ⟨d2, -, f2, e2⟩ := dig_nat h2
 have D1 : ∀ W, Calls Tryd.prog 55 #[.int .u8 s[1].toNat] W fun e w' => e = .returned (.int .i64 ((d1 : Int))) ∧ W = w' := fun W => by have := specDig s[1] W; rwa [show digV s[1] = (d1 : Int) from by rw [← bt_s (s := s) (k := 1) q1, digV_yes h1, e1]] at this
 have D2 : ∀ W, Calls Tryd.prog 55 #[.int .u8 s[2].toNat] W fun e w' => e = .returned (.int .i64 ((d2 : Int))) ∧ W = w' := fun W => by have := specDig s[2] W; rwa [show digV s[2] = (d2 : Int) from by rw [← bt_s (s := s) (k := 2) q2, digV_yes h2, e2]] at this
 have Q1 : ∀ (W : World) (n : Nat), Calls Tryd.prog 55 #[.int .u8 s[1].toNat] (W.drewN n) fun e w'' => e = .returned (.int .i64 (d1 : Int)) ∧ ∃ m, w'' = W.drewN m := fun W n => (D1 (W.drewN n)).mono fun _ _ h => ⟨h.1, n, h.2.symm⟩
 have Q2 : ∀ (W : World) (n : Nat), Calls Tryd.prog 55 #[.int .u8 s[2].toNat] (W.drewN n) fun e w'' => e = .returned (.int .i64 (d2 : Int)) ∧ ∃ m, w'' = W.drewN m := fun W n => (D2 (W.drewN n)).mono fun _ _ h => ⟨h.1, n, h.2.symm⟩
 have hl : lenL (bs s) = 10 * d1 + d2 := by unfold lenL; rw [e1, e2]
 rw [e1] at hb
 rw [hl] at hc
 have p1 : ¬ ((d1 : Int) < 0) := by omega
 have p4 : decide (40 < (d1 : Int) * 10) = false := by simp; omega
 have p2 : ¬ ((d2 : Int) < 0) := by omega
 have p5 : decide (40 < (d1 : Int) * 10 + (d2 : Int)) = true := by simp; omega
 go_enter Tryd.func45, Tryd.ntmps45
 go_wp2_with fail
 refine (SG _).mono ?_
 rintro e w' ⟨rfl, hw⟩
 subst hw
 go_wp2_with fail
 refine (D1 _).mono ?_
 rintro e w' ⟨rfl, hw⟩
 subst hw
 go_wp2_with fail
 refine (D2 _).mono ?_
 rintro e w' ⟨rfl, hw⟩
 subst hw
 go_wp2_with fail
 refine (D1 _).mono ?_
 rintro e w' ⟨rfl, hw⟩
 subst hw
 go_wp2
 go_quiet (first | (go_at_call 55; with_reducible exact Q1 _ _) | (go_at_call 55; with_reducible exact Q2 _ _))
 go_wp2
 go_ret2
 exact RetHead.no (c := 2) HC.out (by decide) (below_drewN (Below.refl _ _) _)
set_option maxHeartbeats 1000000 in
theorem head_9 (s : ByteArray) (w : World) (hs : s.size ≤ maxLen) (hn : 3 ≤ s.size) (h0 : sgB (bt (bs s) 0) = true) (h1 : digB (bt (bs s) 1) = true) (h2 : digB (bt (bs s) 2) = true) (hb : 10 * dg (bt (bs s) 1) ≤ 40) (hc : lenL (bs s) ≤ 40) : Calls Tryd.prog 45 #[.string s] w (RetHead w (bs s)) := by
 have HC := Lib.hid (headC_fine (x := bs s) (by rw [bs_length]; omega) (good3 h0 (by rw [ok1, h1, decide_eq_true hb]; rfl) (by rw [ok2, h2, decide_eq_true hc]; rfl)))
 unfold maxLen at hs
 have z0 : (0 : Int) < (s.size : Int) := by omega
 have y0 : decide ((0 : Int) < (s.size : Int)) = true := decide_eq_true z0
 have z1 : (1 : Int) < (s.size : Int) := by omega
 have y1 : decide ((1 : Int) < (s.size : Int)) = true := decide_eq_true z1
 have z2 : (2 : Int) < (s.size : Int) := by omega
 have y2 : decide ((2 : Int) < (s.size : Int)) = true := decide_eq_true z2
 have z3 : ¬ ((s.size : Int) < 3) := by omega
 have q0 : 0 < s.size := by omega
 have q1 : 1 < s.size := by omega
 have q2 : 2 < s.size := by omega
 clear hn
 have SG : ∀ W, Calls Tryd.prog 37 #[.int .u8 s[0].toNat] W fun e w' => e = .returned (.bool true) ∧ w' = W := fun W => by have := specSg s[0] W; rwa [show sgB s[0] = true from by rw [← bt_s (s := s) (k := 0) q0]; exact h0] at this
 obtain ⟨d1, -, f1, e1⟩ := dig_nat h1
 obtain ⟨d2, -, f2, e2⟩ := dig_nat h2
 have D1 : ∀ W, Calls Tryd.prog 55 #[.int .u8 s[1].toNat] W fun e w' => e = .returned (.int .i64 ((d1 : Int))) ∧ W = w' := fun W => by have := specDig s[1] W; rwa [show digV s[1] = (d1 : Int) from by rw [← bt_s (s := s) (k := 1) q1, digV_yes h1, e1]] at this
 have D2 : ∀ W, Calls Tryd.prog 55 #[.int .u8 s[2].toNat] W fun e w' => e = .returned (.int .i64 ((d2 : Int))) ∧ W = w' := fun W => by have := specDig s[2] W; rwa [show digV s[2] = (d2 : Int) from by rw [← bt_s (s := s) (k := 2) q2, digV_yes h2, e2]] at this
 have Q1 : ∀ (W : World) (n : Nat), Calls Tryd.prog 55 #[.int .u8 s[1].toNat] (W.drewN n) fun e w'' => e = .returned (.int .i64 (d1 : Int)) ∧ ∃ m, w'' = W.drewN m := fun W n => (D1 (W.drewN n)).mono fun _ _ h => ⟨h.1, n, h.2.symm⟩
 have Q2 : ∀ (W : World) (n : Nat), Calls Tryd.prog 55 #[.int .u8 s[2].toNat] (W.drewN n) fun e w'' => e = .returned (.int .i64 (d2 : Int)) ∧ ∃ m, w'' = W.drewN m := fun W n => (D2 (W.drewN n)).mono fun _ _ h => ⟨h.1, n, h.2.symm⟩
 have hl : lenL (bs s) = 10 * d1 + d2 := by unfold lenL; rw [e1, e2]
 rw [e1] at hb
 rw [hl] at hc
 have p1 : ¬ ((d1 : Int) < 0) := by omega
 have p4 : decide (40 < (d1 : Int) * 10) = false := by simp; omega
 have p2 : ¬ ((d2 : Int) < 0) := by omega
 have HL := Lib.hid hl
 clear hl
 have p5 : decide (40 < (d1 : Int) * 10 + (d2 : Int)) = false := by simp; omega
 go_enter Tryd.func45, Tryd.ntmps45
 go_wp2_with fail
 refine (SG _).mono ?_
 rintro e w' ⟨rfl, hw⟩
 subst hw
 go_wp2_with fail
 refine (D1 _).mono ?_
 rintro e w' ⟨rfl, hw⟩
 subst hw
 go_wp2_with fail
 refine (D2 _).mono ?_
 rintro e w' ⟨rfl, hw⟩
 subst hw
 go_wp2_with fail
 refine (D1 _).mono ?_
 rintro e w' ⟨rfl, hw⟩
 subst hw
 go_wp2
 go_quiet (first | (go_at_call 55; with_reducible exact Q1 _ _) | (go_at_call 55; with_reducible exact Q2 _ _))
 go_wp2
 go_ret2
 exact RetHead.fine HC.out (by rw [HL.out]; omega) (below_drewN (Below.refl _ _) _)
theorem specHead (s : ByteArray) (w : World) (hs : s.size ≤ maxLen) : Calls Tryd.prog 45 #[.string s] w (RetHead w (bs s)) := by
 by_cases hn0 : s.size = 0
 ·
  exact head_0 s w hs hn0
 cases h0 : sgB (bt (bs s) 0)
 ·
  exact head_1 s w hs (by omega) h0
 by_cases hn1 : s.size = 1
 ·
  exact head_2 s w hs hn1 h0
 cases h1 : digB (bt (bs s) 1)
 ·
  exact head_3 s w hs (by omega) h0 h1
 by_cases hn2 : s.size = 2
 ·
  by_cases hb : 10 * dg (bt (bs s) 1) ≤ 40
  ·
   exact head_7 s w hs hn2 h0 h1 hb
  ·
   exact head_5 s w hs hn2 h0 h1 hb
 cases h2 : digB (bt (bs s) 2)
 ·
  exact head_4 s w hs (by omega) h0 h1 h2
 by_cases hb : 10 * dg (bt (bs s) 1) ≤ 40
 ·
  by_cases hc : lenL (bs s) ≤ 40
  ·
   exact head_9 s w hs (by omega) h0 h1 h2 hb hc
  ·
   exact head_8 s w hs (by omega) h0 h1 h2 hb hc
 ·
  exact head_6 s w hs (by omega) h0 h1 h2 hb
end Go.Proofs.YtilcncnhkidndaaDoor
