/- The program's decoder: fed byte by byte; what it takes, and what it answers. -/
import Derived.Test.YtilcncnhkidndaaDoorIsE
import Derived.Laws.EntriesVeiled
import Derived.Deep.RegionHeld3
namespace Go.Proofs.YtilcncnhkidndaaDoor
open Go.RowKit
set_option linter.unusedVariables false
set_option maxRecDepth 100000

/-- a method value of the decoder in block g -/
abbrev fnV (g : Nat) (f : FuncId) : Value := .func (.func f) #[.pointer (some ⟨g, 0, none⟩)] #[]
/-- what takes byte k -/
def stV (g : Nat) (x : Bs) (k : Nat) : Value := if k = 0 then fnV g 56 else if k = 1 then fnV g 57 else if k = 2 then fnV g 58 else if k < needL x then fnV g 60 else .nilFunc
def sgN (x : Bs) (k : Nat) : Nat := if k = 0 then 0 else (bt x 0).toNat
def lnN (x : Bs) (k : Nat) : Nat := if k < 2 then 0 else if k = 2 then 10 * dg (bt x 1) else lenL x
/-- the decoder in block g has taken k bytes -/
def DecP (W : World) (g base : Nat) (x : Bs) (k : Nat) : Prop :=
 ∃ bv, Blk W g 69 #[stV g x k, .int .u8 (sgN x k), .int .i64 (lnN x k), bv] ∧ OwnG W base bv ((x.take k).drop 3)
/-- how a byte's taking ends -/
def StepR (W : World) (g base : Nat) (x : Bs) (k : Nat) (a0 : Addr) (e : Ending) (W' : World) : Prop :=
 (if okAt x k then e = .returned .nilIface ∧ DecP W' g base x (k + 1) else e = .returned (erV a0)) ∧ Chg (fun j => j = g ∨ base ≤ j) W W'
theorem DecP.chg {W W' : World} {g base : Nat} {x : Bs} {k : Nat} (h : DecP W g base x k) (hb : Below W.heap.size W W') : DecP W' g base x k := by
 obtain ⟨bv, B, O⟩ := h
 exact ⟨bv, B.next hb, O.next hb⟩
theorem hmf : ∀ (fn : Fn) (first cap : Array Value) (w : World), (Instr.makeFunc fn first cap).run Tryd.prog w = .ok (.func fn first cap) w := fun _ _ _ _ => rfl

section
variable {W : World} {g base : Nat} {x : Bs} {a0 : Addr}
set_option maxHeartbeats 2000000 in
theorem takeSign_c (h : DecP W g base x 0) (hx : 0 < x.length) (hc : W.cell? ⟨0, 0, none⟩ = some (erV a0)) :
  Calls Tryd.prog 56 #[.pointer (some ⟨g, 0, none⟩), .int .u8 (bt x 0).toNat] W (StepR W g base x 0 a0) := by
 obtain ⟨bv, B, O⟩ := h
 obtain ⟨vb, vn, vc, rfl⟩ := O.slice
 have mf := hmf
 have q1 : W.cell? ⟨g, 1, none⟩ = some (.int .u8 0) := B.cell 1
 have q0 : W.cell? ⟨g, 0, none⟩ = some (fnV g 56) := B.cell 0
 have f0 : W.frozen? ⟨g, 0, none⟩ = false := B.free 0
 have f1 : W.frozen? ⟨g, 1, none⟩ = false := B.free 1
 cases hk : sgB (bt x 0)
 ·
  have HK := Lib.hid hk
  have HO := Lib.hid (show okAt x 0 = false from hk)
  clear hk
  go_enter Tryd.func56, Tryd.ntmps56
  go_wp2_with (go_at_call 35; refine (implSg (bt x 0) _).mono ?_; rw [HK.out]; rintro e w' ⟨rfl, rfl⟩)
  go_ret
  exact ⟨by rw [HO.out]; rfl, Chg.refl _ _⟩
 ·
  have HK := Lib.hid hk
  have HO := Lib.hid (show okAt x 0 = true from hk)
  clear hk
  go_enter Tryd.func56, Tryd.ntmps56
  go_wp2_with (go_at_call 35; refine (implSg (bt x 0) _).mono ?_; rw [HK.out]; rintro e w' ⟨rfl, rfl⟩)
  go_ret
  refine ⟨by
   rw [HO.out]
   refine ⟨rfl, _, ((B.set_ 1 _).set_ 0 _), ?_⟩
   have e1 : (x.take (0 + 1)).drop 3 = (x.take 0).drop 3 := by rw [List.drop_eq_nil_of_le (by simp; omega), List.drop_eq_nil_of_le (by simp)]
   rw [e1]
   exact (O.setCell (fun k hk => by have := O.neT B (by decide) k hk; exact this) _).setCell (fun k hk => by have := O.neT B (by decide) k hk; exact this) _, ((Chg.refl _ _).setCell (.inl (.inl rfl)) _).setCell (.inl (.inl rfl)) _⟩
theorem dig_nat {c : UInt8} (h : digB c = true) : ∃ d : Nat, c.toNat = 48 + d ∧ d ≤ 9 ∧ dg c = d := by
 unfold digB at h
 simp only [Bool.and_eq_true, decide_eq_true_eq] at h
 exact ⟨c.toNat - 48, by omega, by omega, rfl⟩
set_option maxHeartbeats 2000000 in
theorem takeTens_c (h : DecP W g base x 1) (hx : 1 < x.length) (hc : W.cell? ⟨0, 0, none⟩ = some (erV a0)) :
  Calls Tryd.prog 57 #[.pointer (some ⟨g, 0, none⟩), .int .u8 (bt x 1).toNat] W (StepR W g base x 1 a0) := by
 obtain ⟨bv, B, O⟩ := h
 obtain ⟨vb, vn, vc, rfl⟩ := O.slice
 have mf := hmf
 have q2 : W.cell? ⟨g, 2, none⟩ = some (.int .i64 0) := B.cell 2
 have q0 : W.cell? ⟨g, 0, none⟩ = some (fnV g 57) := B.cell 0
 have f0 : W.frozen? ⟨g, 0, none⟩ = false := B.free 0
 have f2 : W.frozen? ⟨g, 2, none⟩ = false := B.free 2
 have hI := implDig (bt x 1)
 cases hk : digB (bt x 1)
 ·
  have HO := Lib.hid (show okAt x 1 = false from by unfold okAt; rw [if_neg (by omega), if_pos rfl, hk]; rfl)
  rw [hk] at hI
  clear hk
  go_enter Tryd.func57, Tryd.ntmps57
  go_wp2_with (go_at_call 50; refine (hI _).mono ?_; rintro e w' ⟨rfl, rfl⟩)
  go_ret
  exact ⟨by rw [HO.out]; rfl, Chg.refl _ _⟩
 ·
  obtain ⟨d, hd, hd9, hdg⟩ := dig_nat hk
  have HO := Lib.hid (show okAt x 1 = decide (10 * d ≤ 40) from by unfold okAt; rw [if_neg (by omega), if_pos rfl, hk, hdg]; rfl)
  have e : (((bt x 1).toNat : Nat) : Int) = 48 + (d : Int) := by omega
  rw [hk, e] at hI
  rw [e]
  have HL := Lib.hid (show ((lnN x 2 : Nat) : Int) = 10 * (d : Int) from by show ((10 * dg (bt x 1) : Nat) : Int) = _; rw [hdg]; omega)
  clear hk hd hdg e
  have hsub : IntKind.u8.wrap (48 + (d : Int) - 48) = (d : Int) := by rw [IntKind.wrap_u8]; omega
  by_cases h4 : d ≤ 4
  ·
   have d4 : decide (40 < 10 * (d : Int)) = false := by simp; omega
   have HO2 := Lib.hid (HO.out.trans (decide_eq_true (by omega)))
   go_enter Tryd.func57, Tryd.ntmps57
   go_wp2_with (go_at_call 50; refine (hI _).mono ?_; rintro e w' ⟨rfl, rfl⟩)
   go_ret
   refine ⟨by
    rw [HO2.out]
    refine ⟨rfl, _, ((B.set_ 2 _).set_ 0 _).cast (by rw [HL.out]; rfl), ?_⟩
    have e1 : (x.take (1 + 1)).drop 3 = (x.take 1).drop 3 := by rw [List.drop_eq_nil_of_le (by simp; omega), List.drop_eq_nil_of_le (by simp; omega)]
    rw [e1]
    exact (O.setCell (fun k hk => by have := O.neT B (by decide) k hk; exact this) _).setCell (fun k hk => by have := O.neT B (by decide) k hk; exact this) _, ((Chg.refl _ _).setCell (.inl (.inl rfl)) _).setCell (.inl (.inl rfl)) _⟩
  ·
   have d4 : decide (40 < 10 * (d : Int)) = true := by simp; omega
   have HO2 := Lib.hid (HO.out.trans (decide_eq_false (by omega)))
   go_enter Tryd.func57, Tryd.ntmps57
   go_wp2_with (go_at_call 50; refine (hI _).mono ?_; rintro e w' ⟨rfl, rfl⟩)
   go_ret
   exact ⟨by rw [HO2.out]; rfl, Chg.refl _ _⟩
/-- the body's end is looked for: what goes on *-/
theorem await_c {W : World} {g base : Nat} {bv r0 : Value} {s n : Int} {l : Bs} (B : Blk W g 69 #[r0, .int .u8 s, .int .i64 n, bv]) (O : OwnG W base bv l) :
  Calls Tryd.prog 59 #[.pointer (some ⟨g, 0, none⟩)] W fun e W' => e = .returned (.tuple #[]) ∧ Blk W' g 69 #[if (l.length : Int) < n then fnV g 60 else .nilFunc, .int .u8 s, .int .i64 n, bv] ∧ OwnG W' base bv l ∧ Chg (fun j => j = g) W W' := by
 obtain ⟨vb, vc, rfl, -, -, -⟩ := O.read
 have mf := hmf
 have q0 : W.cell? ⟨g, 0, none⟩ = some r0 := B.cell 0
 have q2 : W.cell? ⟨g, 2, none⟩ = some (.int .i64 n) := B.cell 2
 have q3 : W.cell? ⟨g, 3, none⟩ = some (.slice vb l.length vc) := B.cell 3
 have f0 : W.frozen? ⟨g, 0, none⟩ = false := B.free 0
 by_cases hn : (l.length : Int) < n
 ·
  have hd : decide ((l.length : Int) < n) = true := decide_eq_true hn
  rw [if_pos hn]
  clear hn
  go_enter Tryd.func59, Tryd.ntmps59
  go_wp2
  go_quiet (fail)
  go_wp2
  go_end0
  exact ⟨rfl, (B.set_ 0 _ : Blk _ _ _ _), O.setCell (fun k hk => by have := O.neT B (by decide) k hk; exact this) _, Chg.setCell (S := fun j => j = g) (Chg.of_below (below_drewN (Below.refl _ _) _)) (.inl rfl) _⟩
 ·
  have hd : decide ((l.length : Int) < n) = false := decide_eq_false hn
  rw [if_neg hn]
  clear hn
  go_enter Tryd.func59, Tryd.ntmps59
  go_wp2
  go_quiet (fail)
  go_wp2
  go_end0
  exact ⟨rfl, (B.set_ 0 _ : Blk _ _ _ _), O.setCell (fun k hk => by have := O.neT B (by decide) k hk; exact this) _, Chg.setCell (S := fun j => j = g) (Chg.of_below (below_drewN (Below.refl _ _) _)) (.inl rfl) _⟩
theorem stV_next {x : Bs} {g k : Nat} (hk : 2 ≤ k) (hx : 3 ≤ x.length) : stV g x (k + 1) = if ((k + 1 - 3 : Nat) : Int) < (lenL x : Int) then fnV g 60 else .nilFunc := by
 unfold stV
 rw [if_neg (by omega), if_neg (by omega), need_of hx]
 by_cases h2 : k + 1 = 2
 ·
  omega
 ·
  rw [if_neg h2]
  by_cases h : k + 1 < 3 + lenL x
  ·
   rw [if_pos h, if_pos (by omega)]
  ·
   rw [if_neg h, if_neg (by omega)]
set_option maxHeartbeats 2000000 in
theorem takeOnes_c (h : DecP W g base x 2) (hx : 2 < x.length) (hg : goodTo x 2) (hc : W.cell? ⟨0, 0, none⟩ = some (erV a0)) :
  Calls Tryd.prog 58 #[.pointer (some ⟨g, 0, none⟩), .int .u8 (bt x 2).toNat] W (StepR W g base x 2 a0) := by
 obtain ⟨bv, B, O⟩ := h
 have mf := hmf
 have hm := hg 1 (by omega)
 unfold okAt at hm
 rw [if_neg (by omega), if_pos rfl] at hm
 simp only [Bool.and_eq_true, decide_eq_true_eq] at hm
 obtain ⟨hm1, hm4⟩ := hm
 obtain ⟨m, hmm⟩ : ∃ m, 10 * dg (bt x 1) = m := ⟨_, rfl⟩
 rw [hmm] at hm4
 have BB : Blk W g 69 #[fnV g 58, .int .u8 (sgN x 2), .int .i64 m, bv] := by rw [← hmm]; exact B
 have q2 : W.cell? ⟨g, 2, none⟩ = some (.int .i64 m) := BB.cell 2
 have f2 : W.frozen? ⟨g, 2, none⟩ = false := B.free 2
 have hI := implDig (bt x 2)
 have HLL := Lib.hid (show lenL x = m + dg (bt x 2) from by unfold lenL; omega)
 cases hk : digB (bt x 2)
 ·
  have HO := Lib.hid (show okAt x 2 = false from by unfold okAt; rw [if_neg (by omega), if_neg (by omega), if_pos rfl, hk]; rfl)
  rw [hk] at hI
  clear hk
  go_enter Tryd.func58, Tryd.ntmps58
  go_wp2_with (go_at_call 50; refine (hI _).mono ?_; rintro e w' ⟨rfl, rfl⟩)
  go_ret
  exact ⟨by rw [HO.out]; rfl, Chg.refl _ _⟩
 ·
  obtain ⟨d, hd, hd9, hdg⟩ := dig_nat hk
  rw [hdg] at HLL
  have HO := Lib.hid (show okAt x 2 = decide (m + d ≤ 40) from by unfold okAt; rw [if_neg (by omega), if_neg (by omega), if_pos rfl, hk, HLL.out]; rfl)
  have e : (((bt x 2).toNat : Nat) : Int) = 48 + (d : Int) := by omega
  rw [hk, e] at hI
  rw [e]
  clear hk hd hdg e hmm hm1
  have hsub : IntKind.u8.wrap (48 + (d : Int) - 48) = (d : Int) := by rw [IntKind.wrap_u8]; omega
  by_cases h4 : m + d ≤ 40
  ·
   have d4 : decide (40 < (m : Int) + (d : Int)) = false := by simp; omega
   have HO2 := Lib.hid (HO.out.trans (decide_eq_true h4))
   have HB : Hid (Blk (W.setCell ⟨g, 2, none⟩ (.int .i64 ((m : Int) + (d : Int)))) g 69 #[fnV g 58, .int .u8 (sgN x 2), .int .i64 ((m : Int) + (d : Int)), bv]) := Lib.hid (BB.set_ 2 _)
   have e1 : (x.take 2).drop 3 = [] := List.drop_eq_nil_of_le (by simp; omega)
   have HOW : Hid (OwnG (W.setCell ⟨g, 2, none⟩ (.int .i64 ((m : Int) + (d : Int)))) base bv ([] : Bs)) := Lib.hid (by rw [e1] at O; exact O.setCell (fun k hk => by have := O.neT B (by decide) k hk; exact this) _)
   clear O B BB
   go_enter Tryd.func58, Tryd.ntmps58
   go_wp2_with (first | (go_at_call 50; refine (hI _).mono ?_; rintro e w' ⟨rfl, rfl⟩) | (go_at_call 59; refine (await_c HB.out HOW.out).mono ?_; rintro e w2 ⟨rfl, B2, O2, C2⟩))
   go_ret
   refine ⟨?_, (Chg.refl _ _).setCell (.inl (.inl rfl)) _ |>.trans C2 (fun b _ h => .inl h)⟩
   rw [HO2.out]
   refine ⟨rfl, bv, ?_, ?_⟩
   ·
    rw [stV_next (by omega) (by omega)]
    refine B2.cast ?_
    have el : ((lnN x 3 : Nat) : Int) = (m : Int) + (d : Int) := by show ((lenL x : Nat) : Int) = _; rw [HLL.out]; omega
    have el2 : ((lenL x : Nat) : Int) = (m : Int) + (d : Int) := by rw [HLL.out]; omega
    rw [el, el2]
    rfl
   ·
    rw [List.drop_eq_nil_of_le (by simp; omega)]; exact O2
  ·
   have d4 : decide (40 < (m : Int) + (d : Int)) = true := by simp; omega
   have HO2 := Lib.hid (HO.out.trans (decide_eq_false h4))
   go_enter Tryd.func58, Tryd.ntmps58
   go_wp2_with (go_at_call 50; refine (hI _).mono ?_; rintro e w' ⟨rfl, rfl⟩)
   go_ret
   exact ⟨by rw [HO2.out]; rfl, Chg.refl _ _⟩
set_option maxHeartbeats 2000000 in
theorem takeBody_c {k : Nat} (h : DecP W g base x k) (hk3 : 3 ≤ k) (hx : k < x.length) (hx4 : k ≤ 50) (hkn : k < needL x) (hB : base ≤ W.heap.size) (hc : W.cell? ⟨0, 0, none⟩ = some (erV a0)) :
  Calls Tryd.prog 60 #[.pointer (some ⟨g, 0, none⟩), .int .u8 (bt x k).toNat] W (StepR W g base x k a0) := by
 obtain ⟨bv, B, O⟩ := h
 obtain ⟨vb, vn, vc, rfl⟩ := O.slice
 have hs : sgN x k = (bt x 0).toNat := if_neg (by omega)
 have hl : lnN x k = lenL x := by unfold lnN; rw [if_neg (by omega), if_neg (by omega)]
 have hs' : sgN x (k + 1) = (bt x 0).toNat := if_neg (by omega)
 have hl' : lnN x (k + 1) = lenL x := by unfold lnN; rw [if_neg (by omega), if_neg (by omega)]
 rw [hs, hl] at B
 have q3 : W.cell? ⟨g, 3, none⟩ = some (.slice vb vn vc) := B.cell 3
 have f3 : W.frozen? ⟨g, 3, none⟩ = false := B.free 3
 have hI := implBd (bt x k)
 cases hk : bdB (bt x k)
 ·
  have HO := Lib.hid (show okAt x k = false from by unfold okAt; rw [if_neg (by omega), if_neg (by omega), if_neg (by omega), hk])
  rw [hk] at hI
  clear hk
  go_enter Tryd.func60, Tryd.ntmps60
  go_wp2_with (go_at_call 36; refine (hI _).mono ?_; rintro e w' ⟨rfl, rfl⟩)
  go_ret
  exact ⟨by rw [HO.out]; rfl, Chg.refl _ _⟩
 ·
  have HO := Lib.hid (show okAt x k = true from by unfold okAt; rw [if_neg (by omega), if_neg (by omega), if_neg (by omega), hk])
  rw [hk] at hI
  clear hk
  have hbl : ((x.take k).drop 3).length = k - 3 := by simp; omega
  have HBL := Lib.hid hbl
  obtain ⟨U, eU, -, BU, hbU⟩ := al1 W rfl #[.int .u8 (bt x k).toNat] 5
  have RU : Hid (RdG U U.heap.size (some ⟨W.heap.size, 0, none⟩) [bt x k]) := Lib.hid (by rw [← eU]; exact rdOneG W (bt x k) _ _ rfl)
  have B1 := Lib.hid (B.next hbU)
  have O1 := Lib.hid (O.next hbU)
  have HbU := Lib.hid hbU
  have HX := Lib.hid (show ((x.take k).drop 3) ++ [bt x k] = (x.take (k + 1)).drop 3 from by
   rw [List.take_succ_eq_append_getElem hx, List.drop_append_of_le_length (by simp; omega), bt_eq hx])
  have hgU : base ≤ U.heap.size := Nat.le_trans hB hbU.size
  clear O B hbl BU hbU
  go_enter Tryd.func60, Tryd.ntmps60
  go_wp2_with (first
   | (go_at_call 36; refine (hI _).mono ?_; rintro e w' ⟨rfl, rfl⟩)
   | (at_builtin; refine wpList_appG (α := UInt8) U rfl _ _ 22 22 5 rfl Tryd.underlying22 Tryd.underlying22 base _ _ rfl O1.out _ _ _ _ [bt x k] rfl rfl RU.out (by rw [HBL.out]; simp; omega) hgU ?_; intro v2 w2 o2 g2 _; have HB2 := Lib.hid (B1.out.grown g2 (O1.out.neT' B1.out (by decide))); have HC2 := Lib.hid (O1.out.belB g2 hgU); have HS2 := Lib.hid g2; obtain ⟨tb, tn, tc, rfl⟩ := o2.slice; have p3 : w2.cell? ⟨g, 3, none⟩ = some (.slice vb vn vc) := HB2.out.cell 3; have z3 : w2.frozen? ⟨g, 3, none⟩ = false := HB2.out.free 3; have HO3 := Lib.hid (o2.setCell (a := ⟨g, 3, none⟩) (fun j hj => by have := o2.neT HB2.out (by decide) j hj; exact this) (.slice tb tn tc)); have HB3 : Hid (Blk (w2.setCell ⟨g, 3, none⟩ (.slice tb tn tc)) g 69 #[stV g x k, .int .u8 (bt x 0).toNat, .int .i64 (lenL x), .slice tb tn tc]) := Lib.hid (HB2.out.set_ 3 _); clear o2 g2)
   | (go_at_call 59; refine (await_c HB3.out HO3.out).mono ?_; rintro e w4 ⟨rfl, B4, O4, C4⟩))
  go_ret
  refine ⟨?_, ?_⟩
  ·
   rw [HO.out]
   refine ⟨rfl, .slice tb tn tc, ?_, ?_⟩
   ·
    rw [stV_next (by omega) (by omega), hs', hl']
    refine B4.cast ?_
    rw [List.length_append, HBL.out, List.length_singleton, show k - 3 + 1 = k + 1 - 3 from by omega]
   ·
    rw [← HX.out]; exact O4
  ·
   have c1 : Chg (fun j => j = g ∨ base ≤ j) _ w2 := ⟨HS2.out.os.trans HbU.out.os, HS2.out.tape.trans HbU.out.tape, HS2.out.output.trans HbU.out.output, Nat.le_trans HbU.out.size HS2.out.size, fun j hj hn => (HC2.out.block j (by omega)).trans (HbU.out.block j hj)⟩
   exact (c1.setCell (.inl (.inl rfl)) _).trans C4 (fun b _ h => .inl h)
end
set_option maxHeartbeats 1000000 in
theorem newDecoder_c (base : Nat) (x : Bs) (w : World) : Calls Tryd.prog 52 #[] w fun e w' => e = .returned (.pointer (some ⟨w.heap.size, 0, none⟩)) ∧ DecP w' w.heap.size base x 0 ∧ Below w.heap.size w w' := by
 have mf := hmf
 go_enter Tryd.func52, Tryd.ntmps52
 go_wp2
 go_ret
 exact ⟨rfl, ⟨.slice none 0 0, blkA w #[fnV w.heap.size 56, .int .u8 0, .int .i64 0, .slice none 0 0] 69, OwnG.nil _ _⟩, below_alloc (Below.refl _ _) _⟩
end Go.Proofs.YtilcncnhkidndaaDoor
