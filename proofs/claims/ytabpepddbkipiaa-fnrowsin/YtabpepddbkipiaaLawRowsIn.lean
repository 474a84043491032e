/- FnRowsIn: what RowsIn promises. -/
import Derived.Test.YtabpepddbkipiaaRows
import Derived.Test.YtabpepddbkipiaaWhole
import Derived.Test.YtabpepddbkipiaaArgB
import Derived.Test.YtabpepddbkipiaaDraw6
import Derived.Test.YtabpepddbkipiaaIn4
import Derived.WalkKit
import Derived.ProofKit
import Derived.OpenShut
import Derived.ShutString
import Derived.ChangeOld
import Derived.Below
namespace Go.Proofs.Ytabpepddbkipiaa.fnRowsIn
open Go.ChangeShapes Go.WideShapes Go.ChangeAt Go.RowKit
open Go.ChangeMaps (open_string shut_string)
set_option linter.unusedVariables false

theorem in_at {l : List R} {lo hi : ByteArray} {k : Nat} (hk : k < l.length) (h : midB lo hi l[k].1 = true) : (inL l lo hi)[(inL (l.take k) lo hi).length]? = some l[k] := by
  have e : l = l.take k ++ l[k] :: l.drop (k + 1) := by rw [← List.drop_eq_getElem_cons hk, List.take_append_drop]
  have e2 : inL l lo hi = inL (l.take k) lo hi ++ l[k] :: inL (l.drop (k + 1)) lo hi := by
    conv => lhs; rw [e]
    unfold inL
    simp only [List.filter_append, List.filter_cons, h, if_true]
  rw [e2, List.getElem?_append_right (Nat.le_refl _)]
  simp
theorem rows_nil : rowsB ([] : List R) = true := rowsB_yes (rowsP_iff.2 ⟨by simp, by simp, by simp [Srt]⟩)
set_option maxRecDepth 100000 in
set_option maxHeartbeats 1000000 in
theorem walk (A0 : Option Addr) (n0 c0 : Nat) (w : World) (hc0 : n0 ≤ c0) (hm0 : c0 ≤ maxLen) (hr0 : RdB w w.heap.size A0 n0) :
    Calls Try.prog 13 #[.slice A0 n0 c0] w fun e w' => e = .returned (.bool true) ∧ Below w.heap.size w w' := by
  have hneq := neqRow
  by_cases hn : (1048576 : Int) < (n0 : Int)
  · go_enter Try.func13, Try.ntmps13
    go_wp2
    go_ret
    exact ⟨rfl, Below.refl _ _⟩
  go_enter Try.func13, Try.ntmps13
  go_wp2_with fail
  refine (drawIn A0 n0 c0 w hc0 hm0 hr0).mono ?_
  rintro e w1 ⟨v, l, lo, hi, rfl, hO1, hf, hl, hlo, hhi, hb1⟩
  have hil := inV_length l lo hi
  have hfi := hf.inV lo hi
  go_wp2_with fail
  refine (implInO lo hi hO1 hf (by omega)).mono ?_
  rintro e w2 ⟨v2, rfl, hX2, hb2⟩
  have hw2 := below_next hb1 hb2
  have hO2 := hO1.next hb2
  go_wp2_with fail
  refine (specInO lo hi hO2 hf (by omega)).mono ?_
  rintro e w3 ⟨v3, rfl, hY3, hb3⟩
  have hw3 := below_next hw2 hb3
  have hO3 := hO2.next hb3
  have hX3 := hX2.next hb3
  clear hO1 hO2 hX2
  go_wp2_with fail
  refine (wpO hX3 hY3 (by omega) (by omega)).mono ?_
  rintro e w4 ⟨rfl, hb4⟩
  rw [eqL_yes rfl]
  have hw4 := below_next hw3 hb4
  have hO4 := hO3.next hb4
  have hX4 := hX3.next hb4
  clear hO3 hX3 hY3
  have hri : rowsB (inV l lo hi) = true := by
    unfold inV
    cases hok : rowsB l
    · exact rows_nil
    · exact rowsB_yes (inV_rows (rowsB_iff.1 hok) lo hi)
  go_wp2_with fail
  refine (implOkO hX4 hfi (by omega)).mono ?_
  rintro e w5 ⟨rfl, hb5⟩
  rw [hri]
  have hw5 := below_next hw4 hb5
  have hO5 := hO4.next hb5
  have hX5 := hX4.next hb5
  clear hO4 hX4
  cases hok : rowsB l
  · have h0 : (inV l lo hi).length = 0 := by unfold inV; rw [hok]; rfl
    have h0b : (((inV l lo hi).length : Int) == 0) = true := beq_iff_eq.2 (by omega)
    obtain ⟨A6, c6, ev, _, _, _⟩ := hX5.read
    subst ev
    go_wp2_with fail
    refine (specOkO hO5 hf).mono ?_
    rintro e w6 ⟨rfl, hb6⟩
    rw [hok]
    go_wp2
    go_ret
    exact ⟨rfl, below_next hw5 hb6⟩
  have hiv : inV l lo hi = inL l lo hi := by unfold inV; rw [hok]; rfl
  have hiv2 : inV (inV l lo hi) lo hi = inV l lo hi := by
    rw [hiv]; unfold inV; rw [show rowsB (inL l lo hi) = true from by rw [← hiv]; exact hri]; exact inL_twice l lo hi
  rw [hiv] at hX5 hil hfi hiv2 hri
  have HIV := Lib.hid hiv2
  have HAT := Lib.hid (fun k (hk : k < l.length) h => in_at (lo := lo) (hi := hi) hk h)
  have HYES := Lib.hid (fun k (hk : k < l.length) h => inL_yes (l := l) (lo := lo) (hi := hi) hk h)
  have HNO := Lib.hid (fun k (hk : k < l.length) h => inL_no (l := l) (lo := lo) (hi := hi) hk h)
  have HNONE := Lib.hid (fun h => in_none (l := l) (lo := lo) (hi := hi) h)
  have HFULL := Lib.hid (rfl : inL l lo hi = inL l lo hi)
  clear hiv hiv2
  generalize hm : inL l lo hi = m at hX5 hil hfi HIV HAT HNONE hri
  have HM := Lib.hid hm
  clear hm HFULL
  go_wp2_with fail
  refine (specOkO hO5 hf).mono ?_
  rintro e w6 ⟨rfl, hb6⟩
  rw [hok]
  have hw6 := below_next hw5 hb6
  have hO6 := hO5.next hb6
  have hX6 := hX5.next hb6
  clear hO5 hX5
  obtain ⟨Al, cl, evl, hlc, hlm, hrdl⟩ := hO6.read
  obtain ⟨Ax, cx, evx, hxc, hxm, hrdx⟩ := hX6.read
  subst evl evx
  go_wp2
  go_loopw [7, 8] (fun j i W => ∃ k : Nat, k ≤ l.length ∧ i = .int .i64 k ∧ j = .int .i64 ((inL (l.take k) lo hi).length : Nat) ∧ Below w6.heap.size w6 W) (fun _ i _ => l.length - (intOf i).toNat)
  case atStart => exact ⟨0, Nat.zero_le _, rfl, by simp [inL], Below.refl _ _⟩
  case round =>
    obtain ⟨k, hkl, rfl, rfl, hb⟩ := hrel
    by_cases hlt : k < l.length
    · obtain ⟨b, o, hAl, hbB, hc1, hc2⟩ := (hrdl.below hb).at_ hlt
      have HAL := Lib.hid hAl
      have hi1 : (k : Int) < (l.length : Int) := by omega
      have hat := HAT.out k hlt
      have hyes := HYES.out k hlt
      have hno := HNO.out k hlt
      have hple := inL_length (l.take k) lo hi
      rw [List.length_take] at hple
      generalize hpp : inL (l.take k) lo hi = pr at *
      have HAT2 := Lib.hid hat
      have HYES2 := Lib.hid hyes
      have HNO2 := Lib.hid hno
      clear hAl hat hyes hno hpp
      generalize hpq : pr.length = p at *
      rw [HAL.out]
      cases h1 : Op.bytesLess l[k].1.toList lo.toList
      · cases h2 : Op.bytesLess hi.toList l[k].1.toList
        · have hm : midB lo hi l[k].1 = true := by unfold midB lt; rw [h1, h2]; rfl
          have hlen := congrArg List.length (HYES2.out hm)
          rw [List.length_append, List.length_singleton, hpq] at hlen
          obtain ⟨hpm, hpe⟩ := List.getElem?_eq_some_iff.1 (HAT2.out hm)
          obtain ⟨b', o', hAx, hbB', hd1, hd2⟩ := (hrdx.below hb).at_ hpm
          rw [hpe] at hd1 hd2
          have HAX := Lib.hid hAx
          have HLEN := Lib.hid hlen
          have he : eqR (l[k].1, l[k].2) (l[k].1, l[k].2) = true := eqR_yes rfl
          have g1 : decide ((m.length : Int) ≤ (p : Int)) = false := decide_eq_false (by omega)
          have g2 : decide (m.length ≤ p) = false := decide_eq_false (by omega)
          have g3 : (p : Int) < (m.length : Int) := by omega
          clear hAx hlen hm hpe
          rw [HAX.out]
          rcases le_yes h2 with h3 | ⟨h3, h4⟩
          · go_wp2
            go_quiet (fail)
            go_wp2
            go_roundw
            case rel => exact ⟨k + 1, by omega, by go_num, by rw [HLEN.out]; go_num, below_drewN hb _⟩
            case measure => simp [intOf]; omega
          · go_wp2
            go_quiet (fail)
            go_wp2
            go_roundw
            case rel => exact ⟨k + 1, by omega, by go_num, by rw [HLEN.out]; go_num, below_drewN hb _⟩
            case measure => simp [intOf]; omega
        · have hm : midB lo hi l[k].1 = false := by unfold midB lt; rw [h1, h2]; rfl
          have hlen := congrArg List.length (HNO2.out hm)
          rw [hpq] at hlen
          have HLEN := Lib.hid hlen
          obtain ⟨h3, h4⟩ := le_no h2
          clear hm hlen
          go_wp2
          go_roundw
          case rel => exact ⟨k + 1, by omega, by go_num, by rw [HLEN.out], hb⟩
          case measure => simp [intOf]; omega
      · have hm : midB lo hi l[k].1 = false := by unfold midB lt; rw [h1]; rfl
        have hlen := congrArg List.length (HNO2.out hm)
        rw [hpq] at hlen
        have HLEN := Lib.hid hlen
        clear hm hlen
        go_wp2
        go_roundw
        case rel => exact ⟨k + 1, by omega, by go_num, by rw [HLEN.out], hb⟩
        case measure => simp [intOf]; omega
    · have hi1 : decide ((k : Int) < (l.length : Int)) = false := decide_eq_false (by omega)
      have hi2 : decide (k < l.length) = false := decide_eq_false (by omega)
      have hfull : inL (l.take k) lo hi = m := by rw [List.take_of_length_le (by omega)]; exact HM.out
      rw [hfull]
      have hbe : ((m.length : Int) == (m.length : Int)) = true := by simp
      have hw7 := below_next hw6 hb
      have hX7 := hX6.next hb
      have hri' := hri
      clear hfull
      go_wp2_with fail
      refine (implInO lo hi hX7 hfi (by omega)).mono ?_
      rw [HIV.out]
      rintro e w8 ⟨v8, rfl, hZ8, hb8⟩
      have hw8 := below_next hw7 hb8
      have hX8 := hX7.next hb8
      go_wp2_with fail
      refine (wpO hZ8 hX8 (by omega) (by omega)).mono ?_
      rintro e w9 ⟨rfl, hb9⟩
      rw [eqL_yes rfl]
      have hw9 := below_next hw8 hb9
      cases hg : Op.bytesLess hi.toList lo.toList
      · rcases le_yes hg with h3 | ⟨h3, h4⟩
        · go_wp2
          go_ret
          exact ⟨rfl, hw9⟩
        · go_wp2
          go_ret
          exact ⟨rfl, hw9⟩
      · obtain ⟨h3, h4⟩ := le_no hg
        have hm0 : m = [] := HNONE.out hg
        have hz : ((m.length : Int) == 0) = true := by rw [hm0]; rfl
        clear hm0
        go_wp2
        go_ret
        exact ⟨rfl, hw9⟩

set_option maxRecDepth 100000 in
theorem lifted (os : Os) (started : os.Started) (H : Type) (enc : TypeId × Value → H) :
    ReturnsInHanded {} Try.checked os 13 .any (Rows.fnRowsInSpec.pre6 enc Try.prog Try.f13 Rows.fnRowsInRow.domain false) (Rows.fnRowsInSpec.post enc Try.prog Try.f13 false true false false) := by
  refine returnsInHanded_of_change (C := Try.checked) Whole.own started (by kernel_rfl) Try.func13
    (ChangeSpec.witness6 (enc := enc) (C := Try.checked) false ⟨#[], #[.slice none 0 0], []⟩ 8 (by kernel_rfl) (by kernel_rfl) (by kernel_rfl) (by kernel_rfl)) ?_
  intro W base args ds gs before hval0 hW hcnd _
  have hval : ∀ (j : Nat) t v, Try.f13.params[j]? = some t → args[j]? = some v → Value.okWide Try.prog W .any base t v := hval0
  have hW' := hW
  obtain ⟨p, q, hA0, hV, rfl, hfz, hnd⟩ := hW
  have hA : DataW.TrodAll enc Try.prog W 0 (fun _ => true) true Try.f13.params.toList args.toList ds p := hA0
  rw [Try.params13] at hA hval
  obtain ⟨v0, vs0, d0, ds0, p0, q0, hargs, rfl, rfl, h0, r0⟩ := trodAll_cons hA
  obtain ⟨rfl, rfl, rfl⟩ := trodAll_nil r0
  obtain rfl : args = #[v0] := by cases args; simp_all
  obtain ⟨rfl, rfl⟩ := trodVars_none hV
  have k0 := h0
  have lt0 : ∀ x ∈ p0, x.block < W.heap.size := by obtain ⟨m, hm⟩ := k0; exact DataW.trod_lt m _ _ _ hm
  obtain ⟨A0, n0, c0, rfl, hc0, hm0, hr0⟩ := openBytes (hval 0 46 v0 rfl rfl) h0
  clear hA0 hval0
  refine (walk A0 n0 c0 W hc0 hm0 hr0).mono fun e W' ⟨he, bel⟩ => ?_
  subst he
  exact ⟨_, rfl, _, _, _, [], _, [], hW', trodAll_mk1 (shut_bool Try.underlying4 _), (trodAll_cons_mk (Below.trod Whole.laidOut (by kernel_rfl) (of_decide_eq_true (by kernel_rfl)) k0 bel lt0) trodAll_mk0), rfl, bel.frame _, fun h => by cases h⟩

theorem named : Try.prog.funcNamed Rows.fnRowsInRow.func = some 13 := by kernel_rfl
theorem closed : Whole.lawFacts Try.prog 13 Try.f13 Rows.fnRowsInSpec Rows.fnRowsInRow = true := by kernel_rfl
theorem inst : Try.f13.isInstance Try.prog Rows.fnRowsInRow.origin Rows.fnRowsInRow.targs := of_decide_eq_true (by kernel_rfl)
theorem wrap : Try.f13.isWrapper Try.prog Rows.fnRowsInRow.wrapper Rows.fnRowsInRow.mainSum := by
  unfold Func.isWrapper; first | (rw [if_pos (by decide +kernel)]; kernel_rfl) | (rw [if_neg (by decide +kernel)]; exact ⟨rfl, rfl⟩)
theorem over : Rows.fnRowsInRow.holds Try.pinned (OpenSpec.ofChange Rows.fnRowsInSpec) :=
  OpenClaim.holds_of_wide 13 Try.f13 rfl rfl rfl rfl rfl rfl rfl ⟨rfl, rfl, rfl, rfl, rfl⟩ rfl rfl rfl rfl rfl named Try.func13 (Whole.facts_of closed)
    inst wrap (fun os started H enc _ => lifted os started H enc)

theorem proved : Rows.FnRowsInSaid := over
#print axioms proved
end Go.Proofs.Ytabpepddbkipiaa.fnRowsIn
