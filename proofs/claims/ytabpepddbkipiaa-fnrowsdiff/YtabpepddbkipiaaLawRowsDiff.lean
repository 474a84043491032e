/- FnRowsDiff: what RowsDiff promises. -/
import Derived.Test.YtabpepddbkipiaaRows
import Derived.Test.YtabpepddbkipiaaWhole
import Derived.Test.YtabpepddbkipiaaArgB
import Derived.Test.YtabpepddbkipiaaDraw5
import Derived.Test.YtabpepddbkipiaaDiff3
import Derived.WalkKit
import Derived.ProofKit
import Derived.OpenShut
import Derived.ShutString
import Derived.ChangeOld
import Derived.Below
namespace Go.Proofs.Ytabpepddbkipiaa.fnRowsDiff
open Go.ChangeShapes Go.WideShapes Go.ChangeAt Go.RowKit
open Go.ChangeMaps (open_string shut_string)
set_option linter.unusedVariables false

theorem diff_bits {a b : List R} (ha : rowsB a = true) (hb : rowsB b = true) {k : ByteArray} (h : look k a ≠ look k b) : (getB a k == getB b k) = false ∨ ((getB a k == getB b k) = true ∧ (getN a k == getN b k) = false) := by
  rw [getB_eq, getB_eq, getN_eq a k ha, getN_eq b k hb, ha, hb]
  cases e1 : look k a <;> cases e2 : look k b
  · rw [e1, e2] at h; exact absurd rfl h
  · left; rfl
  · left; rfl
  · right
    rw [e1, e2] at h
    refine ⟨rfl, ?_⟩
    simp at h ⊢
    exact h
set_option maxRecDepth 100000 in
set_option maxHeartbeats 1000000 in
theorem walk (A0 : Option Addr) (n0 c0 : Nat) (w : World) (hc0 : n0 ≤ c0) (hm0 : c0 ≤ maxLen) (hr0 : RdB w w.heap.size A0 n0) :
    Calls Try.prog 15 #[.slice A0 n0 c0] w fun e w' => e = .returned (.bool true) ∧ Below w.heap.size w w' := by
  by_cases hn : (1048576 : Int) < (n0 : Int)
  · go_enter Try.func15, Try.ntmps15
    go_wp2
    go_ret
    exact ⟨rfl, Below.refl _ _⟩
  go_enter Try.func15, Try.ntmps15
  go_wp2_with fail
  refine (drawDiff A0 n0 c0 w hc0 hm0 hr0).mono ?_
  rintro e w1 ⟨va, la, vb, lb, rfl, hA1, hfa, hla, hB1, hfb, hlb, hb1⟩
  have hdl := diffV_length la lb
  have HS := Lib.hid (diffV_symm lb la)
  go_wp2_with fail
  refine (implDiffO hA1 hB1 hfa hfb (by omega) (by omega)).mono ?_
  rintro e w2 ⟨v2, rfl, hX2, hb2⟩
  have hw2 := below_next hb1 hb2
  have hA2 := hA1.next hb2
  have hB2 := hB1.next hb2
  clear hA1 hB1
  go_wp2_with fail
  refine (specDiffO hA2 hB2 hfa hfb (by omega) (by omega)).mono ?_
  rintro e w3 ⟨v3, rfl, hY3, hb3⟩
  have hw3 := below_next hw2 hb3
  have hA3 := hA2.next hb3
  have hB3 := hB2.next hb3
  have hX3 := hX2.next hb3
  clear hA2 hB2 hX2
  go_wp2_with fail
  refine (wpTexts_o hX3 hY3 (by omega) (by omega)).mono ?_
  rintro e w4 ⟨rfl, hb4⟩
  rw [eqT_yes rfl]
  have hw4 := below_next hw3 hb4
  have hA4 := hA3.next hb4
  have hB4 := hB3.next hb4
  have hX4 := hX3.next hb4
  clear hA3 hB3 hX3 hY3
  go_wp2_with fail
  refine (implDiffO hB4 hA4 hfb hfa (by omega) (by omega)).mono ?_
  rw [HS.out]
  rintro e w5 ⟨v5, rfl, hY5, hb5⟩
  have hw5 := below_next hw4 hb5
  have hA5 := hA4.next hb5
  have hB5 := hB4.next hb5
  have hX5 := hX4.next hb5
  clear hA4 hB4 hX4
  go_wp2_with fail
  refine (wpTexts_o hX5 hY5 (by omega) (by omega)).mono ?_
  rintro e w6 ⟨rfl, hb6⟩
  rw [eqT_yes rfl]
  have hw6 := below_next hw5 hb6
  have hA6 := hA5.next hb6
  have hB6 := hB5.next hb6
  have hX6 := hX5.next hb6
  clear hA5 hB5 hX5 hY5
  cases hoa : rowsB la
  · have h0 : (diffV la lb).length = 0 := by unfold diffV; rw [hoa]; rfl
    have h0b : (((diffV la lb).length : Int) == 0) = true := beq_iff_eq.2 (by omega)
    obtain ⟨A6, c6, ev, _, _, _⟩ := hX6.read
    subst ev
    go_wp2_with fail
    refine (specOkO hA6 hfa).mono ?_
    rintro e w7 ⟨rfl, hb7⟩
    rw [hoa]
    go_wp2
    go_ret
    exact ⟨rfl, below_next hw6 hb7⟩
  cases hob : rowsB lb
  · have h0 : (diffV la lb).length = 0 := by unfold diffV; rw [hob]; simp
    have h0b : (((diffV la lb).length : Int) == 0) = true := beq_iff_eq.2 (by omega)
    obtain ⟨A6, c6, ev, _, _, _⟩ := hX6.read
    subst ev
    go_wp2_with fail
    refine (specOkO hA6 hfa).mono ?_
    rintro e w7 ⟨rfl, hb7⟩
    rw [hoa]
    have hw7 := below_next hw6 hb7
    go_wp2_with fail
    refine (specOkO (hB6.next hb7) hfb).mono ?_
    rintro e w8 ⟨rfl, hb8⟩
    rw [hob]
    go_wp2
    go_ret
    exact ⟨rfl, below_next hw7 hb8⟩
  have hSa := (rowsB_iff.1 hoa).srt
  have hSb := (rowsB_iff.1 hob).srt
  have hdv : diffV la lb = diffL la lb := by unfold diffV; rw [hoa, hob]; rfl
  rw [hdv] at hX6 hdl
  obtain ⟨d, hXd, hdd, HNIL, HGET, HSTEP⟩ : ∃ d : List ByteArray, OwnS w6 w1.heap.size v2 d ∧ d.length ≤ la.length + lb.length ∧ Go.RowKit.Hid (d = [] ↔ la = lb) ∧
      Go.RowKit.Hid (∀ k (hk : k < d.length), (getB la d[k] == getB lb d[k]) = false ∨ ((getB la d[k] == getB lb d[k]) = true ∧ (getN la d[k] == getN lb d[k]) = false)) ∧
      Go.RowKit.Hid (∀ k (h0 : 0 < k) (hk : k < d.length), lt (d[k - 1]'(by omega)) d[k] = true) :=
    ⟨diffL la lb, hX6, hdl, Lib.hid (diffL_nil hSa hSb), Lib.hid fun k hk => diff_bits hoa hob (diffL_get hSa hSb hk), Lib.hid fun k h0 hk => diffL_step hSa hSb h0 hk⟩
  clear hX6 hdl hdv
  have hX6 := hXd
  clear hXd
  go_wp2_with fail
  refine (specOkO hA6 hfa).mono ?_
  rintro e w7 ⟨rfl, hb7⟩
  rw [hoa]
  have hw7 := below_next hw6 hb7
  have hA7 := hA6.next hb7
  have hB7 := hB6.next hb7
  have hX7 := hX6.next hb7
  clear hA6 hB6 hX6
  go_wp2_with fail
  refine (specOkO hB7 hfb).mono ?_
  rintro e w8 ⟨rfl, hb8⟩
  rw [hob]
  have hw8 := below_next hw7 hb8
  have hA8 := hA7.next hb8
  have hB8 := hB7.next hb8
  have hX8 := hX7.next hb8
  clear hA7 hB7 hX7
  obtain ⟨Ax, cx, evx, hxc, hxm, hrdx⟩ := hX8.read
  subst evx
  go_wp2
  go_loopw [6] (fun i W => ∃ k : Nat, k ≤ d.length ∧ i = .int .i64 k ∧ Below w8.heap.size w8 W) (fun i _ => d.length - (intOf i).toNat)
  case atStart => exact ⟨0, Nat.zero_le _, rfl, Below.refl _ _⟩
  case round =>
    obtain ⟨k, hkl, rfl, hb⟩ := hrel
    by_cases hlt : k < d.length
    · obtain ⟨b, o, hAl, hbB, hc1⟩ := (hrdx.below hb).at_ hlt
      have hq : b < wr.heap.size := Nat.lt_of_lt_of_le hbB hb.size
      have hAr := hA8.next hb
      have hBr := hB8.next hb
      have hbit := Lib.hid (HGET.out k hlt)
      have HAL := Lib.hid hAl
      clear hAl
      rw [HAL.out]
      go_wp2_with fail
      refine (implGetO d[k] hAr hfa (by omega)).mono ?_
      rintro e w9 ⟨rfl, hb9⟩
      have hb9' := below_next hb hb9
      have hBr9 := hBr.next hb9
      have hd9 := (hb9.cell (p := ⟨b, o + k, none⟩) hq).trans hc1
      have hq9 : b < w9.heap.size := Nat.lt_of_lt_of_le hq hb9.size
      clear hb9
      go_wp2_with fail
      refine (implGetO d[k] hBr9 hfb (by omega)).mono ?_
      rintro e w10 ⟨rfl, hb10⟩
      have hb10' := below_next hb9' hb10
      have hd10 := (hb10.cell (p := ⟨b, o + k, none⟩) hq9).trans hd9
      have hrx := hrdx.below hb10'
      clear hb10 hb9' hd9 hc1
      generalize getB la d[k] = ga at *
      generalize getB lb d[k] = gb at *
      generalize getN la d[k] = na at *
      generalize getN lb d[k] = nb at *
      have HE : (ga == gb) = false ∨ ((ga == gb) = true ∧ (na == nb) = false) := hbit.out
      by_cases hk0 : k = 0
      · have p0 : decide (0 < k) = false := decide_eq_false (by omega)
        have p1 : decide ((0 : Int) < (k : Int)) = false := decide_eq_false (by omega)
        have K0 := Lib.hid hk0
        clear hk0
        rcases HE with he | ⟨he, he2⟩
        · go_wp2
          go_quiet (fail)
          go_wp2
          go_roundw
          case rel => exact ⟨k + 1, by omega, by go_num, below_drewN hb10' _⟩
          case measure => simp [intOf]; omega
        · go_wp2
          go_quiet (fail)
          go_wp2
          go_roundw
          case rel => exact ⟨k + 1, by omega, by go_num, below_drewN hb10' _⟩
          case measure => simp [intOf]; omega
      · have p0 : decide (0 < k) = true := decide_eq_true (by omega)
        have p1 : decide ((0 : Int) < (k : Int)) = true := decide_eq_true (by omega)
        obtain ⟨b', o', hAl', hbB', hc1'⟩ := hrx.at_ (i := k - 1) (by omega)
        have e1 : b' = b ∧ o' = o := by
          have := HAL.out.symm.trans hAl'
          injection this with this
          injection this with h1 h2 h3
          exact ⟨h1.symm, h2.symm⟩
        obtain ⟨rfl, rfl⟩ := e1
        clear hAl'
        have hs : Op.bytesLess (d[k - 1]'(by omega)).toList d[k].toList = true := HSTEP.out k (by omega) hlt
        have hi1 : ((k : Int) - 1).toNat = k - 1 := by omega
        have hi2 : (0 : Int) ≤ (k : Int) - 1 := by omega
        have hi3 : (k : Int) - 1 < (d.length : Int) := by omega
        rcases HE with he | ⟨he, he2⟩
        · go_wp2
          go_quiet (fail)
          go_wp2
          go_roundw
          case rel => exact ⟨k + 1, by omega, by go_num, below_drewN hb10' _⟩
          case measure => simp [intOf]; omega
        · go_wp2
          go_quiet (fail)
          go_wp2
          go_roundw
          case rel => exact ⟨k + 1, by omega, by go_num, below_drewN hb10' _⟩
          case measure => simp [intOf]; omega
    · have hw9 := below_next hw8 hb
      have hAr := hA8.next hb
      have hBr := hB8.next hb
      go_wp2_with fail
      refine (wpO hAr hBr (by omega) (by omega)).mono ?_
      rintro e w10 ⟨rfl, hb10⟩
      have hfin : (((d.length : Int) == 0) == eqL la lb) = true := by
        by_cases e : la = lb
        · rw [eqL_yes e, HNIL.out.2 e]; rfl
        · rw [eqL_no e]
          have : d ≠ [] := fun h => e (HNIL.out.1 h)
          have : d.length ≠ 0 := fun h => this (List.eq_nil_of_length_eq_zero h)
          simp; exact this ∘ fun h => by simp [h]
      go_wp2
      go_ret
      exact ⟨rfl, below_next hw9 hb10⟩

set_option maxRecDepth 100000 in
theorem lifted (os : Os) (started : os.Started) (H : Type) (enc : TypeId × Value → H) :
    ReturnsInHanded {} Try.checked os 15 .any (Rows.fnRowsDiffSpec.pre6 enc Try.prog Try.f15 Rows.fnRowsDiffRow.domain false) (Rows.fnRowsDiffSpec.post enc Try.prog Try.f15 false true false false) := by
  refine returnsInHanded_of_change (C := Try.checked) Whole.own started (by kernel_rfl) Try.func15
    (ChangeSpec.witness6 (enc := enc) (C := Try.checked) false ⟨#[], #[.slice none 0 0], []⟩ 8 (by kernel_rfl) (by kernel_rfl) (by kernel_rfl) (by kernel_rfl)) ?_
  intro W base args ds gs before hval0 hW hcnd _
  have hval : ∀ (j : Nat) t v, Try.f15.params[j]? = some t → args[j]? = some v → Value.okWide Try.prog W .any base t v := hval0
  have hW' := hW
  obtain ⟨p, q, hA0, hV, rfl, hfz, hnd⟩ := hW
  have hA : DataW.TrodAll enc Try.prog W 0 (fun _ => true) true Try.f15.params.toList args.toList ds p := hA0
  rw [Try.params15] at hA hval
  obtain ⟨v0, vs0, d0, ds0, p0, q0, hargs, rfl, rfl, h0, r0⟩ := trodAll_cons hA
  obtain ⟨rfl, rfl, rfl⟩ := trodAll_nil r0
  obtain rfl : args = #[v0] := by cases args; simp_all
  obtain ⟨rfl, rfl⟩ := trodVars_none hV
  have k0 := h0
  have lt0 : ∀ x ∈ p0, x.block < W.heap.size := by obtain ⟨m, hm⟩ := k0; exact DataW.trod_lt m _ _ _ hm
  obtain ⟨A0, n0, c0, rfl, hc0, hm0, hr0⟩ := openBytes (hval 0 46 v0 rfl rfl) h0
  clear hA0 hval0
  refine (walk A0 n0 c0 W hc0 hm0 hr0).mono fun e W' ⟨he, bel⟩ => ?_
  subst he
  exact ⟨_, rfl, _, _, _, [], _, [], hW', trodAll_mk1 (shut_bool Try.underlying4 _), (trodAll_cons_mk (Below.trod Whole.laidOut (by kernel_rfl) (of_decide_eq_true (by kernel_rfl)) k0 bel lt0) trodAll_mk0), rfl, bel.frame _, fun h => by cases h⟩

theorem named : Try.prog.funcNamed Rows.fnRowsDiffRow.func = some 15 := by kernel_rfl
theorem closed : Whole.lawFacts Try.prog 15 Try.f15 Rows.fnRowsDiffSpec Rows.fnRowsDiffRow = true := by kernel_rfl
theorem inst : Try.f15.isInstance Try.prog Rows.fnRowsDiffRow.origin Rows.fnRowsDiffRow.targs := of_decide_eq_true (by kernel_rfl)
theorem wrap : Try.f15.isWrapper Try.prog Rows.fnRowsDiffRow.wrapper Rows.fnRowsDiffRow.mainSum := by
  unfold Func.isWrapper; first | (rw [if_pos (by decide +kernel)]; kernel_rfl) | (rw [if_neg (by decide +kernel)]; exact ⟨rfl, rfl⟩)
theorem over : Rows.fnRowsDiffRow.holds Try.pinned (OpenSpec.ofChange Rows.fnRowsDiffSpec) :=
  OpenClaim.holds_of_wide 15 Try.f15 rfl rfl rfl rfl rfl rfl rfl ⟨rfl, rfl, rfl, rfl, rfl⟩ rfl rfl rfl rfl rfl named Try.func15 (Whole.facts_of closed)
    inst wrap (fun os started H enc _ => lifted os started H enc)

theorem proved : Rows.FnRowsDiffSaid := over
#print axioms proved
end Go.Proofs.Ytabpepddbkipiaa.fnRowsDiff
