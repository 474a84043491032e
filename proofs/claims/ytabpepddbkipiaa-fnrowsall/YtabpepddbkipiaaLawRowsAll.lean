/- FnRowsAll: every row of a valid list is found. -/
import Derived.Test.YtabpepddbkipiaaRows
import Derived.Test.YtabpepddbkipiaaWhole
import Derived.Test.YtabpepddbkipiaaArgB
import Derived.Test.YtabpepddbkipiaaDraw5
import Derived.Test.YtabpepddbkipiaaIn4
import Derived.WalkKit
import Derived.ProofKit
import Derived.OpenShut
import Derived.ShutString
import Derived.ChangeOld
import Derived.Below
namespace Go.Proofs.Ytabpepddbkipiaa.fnRowsAll
open Go.ChangeShapes Go.WideShapes Go.ChangeAt Go.RowKit
open Go.ChangeMaps (open_string shut_string)
set_option linter.unusedVariables false

set_option maxRecDepth 100000 in
set_option maxHeartbeats 1000000 in
theorem walk (A0 : Option Addr) (n0 c0 : Nat) (w : World) (hc0 : n0 ≤ c0) (hm0 : c0 ≤ maxLen) (hr0 : RdB w w.heap.size A0 n0) :
    Calls Try.prog 17 #[.slice A0 n0 c0] w fun e w' => e = .returned (.bool true) ∧ Below w.heap.size w w' := by
  by_cases hn : (1048576 : Int) < (n0 : Int)
  · go_enter Try.func17, Try.ntmps17
    go_wp2
    go_ret
    exact ⟨rfl, Below.refl _ _⟩
  go_enter Try.func17, Try.ntmps17
  go_wp2_with fail
  refine (drawOk A0 n0 c0 w hc0 hm0 hr0).mono ?_
  rintro e w1 ⟨v, l, rfl, hO1, hf, hl, hb1⟩
  go_wp2_with fail
  refine (implOkO hO1 hf (by omega)).mono ?_
  rintro e w2 ⟨rfl, hb2⟩
  have hw2 := below_next hb1 hb2
  have hO2 := hO1.next hb2
  go_wp2_with fail
  refine (specOkO hO2 hf).mono ?_
  rintro e w3 ⟨rfl, hb3⟩
  have hw3 := below_next hw2 hb3
  have hO3 := hO2.next hb3
  clear hO1 hO2
  cases hok : rowsB l
  · go_wp2_with fail
    refine (specOkO hO3 hf).mono ?_
    rintro e w4 ⟨rfl, hb4⟩
    rw [hok]
    go_wp2
    go_ret
    exact ⟨rfl, below_next hw3 hb4⟩
  have hP := rowsB_iff.1 hok
  have hS := hP.srt
  have hall := (rowsP_iff.1 hP).2.1
  have hl10 := (rowsP_iff.1 hP).1
  have HG : ∀ k (hk : k < l.length), getB l l[k].1 = true ∧ getN l l[k].1 = l[k].2 ∧ keyB l[k].1 = true := fun k hk => by
    have hm := List.getElem_mem hk
    have h1 := mem_look hS hm
    refine ⟨by rw [getB_eq, hok, h1]; rfl, by rw [getN_eq _ _ hok, h1]; rfl, (hall _ hm).1⟩
  have HE : getB l ⟨#[]⟩ = false := by rw [getB_eq, look_emp hP]; simp
  have HI : inV l ⟨#[]⟩ ⟨#[122, 122, 122]⟩ = l := by unfold inV; rw [hok]; exact in_all hP
  have HG := Lib.hid HG
  have HE := Lib.hid HE
  have HI := Lib.hid HI
  clear hall hP hS
  obtain ⟨Al, cl, evl, hlc, hlm, hrdl⟩ := hO3.read
  subst evl
  go_wp2
  go_loopw [5] (fun i W => ∃ k : Nat, k ≤ l.length ∧ i = .int .i64 k ∧ Below w3.heap.size w3 W) (fun i _ => l.length - (intOf i).toNat)
  case atStart => exact ⟨0, Nat.zero_le _, rfl, Below.refl _ _⟩
  case round =>
    obtain ⟨k, hkl, rfl, hb⟩ := hrel
    by_cases hlt : k < l.length
    · obtain ⟨b, o, hAl, hbB, hc1, hc2⟩ := (hrdl.below hb).at_ hlt
      have hq : b < wr.heap.size := Nat.lt_of_lt_of_le hbB hb.size
      have hOr := hO3.next hb
      obtain ⟨g1, g2, g3⟩ := HG.out k hlt
      have G1 := Lib.hid g1
      have G2 := Lib.hid g2
      have G3 := Lib.hid g3
      have HAL := Lib.hid hAl
      have hfk := (hf _ (List.getElem_mem hlt)).1
      clear g1 g2 g3 hAl
      rw [HAL.out]
      go_wp2_with fail
      refine (implGetO l[k].1 (by rw [← HAL.out]; exact hOr) hf (by omega)).mono ?_
      rintro e w8 ⟨rfl, hb8⟩
      rw [G1.out, G2.out]
      have d1 := (hb8.cell (p := ⟨b, o + k * 2, none⟩) hq).trans hc1
      have d2 := (hb8.cell (p := ⟨b, o + k * 2 + 1, none⟩) hq).trans hc2
      go_wp2_with fail
      refine (implKey l[k].1 _ hfk).mono ?_
      rintro e w9 ⟨rfl, rfl⟩
      rw [G3.out]
      go_wp2
      go_roundw
      case rel => exact ⟨k + 1, by omega, by go_num, below_next hb hb8⟩
      case measure => simp [intOf]; omega
    · have hw4 := below_next hw3 hb
      have hO4 := hO3.next hb
      have h10 : (l.length : Int) ≤ 10 := by omega
      go_wp2_with fail
      refine (implGetO ⟨#[]⟩ hO4 hf (by omega)).mono ?_
      rintro e w5 ⟨rfl, hb5⟩
      rw [HE.out]
      have hw5 := below_next hw4 hb5
      have hO5 := hO4.next hb5
      go_wp2_with fail
      refine (implInO _ _ hO5 hf (by omega)).mono ?_
      rw [HI.out]
      rintro e w6 ⟨v6, rfl, hX6, hb6⟩
      have hw6 := below_next hw5 hb6
      have hO6 := hO5.next hb6
      go_wp2_with fail
      refine (wpO hX6 hO6 (by omega) (by omega)).mono ?_
      rintro e w7 ⟨rfl, hb7⟩
      rw [eqL_yes rfl]
      go_wp2
      go_ret
      exact ⟨rfl, below_next hw6 hb7⟩

set_option maxRecDepth 100000 in
theorem lifted (os : Os) (started : os.Started) (H : Type) (enc : TypeId × Value → H) :
    ReturnsInHanded {} Try.checked os 17 .any (Rows.fnRowsAllSpec.pre6 enc Try.prog Try.f17 Rows.fnRowsAllRow.domain false) (Rows.fnRowsAllSpec.post enc Try.prog Try.f17 false true false false) := by
  refine returnsInHanded_of_change (C := Try.checked) Whole.own started (by kernel_rfl) Try.func17
    (ChangeSpec.witness6 (enc := enc) (C := Try.checked) false ⟨#[], #[.slice none 0 0], []⟩ 8 (by kernel_rfl) (by kernel_rfl) (by kernel_rfl) (by kernel_rfl)) ?_
  intro W base args ds gs before hval0 hW hcnd _
  have hval : ∀ (j : Nat) t v, Try.f17.params[j]? = some t → args[j]? = some v → Value.okWide Try.prog W .any base t v := hval0
  have hW' := hW
  obtain ⟨p, q, hA0, hV, rfl, hfz, hnd⟩ := hW
  have hA : DataW.TrodAll enc Try.prog W 0 (fun _ => true) true Try.f17.params.toList args.toList ds p := hA0
  rw [Try.params17] at hA hval
  obtain ⟨v0, vs0, d0, ds0, p0, q0, hargs, rfl, rfl, h0, r0⟩ := trodAll_cons hA
  obtain ⟨rfl, rfl, rfl⟩ := trodAll_nil r0
  obtain rfl : args = #[v0] := by cases args; simp_all
  obtain ⟨rfl, rfl⟩ := trodVars_none hV
  have k0 := h0
  have lt0 : ∀ x ∈ p0, x.block < W.heap.size := by obtain ⟨m, hm⟩ := k0; exact DataW.trod_lt m _ _ _ hm
  obtain ⟨A0, n0, c0, rfl, hc0, hm0, hr0⟩ := openBytes (hval 0 46 v0 rfl rfl) h0
  clear hA0 hval0
  refine (walk A0 n0 c0 W hc0 hm0 hr0).mono fun e W' ⟨he, bel⟩ => ?_
  subst he
  exact ⟨_, rfl, _, _, _, [], _, [], hW', trodAll_mk1 (shut_bool Try.underlying4 _), (trodAll_cons_mk (Below.trod Whole.laidOut (by kernel_rfl) (of_decide_eq_true (by kernel_rfl)) k0 bel lt0) trodAll_mk0), rfl, bel.frame _, fun h => by cases h⟩

theorem named : Try.prog.funcNamed Rows.fnRowsAllRow.func = some 17 := by kernel_rfl
theorem closed : Whole.lawFacts Try.prog 17 Try.f17 Rows.fnRowsAllSpec Rows.fnRowsAllRow = true := by kernel_rfl
theorem inst : Try.f17.isInstance Try.prog Rows.fnRowsAllRow.origin Rows.fnRowsAllRow.targs := of_decide_eq_true (by kernel_rfl)
theorem wrap : Try.f17.isWrapper Try.prog Rows.fnRowsAllRow.wrapper Rows.fnRowsAllRow.mainSum := by
  unfold Func.isWrapper; first | (rw [if_pos (by decide +kernel)]; kernel_rfl) | (rw [if_neg (by decide +kernel)]; exact ⟨rfl, rfl⟩)
theorem over : Rows.fnRowsAllRow.holds Try.pinned (OpenSpec.ofChange Rows.fnRowsAllSpec) :=
  OpenClaim.holds_of_wide 17 Try.f17 rfl rfl rfl rfl rfl rfl rfl ⟨rfl, rfl, rfl, rfl, rfl⟩ rfl rfl rfl rfl rfl named Try.func17 (Whole.facts_of closed)
    inst wrap (fun os started H enc _ => lifted os started H enc)

theorem proved : Rows.FnRowsAllSaid := over
#print axioms proved
end Go.Proofs.Ytabpepddbkipiaa.fnRowsAll
