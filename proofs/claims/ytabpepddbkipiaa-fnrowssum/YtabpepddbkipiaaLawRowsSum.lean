/- The law FnRowsSum: for every two codes, of the rows that the first draws: all numbers together are those from one place on, and those below it: for every input the call returns true, and the arguments read afterwards as before. No conditions. -/
import Derived.Test.YtabpepddbkipiaaRows
import Derived.Test.YtabpepddbkipiaaWhole
import Derived.Test.YtabpepddbkipiaaArgB
import Derived.Test.YtabpepddbkipiaaWp
import Derived.Test.YtabpepddbkipiaaDraw4
import Derived.WalkKit
import Derived.ProofKit
import Derived.OpenShut
import Derived.ShutString
import Derived.ChangeOld
import Derived.Below
namespace Go.Proofs.Ytabpepddbkipiaa.fnRowsSum
open Go.ChangeShapes Go.WideShapes Go.ChangeAt Go.RowKit
open Go.ChangeMaps (open_string shut_string)
set_option linter.unusedVariables false

theorem part_rows {l : List R} (h : RowsP l) (k : Nat) : RowsP (l.take k) ∧ RowsP (l.drop k) := by
  obtain ⟨h1, h2, h3⟩ := rowsP_iff.1 h
  refine ⟨rowsP_iff.2 ⟨by simp; omega, fun r hr => h2 r (List.mem_of_mem_take hr), ?_⟩, rowsP_iff.2 ⟨by simp; omega, fun r hr => h2 r (List.mem_of_mem_drop hr), ?_⟩⟩
  · exact List.Pairwise.sublist (List.take_sublist k l) h3
  · exact List.Pairwise.sublist (List.drop_sublist k l) h3
theorem sum_small {l : List R} (h : RowsP l) : -9990 ≤ sumN l ∧ sumN l ≤ 9990 := by
  have := h.part l.length
  rw [List.take_length] at this
  unfold sumN; rw [rowsB_yes h]; exact this
theorem sum_parts {l : List R} (h : RowsP l) (k : Nat) : sumN (l.take k) + sumN (l.drop k) = sumN l := by
  obtain ⟨h1, h2⟩ := part_rows h k
  unfold sumN
  rw [rowsB_yes h1, rowsB_yes h2, rowsB_yes h]
  simp only [if_true]
  rw [← sums_append, List.take_append_drop]
theorem sum_nil : sumN ([] : List R) = 0 := by unfold sumN; simp [sums]
theorem implSumN (A : Option Addr) (n c : Nat) (l : List R) (hn : l.length = n) (w : World) (hfit : FitR l) (hc : l.length ≤ 2097152) (hr : Rd w w.heap.size A l) :
    Calls Try.prog 39 #[.slice A n c] w fun e w' => e = .returned (.int .i64 (sumN l)) ∧ Below w.heap.size w w' := by
  subst hn
  exact implSum A c l w hfit hc hr
set_option maxRecDepth 100000 in
set_option maxHeartbeats 1000000 in
theorem walk (A0 : Option Addr) (n0 c0 : Nat) (A1 : Option Addr) (n1 c1 : Nat) (w : World) (hc0 : n0 ≤ c0) (hm0 : c0 ≤ maxLen) (hr0 : RdB w w.heap.size A0 n0) (hc1 : n1 ≤ c1) (hm1 : c1 ≤ maxLen) (hr1 : RdB w w.heap.size A1 n1) :
    Calls Try.prog 14 #[.slice A0 n0 c0, .slice A1 n1 c1] w fun e w' => e = .returned (.bool true) ∧ Below w.heap.size w w' := by
  by_cases hn : (1048576 : Int) < (n0 : Int)
  · go_enter Try.func14, Try.ntmps14
    go_wp2
    go_ret
    exact ⟨rfl, Below.refl _ _⟩
  by_cases hn1 : (1048576 : Int) < (n1 : Int)
  · go_enter Try.func14, Try.ntmps14
    go_wp2
    go_ret
    exact ⟨rfl, Below.refl _ _⟩
  go_enter Try.func14, Try.ntmps14
  go_wp2_with fail
  refine (drawSum A0 n0 c0 w hc0 hm0 hr0).mono ?_
  rintro e w1 ⟨v, l, rfl, hO1, hf, hl, hb1⟩
  go_wp2_with fail
  refine (implSumO hO1 hf (by omega)).mono ?_
  rintro e w2 ⟨rfl, hb2⟩
  have hw2 := below_next hb1 hb2
  have hO2 := hO1.next hb2
  go_wp2_with fail
  refine (specSumO hO2 hf (by omega)).mono ?_
  rintro e w3 ⟨rfl, hb3⟩
  have hw3 := below_next hw2 hb3
  have hO3 := hO2.next hb3
  cases hok : rowsB l
  · go_wp2_with fail
    refine (specOkO hO3 hf).mono ?_
    rintro e w4 ⟨rfl, hb4⟩
    rw [hok]
    have hw4 := below_next hw3 hb4
    go_wp2_with fail
    refine (specSumO (hO3.next hb4) hf (by omega)).mono ?_
    rintro e w5 ⟨rfl, hb5⟩
    go_wp2
    go_ret
    exact ⟨by simp, below_next hw4 hb5⟩
  have hP := rowsB_iff.1 hok
  go_wp2_with fail
  refine (specOkO hO3 hf).mono ?_
  rintro e w4 ⟨rfl, hb4⟩
  rw [hok]
  have hw4 := below_next hw3 hb4
  have hO4 := hO3.next hb4
  clear hO1 hO2 hO3
  obtain ⟨Al, cl, evl, hlc, hlm, hrd⟩ := hO4.read
  subst evl
  obtain ⟨k, hkl, hke⟩ : ∃ k : Nat, k ≤ l.length ∧ (n1 : Int) % ((l.length : Int) + 1) = (k : Int) := ⟨n1 % (l.length + 1), Nat.lt_succ_iff.1 (Nat.mod_lt _ (by omega)), by rw [Int.natCast_emod]; rfl⟩
  obtain ⟨hP1, hP2⟩ := part_rows hP k
  have b1 := sum_small hP1
  have b2 := sum_small hP2
  have hsum := sum_parts hP k
  have hf1 : FitR (l.take k) := fun r hr => hf r (List.mem_of_mem_take hr)
  have hf2 : FitR (l.drop k) := fun r hr => hf r (List.mem_of_mem_drop hr)
  have hwrap : IntKind.i64.wrap (sumN (l.take k) + sumN (l.drop k)) = sumN (l.take k) + sumN (l.drop k) := IntWalk.i64_in _ (by omega)
  have heq : (sumN (l.take k) + sumN (l.drop k) == sumN l) = true := by rw [hsum]; simp
  have HSUM := Lib.hid hsum
  clear hsum
  have hi1 : (0 : Int) ≤ (k : Int) := by omega
  have hi2 : (k : Int) ≤ (l.length : Int) := by omega
  have hi3 : (k : Int) ≤ (cl : Int) := by omega
  have hcut := runCut 26 Try.underlying26 Al l.length cl k hkl hlc
  have hT : Below w4.heap.size w4 w4.drew := (Below.refl _ _).drew
  have HN := Lib.hid sum_nil
  go_wp2
  go_region_held3 (fun W => Below w4.heap.size w4 W) (first | assumption)
    (first
      | (go_at_call_of 39 (Value.slice none 0 0); refine (implSumN none 0 0 [] rfl _ fitNil (by simp) Rd.nil).mono ?_; rintro e wn ⟨rfl, hbn⟩; have hT := below_next (a := w4) (by assumption) hbn; rw [HN.out])
      | (go_at_call_of 39 (Value.slice Al k cl); refine (implSumN Al k cl (l.take k) (by simp; omega) _ hf1 (by simp; omega) (rdTk hrd k (by assumption))).mono ?_; rintro e wa ⟨rfl, hba⟩; have hT := below_next (a := w4) (by assumption) hba)
      | (go_at_call_of 39 (Value.slice (cutA Al cl k) (l.length - k) (cl - k)); refine (implSumN (cutA Al cl k) (l.length - k) (cl - k) (l.drop k) (by simp) _ hf2 (by simp; omega) (rdDp hrd k cl hlc (by assumption))).mono ?_; rintro e wb ⟨rfl, hbb⟩; have hT := below_next (a := w4) (by assumption) hbb))
  all_goals
    go_wp2
    go_ret
    exact ⟨rfl, below_next hw4 hT⟩

set_option maxRecDepth 100000 in
theorem lifted (os : Os) (started : os.Started) (H : Type) (enc : TypeId × Value → H) :
    ReturnsInHanded {} Try.checked os 14 .any (Rows.fnRowsSumSpec.pre6 enc Try.prog Try.f14 Rows.fnRowsSumRow.domain false) (Rows.fnRowsSumSpec.post enc Try.prog Try.f14 false true false false) := by
  refine returnsInHanded_of_change (C := Try.checked) Whole.own started (by kernel_rfl) Try.func14
    (ChangeSpec.witness6 (enc := enc) (C := Try.checked) false ⟨#[], #[.slice none 0 0, .slice none 0 0], []⟩ 8 (by kernel_rfl) (by kernel_rfl) (by kernel_rfl) (by kernel_rfl)) ?_
  intro W base args ds gs before hval0 hW hcnd _
  have hval : ∀ (j : Nat) t v, Try.f14.params[j]? = some t → args[j]? = some v → Value.okWide Try.prog W .any base t v := hval0
  have hW' := hW
  obtain ⟨p, q, hA0, hV, rfl, hfz, hnd⟩ := hW
  have hA : DataW.TrodAll enc Try.prog W 0 (fun _ => true) true Try.f14.params.toList args.toList ds p := hA0
  rw [Try.params14] at hA hval
  obtain ⟨v0, vs0, d0, ds0, p0, q0, hargs, rfl, rfl, h0, r0⟩ := trodAll_cons hA
  obtain ⟨v1, vs1, d1, ds1, p1, q1, rfl, rfl, rfl, h1, r1⟩ := trodAll_cons r0
  obtain ⟨rfl, rfl, rfl⟩ := trodAll_nil r1
  obtain rfl : args = #[v0, v1] := by cases args; simp_all
  obtain ⟨rfl, rfl⟩ := trodVars_none hV
  have k0 := h0
  have lt0 : ∀ x ∈ p0, x.block < W.heap.size := by obtain ⟨m, hm⟩ := k0; exact DataW.trod_lt m _ _ _ hm
  obtain ⟨A0, n0, c0, rfl, hc0, hm0, hr0⟩ := openBytes (hval 0 46 v0 rfl rfl) h0
  have k1 := h1
  have lt1 : ∀ x ∈ p1, x.block < W.heap.size := by obtain ⟨m, hm⟩ := k1; exact DataW.trod_lt m _ _ _ hm
  obtain ⟨A1, n1, c1, rfl, hc1, hm1, hr1⟩ := openBytes (hval 1 46 v1 rfl rfl) h1
  clear hA0 hval0
  refine (walk A0 n0 c0 A1 n1 c1 W hc0 hm0 hr0 hc1 hm1 hr1).mono fun e W' ⟨he, bel⟩ => ?_
  subst he
  exact ⟨_, rfl, _, _, _, [], _, [], hW', trodAll_mk1 (shut_bool Try.underlying4 _), (trodAll_cons_mk (Below.trod Whole.laidOut (by kernel_rfl) (of_decide_eq_true (by kernel_rfl)) k0 bel lt0) (trodAll_cons_mk (Below.trod Whole.laidOut (by kernel_rfl) (of_decide_eq_true (by kernel_rfl)) k1 bel lt1) trodAll_mk0)), rfl, bel.frame _, fun h => by cases h⟩

theorem named : Try.prog.funcNamed Rows.fnRowsSumRow.func = some 14 := by kernel_rfl
theorem closed : Whole.lawFacts Try.prog 14 Try.f14 Rows.fnRowsSumSpec Rows.fnRowsSumRow = true := by kernel_rfl
theorem inst : Try.f14.isInstance Try.prog Rows.fnRowsSumRow.origin Rows.fnRowsSumRow.targs := of_decide_eq_true (by kernel_rfl)
theorem wrap : Try.f14.isWrapper Try.prog Rows.fnRowsSumRow.wrapper Rows.fnRowsSumRow.mainSum := by
  unfold Func.isWrapper; first | (rw [if_pos (by decide +kernel)]; kernel_rfl) | (rw [if_neg (by decide +kernel)]; exact ⟨rfl, rfl⟩)
theorem over : Rows.fnRowsSumRow.holds Try.pinned (OpenSpec.ofChange Rows.fnRowsSumSpec) :=
  OpenClaim.holds_of_wide 14 Try.f14 rfl rfl rfl rfl rfl rfl rfl ⟨rfl, rfl, rfl, rfl, rfl⟩ rfl rfl rfl rfl rfl named Try.func14 (Whole.facts_of closed)
    inst wrap (fun os started H enc _ => lifted os started H enc)

theorem proved : Rows.FnRowsSumSaid := over
#print axioms proved
end Go.Proofs.Ytabpepddbkipiaa.fnRowsSum
