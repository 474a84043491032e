/- For all texts that the law takes (a bounded size), AskRead of the program answers as the specification's AskRead. No conditions but that the package variables that the row lists hold what the program's text lays in them. -/
import Derived.Test.YtjgfbcmgnjgapaaDoorRows
import Derived.Test.YtjgfbcmgnjgapaaDoorCards
import Derived.Test.YtjgfbcmgnjgapaaDoorTie
import Derived.Test.YtjgfbcmgnjgapaaDoorWhole
import Derived.Test.YtjgfbcmgnjgapaaDoorAkF
import Derived.Test.YtjgfbcmgnjgapaaDoorAkX
import Derived.Test.YtjgfbcmgnjgapaaDoorAkY
import Derived.WalkKit
import Derived.ProofKit
import Derived.OpenShut
import Derived.ShutString
import Derived.ChangeOld
import Derived.Below
import Derived.LaidMore
import Derived.SevenTiedAt
import Derived.Stop.Joined
namespace Go.Proofs.YtjgfbcmgnjgapaaDoor.fnExactAskRead
open Go.ChangeShapes Go.WideShapes Go.ChangeAt Go.RowKit
open Go.ChangeMaps (open_string shut_string)
set_option linter.unusedVariables false

set_option maxRecDepth 100000 in
set_option maxHeartbeats 4000000 in
theorem walk (s0 : ByteArray)  (w : World) (hs0 : s0.size ≤ maxLen) (GE : Glf w) (TE : TabP w) (EE : ErrP w) :
  Calls Tryd.prog 6 #[.string s0] w fun e w' => e = .returned (.bool true) ∧ Below w.heap.size w w' := by
 by_cases hbig : 1048576 < s0.size
 ·
  have hbi : (1048576 : Int) < (s0.size : Int) := by omega
  go_enter Tryd.func6, Tryd.ntmps6
  go_wp2
  go_ret
  exact ⟨rfl, Below.refl _ _⟩
 have hbi : ¬ ((1048576 : Int) < (s0.size : Int)) := by omega
 have hs1 : s0.size ≤ 1048576 := by omega
 obtain ⟨qk, qx, qy, qn, HQ⟩ : ∃ a b c d, Hid (readV s0 = ⟨a, b, c, d⟩) := ⟨_, _, _, _, Lib.hid rfl⟩
 obtain ⟨rb, HB⟩ : ∃ b, Hid (readB s0 = b) := ⟨_, Lib.hid rfl⟩
 have HE := Lib.hid (eqQ4_yes (rfl : (⟨qk, qx, qy, qn⟩ : Q4) = ⟨qk, qx, qy, qn⟩))
 have HG := Lib.hid (And.intro GE (And.intro TE EE))
 clear GE TE EE
 go_enter Tryd.func6, Tryd.ntmps6
 go_wp2_with fail
 refine (specAskRead s0 _ hs1).mono ?_
 unfold RetRead
 rw [HQ.out, HB.out]
 rintro e w1 ⟨rfl, hw1⟩
 obtain ⟨V1, eV1, -, B1, hV1⟩ := al1 w1 rfl #[.int .i64 qk, .string qx, .string qy, .int .i64 qn] 24
 have hw2 := below_next hw1 hV1
 have q0 := B1.c4
 go_wp2_with fail
 clear q0
 refine (implRead s0 V1 hs1 (HG.out.1.next hw2) (HG.out.2.1.next hw2) (HG.out.2.2.next hw2)).mono ?_
 unfold RetRead
 rw [HQ.out, HB.out]
 rintro e w3 ⟨rfl, hw3⟩
 have hw4 := below_next hw2 hw3
 have B3 := B1.next hw3
 clear B1
 obtain ⟨V2, eV2, -, C1, hV2⟩ := al1 w3 rfl #[.int .i64 qk, .string qx, .string qy, .int .i64 qn] 24
 have hw5 := below_next hw4 hV2
 have B4 := B3.next hV2
 clear B3
 have q0 := B4.c4
 have r0 := C1.c4
 go_wp2_with fail
 clear q0 r0
 refine (eqAsk_c ⟨qk, qx, qy, qn⟩ ⟨qk, qx, qy, qn⟩ _).mono ?_
 rw [HE.out]
 rintro e w6 ⟨rfl, hw6⟩
 have hw7 := below_next hw5 hw6
 go_wp2
 go_ret
 exact ⟨rfl, hw7⟩

set_option maxRecDepth 100000 in
theorem lifted (os : Os) (started : os.Started) (H : Type) (enc : TypeId × Value → H) :
  ReturnsInHanded {} Tryd.checked os 6 .any (fun w args => (Rows.fnExactAskReadSpec.pre enc Tryd.prog Tryd.f6 [] false w args ∧ laidMetH Tryd.prog laidR w) ∧ sizedMet enc Tryd.prog Tryd.f6 (OpenSpec.ofChange Rows.fnExactAskReadSpec) false w args)
   (Rows.fnExactAskReadSpec.post enc Tryd.prog Tryd.f6 false true false false) := by
 refine returnsInHanded_of_change_and (C := Tryd.checked) (X := fun w _ => laidMetH Tryd.prog laidR w) (fun _ _ _ hh h => h.of_heap hh) Whole.own started (by kernel_rfl) Tryd.func6
  (ChangeSpec.witness_shaped (enc := enc) (C := Tryd.checked) (os := os) (X := fun w _ => laidMetH Tryd.prog laidR w) false (World.doorLaid Tryd.prog 76 os) #[.string ByteArray.empty] 8 rfl (World.shaped_of_RefB (by kernel_rfl) (by kernel_rfl)) (by kernel_rfl) (by kernel_rfl) (by kernel_rfl) (r_door os _)) ?_
 intro W base args ds gs before hval0 hW _ _ hL _
 have hval : ∀ (j : Nat) t v, Tryd.f6.params[j]? = some t → args[j]? = some v → Value.okWide Tryd.prog W .any base t v := hval0
 have hW' := hW
 obtain ⟨p, q, hA0, hV0, rfl, hfz, hnd⟩ := hW
 have hA : DataW.TrodAll enc Tryd.prog W 0 (fun _ => true) true Tryd.f6.params.toList args.toList ds p := hA0
 have hV : DataW.TrodVars enc Tryd.prog W (fun _ => true) [nF] gs q := hV0
 rw [Tryd.params6] at hA hval
 obtain ⟨v0, vs0, d0, ds0, p0, q0, hargs, rfl, rfl, h0, r0⟩ := trodAll_cons hA
 obtain ⟨rfl, rfl, rfl⟩ := trodAll_nil r0
 obtain rfl : args = #[v0] := by cases args; simp_all
 obtain ⟨gf, rfl⟩ := vars_one hV
 obtain ⟨GE, TE, EE⟩ := r_open (r_plain hL)
 obtain ⟨s0, rfl, rfl, rfl, hs0⟩ := open_string Tryd.underlying9 (hval 0 9 v0 rfl rfl) h0
 clear hA0 hval0 hV0
 refine (walk s0  W hs0 GE TE EE).mono fun e W' ⟨he, bel⟩ => ?_
 subst he
 exact ⟨_, rfl, _, _, _, [], _, q, hW', trodAll_mk1 (shut_bool Tryd.underlying4 _), (trodAll_cons_mk (shut_string Tryd.underlying9 hs0) trodAll_mk0), vars_stay hV bel, bel.frame _, fun h => by cases h⟩

theorem named : Tryd.prog.funcNamed Rows.fnExactAskReadRow.func = some 6 := by kernel_rfl
theorem closed : Whole.lawFacts Tryd.prog 6 Tryd.f6 Rows.fnExactAskReadSpec Rows.fnExactAskReadRow = true := by kernel_rfl
theorem inst : Tryd.f6.isInstance Tryd.prog Rows.fnExactAskReadRow.origin Rows.fnExactAskReadRow.targs := of_decide_eq_true (by kernel_rfl)
theorem wrap : Tryd.f6.isWrapper Tryd.prog Rows.fnExactAskReadRow.wrapper Rows.fnExactAskReadRow.mainSum := by
 unfold Func.isWrapper; first | (rw [if_pos (by decide +kernel)]; kernel_rfl) | (rw [if_neg (by decide +kernel)]; exact ⟨rfl, rfl⟩)
theorem over : Rows.fnExactAskReadRow.holds Tryd.pinned (OpenSpec.ofChange Rows.fnExactAskReadSpec) :=
 OpenClaim.holds_of_wide 6 Tryd.f6 rfl rfl rfl rfl rfl rfl rfl ⟨rfl, rfl, rfl, rfl, rfl⟩ rfl rfl rfl rfl rfl named Tryd.func6 (Whole.facts_of closed)
  inst wrap (fun os started H enc _ => lifted os started H enc)

theorem proved : Rows.FnExactAskReadCardSaid :=
 Claim7.holds_tied_plain_at .later [] [.data, .data, .data, .sentinel, .sentinel, .data] true (true, "9c8f923ec165c4d56927dab1688a3e5b2c66c57571f98d33e75eb07a696916b3") true
  over (fun _ h => by cases h) (by kernel_rfl) (fun _ h => by cases h) fnExactAskRead_row_tie rfl ⟨rfl, rfl⟩ (by kernel_rfl) rfl
  (fun f fn hf hfn => by
   obtain rfl : f = 6 := Option.some.inj (named.symm.trans hf) |>.symm
   obtain rfl : fn = Tryd.f6 := (Option.some.inj (Tryd.func6.symm.trans hfn)).symm
   exact ⟨by kernel_rfl, fun j t ht => by
    rw [Tryd.params6] at ht
    have hm : t ∈ [9] := by have := Array.mem_of_getElem? ht; simp at this ⊢; omega
    have hall : ([9].all fun u => !Tryd.prog.wantsStandIn u) = true := by kernel_rfl
    exact (show Tryd.prog.wantsStandIn t = false by simpa using List.all_eq_true.1 hall t hm)⟩)
  (by kernel_rfl)
#print axioms proved
end Go.Proofs.YtjgfbcmgnjgapaaDoor.fnExactAskRead
