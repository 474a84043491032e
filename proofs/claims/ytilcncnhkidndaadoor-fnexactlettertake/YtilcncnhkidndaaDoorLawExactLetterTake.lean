/- For all texts that the law takes (a bounded size), LetterTake of the program answers as the specification's LetterTake: letter, count and code. No conditions. -/
import Derived.Test.YtilcncnhkidndaaDoorRows
import Derived.Test.YtilcncnhkidndaaDoorCards
import Derived.Test.YtilcncnhkidndaaDoorTie
import Derived.Test.YtilcncnhkidndaaDoorWhole
import Derived.Test.YtilcncnhkidndaaDoorGlO
import Derived.Test.YtilcncnhkidndaaDoorFlLetter
import Derived.Test.YtilcncnhkidndaaDoorL5f
import Derived.Test.YtilcncnhkidndaaDoorL5h
import Derived.WalkKit
import Derived.ProofKit
import Derived.OpenShut
import Derived.ShutString
import Derived.ChangeOld
import Derived.Below
import Derived.LaidMore
import Derived.SevenTiedAt
import Derived.Stop.Joined
namespace Go.Proofs.YtilcncnhkidndaaDoor.fnExactLetterTake
open Go.ChangeShapes Go.WideShapes Go.ChangeAt Go.RowKit
open Go.ChangeMaps (open_string shut_string)
set_option linter.unusedVariables false

set_option maxRecDepth 100000 in
set_option maxHeartbeats 1000000 in
theorem walk (s0 : ByteArray) (a0 a1 : Addr) (w : World) (hs0 : s0.size ≤ maxLen) (GE : GlE w a0 a1) :
  Calls Tryd.prog 10 #[.string s0] w fun e w' => e = .returned (.bool true) ∧ Below w.heap.size w w' := by
 by_cases hbig : 1048576 < s0.size
 ·
  have hbi : (1048576 : Int) < (s0.size : Int) := by omega
  go_enter Tryd.func10, Tryd.ntmps10
  go_wp2
  go_ret
  exact ⟨rfl, Below.refl _ _⟩
 have hbi : ¬ ((1048576 : Int) < (s0.size : Int)) := by omega
 obtain ⟨x, HX⟩ : ∃ x, Hid (bs s0 = x) := ⟨_, Lib.hid rfl⟩
 obtain ⟨ts, tb, HT⟩ : ∃ a b, Hid ((tookL x).s = a ∧ (tookL x).b = b) := ⟨_, _, Lib.hid ⟨rfl, rfl⟩⟩
 obtain ⟨cn, HN⟩ : ∃ n, Hid (cntL x = n) := ⟨_, Lib.hid rfl⟩
 obtain ⟨cd, HC⟩ : ∃ n, Hid (codeL x = n) := ⟨_, Lib.hid rfl⟩
 have HS := fun W => specTake s0 W hs0
 rw [HX.out] at HS
 have HE := Lib.hid (eqLE_yes (rfl : (⟨ts, tb⟩ : LE) = ⟨ts, tb⟩))
 have HG := Lib.hid GE
 clear GE
 go_enter Tryd.func10, Tryd.ntmps10
 go_wp2_with fail
 refine (HS _).mono ?_
 unfold RetTake
 rw [HT.out.1, HT.out.2, HN.out, HC.out]
 rintro e w1 ⟨rfl, hw1⟩
 have HG1 := Lib.hid (HG.out.next hw1)
 clear HG
 obtain ⟨V1, eV1, -, B1, hV1⟩ := al1 w1 rfl #[.string ts, .string tb] 24
 have hw2 := below_next hw1 hV1
 have HG2 := Lib.hid (HG1.out.next hV1)
 clear HG1
 have q0 : V1.cell? ⟨w1.heap.size, 0, none⟩ = some (.string ts) := B1.cell 0
 have q1 : V1.cell? ⟨w1.heap.size, 1, none⟩ = some (.string tb) := B1.cell 1
 go_wp2_with fail
 clear q0 q1
 have HI := implTake s0 a0 a1 V1 hs0 HG2.out
 rw [HX.out] at HI
 refine HI.mono ?_
 unfold RetTake
 rw [HT.out.1, HT.out.2, HN.out, HC.out]
 rintro e w3 ⟨rfl, hw3⟩
 have hw4 := below_next hw2 hw3
 have B3 := B1.next hw3
 clear B1
 obtain ⟨V2, eV2, -, C1, hV2⟩ := al1 w3 rfl #[.string ts, .string tb] 24
 have hw5 := below_next hw4 hV2
 have B4 := B3.next hV2
 clear B3
 have q0 : V2.cell? ⟨w1.heap.size, 0, none⟩ = some (.string ts) := B4.cell 0
 have q1 : V2.cell? ⟨w1.heap.size, 1, none⟩ = some (.string tb) := B4.cell 1
 have r0 : V2.cell? ⟨w3.heap.size, 0, none⟩ = some (.string ts) := C1.cell 0
 have r1 : V2.cell? ⟨w3.heap.size, 1, none⟩ = some (.string tb) := C1.cell 1
 go_wp2_with fail
 clear q0 q1 r0 r1
 refine (eqLetter_c ⟨ts, tb⟩ ⟨ts, tb⟩ _).mono ?_
 rw [HE.out]
 rintro e w6 ⟨rfl, hw6⟩
 have hw7 := below_next hw5 hw6
 go_wp2
 go_ret
 exact ⟨rfl, hw7⟩

set_option maxRecDepth 100000 in
theorem lifted (os : Os) (started : os.Started) (H : Type) (enc : TypeId × Value → H) :
  ReturnsInHanded {} Tryd.checked os 10 .any (fun w args => (Rows.fnExactLetterTakeSpec.pre enc Tryd.prog Tryd.f10 [] false w args ∧ laidMetH Tryd.prog laidE w) ∧ sizedMet enc Tryd.prog Tryd.f10 (OpenSpec.ofChange Rows.fnExactLetterTakeSpec) false w args)
   (Rows.fnExactLetterTakeSpec.post enc Tryd.prog Tryd.f10 false true false false) := by
 refine returnsInHanded_of_change_and (C := Tryd.checked) (X := fun w _ => laidMetH Tryd.prog laidE w) (fun _ _ _ hh h => h.of_heap hh) Whole.own started (by kernel_rfl) Tryd.func10
  (ChangeSpec.witness_shaped (enc := enc) (C := Tryd.checked) (os := os) (X := fun w _ => laidMetH Tryd.prog laidE w) false (World.doorLaid Tryd.prog 47 os) #[.string ByteArray.empty] 8 rfl (World.shaped_of_RefB (by kernel_rfl) (by kernel_rfl)) (by kernel_rfl) (by kernel_rfl) (by kernel_rfl) (e_door os _)) ?_
 intro W base args ds gs before hval0 hW _ _ hL _
 have hval : ∀ (j : Nat) t v, Tryd.f10.params[j]? = some t → args[j]? = some v → Value.okWide Tryd.prog W .any base t v := hval0
 have hW' := hW
 obtain ⟨p, q, hA0, hV0, rfl, hfz, hnd⟩ := hW
 have hA : DataW.TrodAll enc Tryd.prog W 0 (fun _ => true) true Tryd.f10.params.toList args.toList ds p := hA0
 have hV : DataW.TrodVars enc Tryd.prog W (fun _ => true) [n0, n1] gs q := hV0
 rw [Tryd.params10] at hA hval
 obtain ⟨v0, vs0, d0, ds0, p0, q0, hargs, rfl, rfl, h0, r0⟩ := trodAll_cons hA
 obtain ⟨rfl, rfl, rfl⟩ := trodAll_nil r0
 obtain rfl : args = #[v0] := by cases args; simp_all
 obtain ⟨a0, a1, hv0, hv1, GE⟩ := e_open (e_plain hL)
 obtain ⟨rfl, rfl⟩ := hV.unique (e_read enc hv0 hv1 trivial trivial _)
 obtain ⟨s0, rfl, rfl, rfl, hs0⟩ := open_string Tryd.underlying9 (hval 0 9 v0 rfl rfl) h0
 clear hA0 hval0 hV0
 refine (walk s0 a0 a1 W hs0 GE).mono fun e W' ⟨he, bel⟩ => ?_
 subst he
 exact ⟨_, rfl, _, _, _, [], _, [.cell 0 0, .cell 1 0], hW', trodAll_mk1 (shut_bool Tryd.underlying4 _), (trodAll_cons_mk (shut_string Tryd.underlying9 hs0) trodAll_mk0), e_read enc (var_below e_g0 bel hv0) (var_below e_g1 bel hv1) trivial trivial _, bel.frame _, fun h => by cases h⟩

theorem named : Tryd.prog.funcNamed Rows.fnExactLetterTakeRow.func = some 10 := by kernel_rfl
theorem closed : Whole.lawFacts Tryd.prog 10 Tryd.f10 Rows.fnExactLetterTakeSpec Rows.fnExactLetterTakeRow = true := by kernel_rfl
theorem inst : Tryd.f10.isInstance Tryd.prog Rows.fnExactLetterTakeRow.origin Rows.fnExactLetterTakeRow.targs := of_decide_eq_true (by kernel_rfl)
theorem wrap : Tryd.f10.isWrapper Tryd.prog Rows.fnExactLetterTakeRow.wrapper Rows.fnExactLetterTakeRow.mainSum := by
 unfold Func.isWrapper; first | (rw [if_pos (by decide +kernel)]; kernel_rfl) | (rw [if_neg (by decide +kernel)]; exact ⟨rfl, rfl⟩)
theorem over : Rows.fnExactLetterTakeRow.holds Tryd.pinned (OpenSpec.ofChange Rows.fnExactLetterTakeSpec) :=
 OpenClaim.holds_of_wide 10 Tryd.f10 rfl rfl rfl rfl rfl rfl rfl ⟨rfl, rfl, rfl, rfl, rfl⟩ rfl rfl rfl rfl rfl named Tryd.func10 (Whole.facts_of closed)
  inst wrap (fun os started H enc _ => lifted os started H enc)

theorem proved : Rows.FnExactLetterTakeCardSaid :=
 Claim7.holds_tied_plain_at .later [] [.sentinel, .sentinel] true (true, "f355c901a8b8506d89c9f4b274f0813ef8c12415e439c0c7a2efd621187a51cb") true
  over (fun _ h => by cases h) (by kernel_rfl) (fun _ h => by cases h) fnExactLetterTake_row_tie rfl ⟨rfl, rfl⟩ (by kernel_rfl) rfl
  (fun f fn hf hfn => by
   obtain rfl : f = 10 := Option.some.inj (named.symm.trans hf) |>.symm
   obtain rfl : fn = Tryd.f10 := (Option.some.inj (Tryd.func10.symm.trans hfn)).symm
   exact ⟨by kernel_rfl, fun j t ht => by
    rw [Tryd.params10] at ht
    have hm : t ∈ [9] := by have := Array.mem_of_getElem? ht; simp at this ⊢; omega
    have hall : ([9].all fun u => !Tryd.prog.wantsStandIn u) = true := by kernel_rfl
    exact (show Tryd.prog.wantsStandIn t = false by simpa using List.all_eq_true.1 hall t hm)⟩)
  (by kernel_rfl)
#print axioms proved
end Go.Proofs.YtilcncnhkidndaaDoor.fnExactLetterTake
