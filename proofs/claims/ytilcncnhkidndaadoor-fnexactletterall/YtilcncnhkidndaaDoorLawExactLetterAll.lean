/- For all texts that the law takes (a bounded size), LetterAll of the program answers as the specification's LetterAll: letters, what is left, and code. No conditions. -/
import Derived.Test.YtilcncnhkidndaaDoorRows
import Derived.Test.YtilcncnhkidndaaDoorCards
import Derived.Test.YtilcncnhkidndaaDoorTie
import Derived.Test.YtilcncnhkidndaaDoorWhole
import Derived.Test.YtilcncnhkidndaaDoorGlO
import Derived.Test.YtilcncnhkidndaaDoorFlLetter
import Derived.Test.YtilcncnhkidndaaDoorL5j
import Derived.WalkKit
import Derived.ProofKit
import Derived.OpenShut
import Derived.ShutString
import Derived.ChangeOld
import Derived.Below
import Derived.LaidMore
import Derived.SevenTiedAt
import Derived.Stop.Joined
namespace Go.Proofs.YtilcncnhkidndaaDoor.fnExactLetterAll
open Go.ChangeShapes Go.WideShapes Go.ChangeAt Go.RowKit
open Go.ChangeMaps (open_string shut_string)
set_option linter.unusedVariables false

set_option maxRecDepth 100000 in
set_option maxHeartbeats 1000000 in
theorem walk (s0 : ByteArray) (a0 a1 : Addr) (w : World) (hs0 : s0.size ≤ maxLen) (GE : GlE w a0 a1) :
  Calls Tryd.prog 11 #[.string s0] w fun e w' => e = .returned (.bool true) ∧ Below w.heap.size w w' := by
 by_cases hbig : 1048576 < s0.size
 ·
  have hbi : (1048576 : Int) < (s0.size : Int) := by omega
  go_enter Tryd.func11, Tryd.ntmps11
  go_wp2
  go_ret
  exact ⟨rfl, Below.refl _ _⟩
 have hbi : ¬ ((1048576 : Int) < (s0.size : Int)) := by omega
 have hs00 := hs0
 unfold maxLen at hs00
 have HS := fun W => specAll s0 W hs0
 have HG := Lib.hid GE
 have GE5 := Lib.hid GE
 clear GE
 go_enter Tryd.func11, Tryd.ntmps11
 go_wp2_with fail
 refine (HS _).mono ?_
 rintro e w1 ⟨v, ls, t, cd, rfl, o1, hP, hw1⟩
 have HP := Lib.hid hP
 have W1 := Lib.hid o1
 have HG1 := Lib.hid (HG.out.next hw1)
 have hlen := Lib.hid (show ls.length ≤ 400 from by
  by_cases hx : 400 < (bs s0).length
  ·
   rw [(hP.1 hx).1]; simp
  ·
   have h1 := hP.2 (by omega)
   have h2 := catL_length h1.2.1
   have h3 := congrArg List.length h1.1
   rw [List.length_append] at h3
   omega)
 clear hP o1 HG
 go_wp2_with fail
 refine (implAll s0 a0 a1 w1 hs0 HG1.out).mono ?_
 rintro e w2 ⟨v', ls', t', cd', rfl, o2, hP', hw2⟩
 obtain ⟨rfl, ht, rfl⟩ := HP.out.unique hP'
 obtain rfl := bs_inj ht
 have G2 := Lib.hid o2
 have W2 := Lib.hid (W1.out.next hw2)
 have hv2 := below_next hw1 hw2
 have z1 := hw1.size
 have z2 := hw2.size
 have HE := Lib.hid (eqLEs_yes (rfl : ls = ls))
 clear hP' ht o2
 go_wp2_with fail
 refine (eqLetterOwn_c v' v ls ls _ _ _ G2.out W2.out (by have := hlen.out; omega) (by have := hlen.out; omega)).mono ?_
 rw [HE.out]
 rintro e w3 ⟨rfl, hw3⟩
 have G3 := Lib.hid (G2.out.next hw3)
 have W3 := Lib.hid (W2.out.next hw3)
 have hv3 := below_next hv2 hw3
 have z3 := hw3.size
 clear G2 W2
 go_wp2_with fail
 refine (markLE_c v' ls _ 1 _ G3.out (by omega) (by have := hlen.out; omega)).mono ?_
 rintro e w4 ⟨rfl, o4, g4⟩
 have G4 := Lib.hid o4
 have W4 := Lib.hid (W3.out.kept g4 (fun j hj hk => by have h1 := (G3.out.block_lt hk.symm).1; have h2 := (W1.out.block_lt hj).2; omega))
 have hv4 := hv3.trans ((G3.out.belB g4 (by omega)).mono (by omega))
 have z4 := g4.size
 clear o4 G3 W3 g4
 go_wp2_with fail
 refine (heldLE_c v' ls.length _ 1 _ G4.out (by omega) (by have := hlen.out; omega)).mono ?_
 rintro e w5 ⟨rfl, hw5⟩
 have G5 := Lib.hid (G4.out.next hw5)
 have W5 := Lib.hid (W4.out.next hw5)
 have hv5 := below_next hv4 hw5
 have z5 := hw5.size
 have HG5 := Lib.hid (GE5.out.below hv5 GE5.out.low GE5.out.lt.1 GE5.out.lt.2)
 clear G4 W4
 go_wp2_with fail
 refine (implAll s0 a0 a1 w5 hs0 HG5.out).mono ?_
 rintro e w6 ⟨v6, ls6, t6, cd6, rfl, o6, hP6, hw6⟩
 obtain ⟨rfl, ht6, rfl⟩ := HP.out.unique hP6
 obtain rfl := bs_inj ht6
 have X6 := Lib.hid o6
 have G6 := Lib.hid (G5.out.next hw6)
 have W6 := Lib.hid (W5.out.next hw6)
 have hv6 := below_next hv5 hw6
 clear hP6 ht6 o6 G5 W5
 go_wp2_with fail
 refine (eqLetterOwn_c v6 v ls ls _ _ _ X6.out W6.out (by have := hlen.out; omega) (by have := hlen.out; omega)).mono ?_
 rw [HE.out]
 rintro e w7 ⟨rfl, hw7⟩
 have G7 := Lib.hid (G6.out.next hw7)
 have hv7 := below_next hv6 hw7
 go_wp2_with fail
 refine (heldLE_c v' ls.length _ 1 _ G7.out (by omega) (by have := hlen.out; omega)).mono ?_
 rintro e w8 ⟨rfl, hw8⟩
 have hv8 := below_next hv7 hw8
 go_wp2
 go_ret
 exact ⟨rfl, hv8⟩

set_option maxRecDepth 100000 in
theorem lifted (os : Os) (started : os.Started) (H : Type) (enc : TypeId × Value → H) :
  ReturnsInHanded {} Tryd.checked os 11 .any (fun w args => (Rows.fnExactLetterAllSpec.pre enc Tryd.prog Tryd.f11 [] false w args ∧ laidMetH Tryd.prog laidE w) ∧ sizedMet enc Tryd.prog Tryd.f11 (OpenSpec.ofChange Rows.fnExactLetterAllSpec) false w args)
   (Rows.fnExactLetterAllSpec.post enc Tryd.prog Tryd.f11 false true false false) := by
 refine returnsInHanded_of_change_and (C := Tryd.checked) (X := fun w _ => laidMetH Tryd.prog laidE w) (fun _ _ _ hh h => h.of_heap hh) Whole.own started (by kernel_rfl) Tryd.func11
  (ChangeSpec.witness_shaped (enc := enc) (C := Tryd.checked) (os := os) (X := fun w _ => laidMetH Tryd.prog laidE w) false (World.doorLaid Tryd.prog 47 os) #[.string ByteArray.empty] 8 rfl (World.shaped_of_RefB (by kernel_rfl) (by kernel_rfl)) (by kernel_rfl) (by kernel_rfl) (by kernel_rfl) (e_door os _)) ?_
 intro W base args ds gs before hval0 hW _ _ hL _
 have hval : ∀ (j : Nat) t v, Tryd.f11.params[j]? = some t → args[j]? = some v → Value.okWide Tryd.prog W .any base t v := hval0
 have hW' := hW
 obtain ⟨p, q, hA0, hV0, rfl, hfz, hnd⟩ := hW
 have hA : DataW.TrodAll enc Tryd.prog W 0 (fun _ => true) true Tryd.f11.params.toList args.toList ds p := hA0
 have hV : DataW.TrodVars enc Tryd.prog W (fun _ => true) [n0, n1] gs q := hV0
 rw [Tryd.params11] at hA hval
 obtain ⟨v0, vs0, d0, ds0, p0, q0, hargs, rfl, rfl, h0, r0⟩ := trodAll_cons hA
 obtain ⟨rfl, rfl, rfl⟩ := trodAll_nil r0
 obtain rfl : args = #[v0] := by cases args; simp_all
 obtain ⟨a0, a1, hv0, hv1, GE⟩ := e_open (e_plain hL)
 obtain ⟨rfl, rfl⟩ := hV.unique (e_read enc hv0 hv1 trivial trivial _)
 obtain ⟨s0, rfl, rfl, rfl, hs0⟩ := open_string Tryd.underlying9 (hval 0 9 v0 rfl rfl) h0
 clear hA0 hval0 hV0
 refine (walk s0 a0 a1 W hs0 GE).mono fun e W' ⟨he, bel⟩ => ?_
 subst he
 exact ⟨_, rfl, _, _, _, [], _, [.cell 0 0, .cell 1 0], hW', trodAll_mk1 (shut_bool Tryd.underlying4 _), (trodAll_cons_mk (shut_string Tryd.underlying9 hs0) trodAll_mk0), e_read enc (var_below e_g0 bel hv0) (var_below e_g1 bel hv1) trivial trivial _, bel.frame _, fun h => by cases h⟩

theorem named : Tryd.prog.funcNamed Rows.fnExactLetterAllRow.func = some 11 := by kernel_rfl
theorem closed : Whole.lawFacts Tryd.prog 11 Tryd.f11 Rows.fnExactLetterAllSpec Rows.fnExactLetterAllRow = true := by kernel_rfl
theorem inst : Tryd.f11.isInstance Tryd.prog Rows.fnExactLetterAllRow.origin Rows.fnExactLetterAllRow.targs := of_decide_eq_true (by kernel_rfl)
theorem wrap : Tryd.f11.isWrapper Tryd.prog Rows.fnExactLetterAllRow.wrapper Rows.fnExactLetterAllRow.mainSum := by
 unfold Func.isWrapper; first | (rw [if_pos (by decide +kernel)]; kernel_rfl) | (rw [if_neg (by decide +kernel)]; exact ⟨rfl, rfl⟩)
theorem over : Rows.fnExactLetterAllRow.holds Tryd.pinned (OpenSpec.ofChange Rows.fnExactLetterAllSpec) :=
 OpenClaim.holds_of_wide 11 Tryd.f11 rfl rfl rfl rfl rfl rfl rfl ⟨rfl, rfl, rfl, rfl, rfl⟩ rfl rfl rfl rfl rfl named Tryd.func11 (Whole.facts_of closed)
  inst wrap (fun os started H enc _ => lifted os started H enc)

theorem proved : Rows.FnExactLetterAllCardSaid :=
 Claim7.holds_tied_plain_at .later [] [.sentinel, .sentinel] true (true, "f355c901a8b8506d89c9f4b274f0813ef8c12415e439c0c7a2efd621187a51cb") true
  over (fun _ h => by cases h) (by kernel_rfl) (fun _ h => by cases h) fnExactLetterAll_row_tie rfl ⟨rfl, rfl⟩ (by kernel_rfl) rfl
  (fun f fn hf hfn => by
   obtain rfl : f = 11 := Option.some.inj (named.symm.trans hf) |>.symm
   obtain rfl : fn = Tryd.f11 := (Option.some.inj (Tryd.func11.symm.trans hfn)).symm
   exact ⟨by kernel_rfl, fun j t ht => by
    rw [Tryd.params11] at ht
    have hm : t ∈ [9] := by have := Array.mem_of_getElem? ht; simp at this ⊢; omega
    have hall : ([9].all fun u => !Tryd.prog.wantsStandIn u) = true := by kernel_rfl
    exact (show Tryd.prog.wantsStandIn t = false by simpa using List.all_eq_true.1 hall t hm)⟩)
  (by kernel_rfl)
#print axioms proved
end Go.Proofs.YtilcncnhkidndaaDoor.fnExactLetterAll
