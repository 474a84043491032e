/- For all that one may ask, of the law's own type, that the law takes (a bounded size), AskText of the program answers as the specification's AskText. No conditions but that the package variables that the row lists hold what the program's text lays in them. -/
import Derived.Test.YtjgfbcmgnjgapaaDoorRows
import Derived.Test.YtjgfbcmgnjgapaaDoorCards
import Derived.Test.YtjgfbcmgnjgapaaDoorTie
import Derived.Test.YtjgfbcmgnjgapaaDoorWhole
import Derived.Test.YtjgfbcmgnjgapaaDoorAkF
import Derived.Test.YtjgfbcmgnjgapaaDoorAkS
import Derived.Test.YtjgfbcmgnjgapaaDoorAkI
import Derived.Test.YtjgfbcmgnjgapaaDoorAkV
import Derived.Test.YtjgfbcmgnjgapaaDoorAkW
import Derived.WalkKit
import Derived.ProofKit
import Derived.OpenShut
import Derived.ShutString
import Derived.ChangeOld
import Derived.Below
import Derived.LaidMore
import Derived.SevenTiedAt
import Derived.Stop.Joined
namespace Go.Proofs.YtjgfbcmgnjgapaaDoor.fnExactAskText
open Go.ChangeShapes Go.WideShapes Go.ChangeAt Go.RowKit
open Go.ChangeMaps (open_string shut_string)
set_option linter.unusedVariables false

set_option maxRecDepth 100000 in
set_option maxHeartbeats 4000000 in
theorem walk (x0 : Q4)  (w : World) (hf0 : FitQ x0) (GE : Glf w) (TE : TabP w) :
  Calls Tryd.prog 5 #[.agg #[.int .i64 x0.kind, .string x0.key, .string x0.hi, .int .i64 x0.num]] w fun e w' => e = .returned (.bool true) ∧ Below w.heap.size w w' := by
 have HG := Lib.hid GE
 have HT := Lib.hid TE
 clear GE TE
 by_cases ht : ((x0.key.size + x0.hi.size : Nat) : Int) ≤ 1048576
 ·
  have H0 := Lib.hid (szR_pos (left := 1048576) ht)
  have HZ := Lib.hid (show ¬ ((1048576 : Int) - ((x0.key.size + x0.hi.size : Nat) : Int) < 0) from by omega)
  obtain ⟨Z, HZ2, HZ3⟩ : ∃ Z : Int, Hid ((1048576 : Int) - ((x0.key.size + x0.hi.size : Nat) : Int) = Z) ∧ ¬ (Z < 0) := ⟨_, Lib.hid rfl, HZ.out⟩
  rw [HZ2.out] at H0
  have hlt : x0.key.size + x0.hi.size ≤ 2097151 := by omega
  obtain ⟨V1, eV1, -, B0_n, hV1⟩ := al1 w rfl #[.int .i64 x0.kind, .string x0.key, .string x0.hi, .int .i64 x0.num] 32
  have hw_1 := hV1
  have qB0 := B0_n.c4
  go_enter Tryd.func5, Tryd.ntmps5
  go_wp2_with fail
  clear qB0
  refine (szAsk_c x0 1048576 _ ⟨hf0.2.1, hf0.2.2.1⟩ (by omega) (by omega)).mono ?_
  rw [H0.out]
  rintro e w2 ⟨rfl, hb2⟩
  have B0_2 := B0_n.next hb2
  clear B0_n
  have hw_2 := below_next hw_1 hb2
  have qB0 := B0_2.c4
  go_wp2_with fail
  clear qB0
  refine (toAsk_c x0 _).mono ?_
  rintro e w3 ⟨rfl, hb3⟩
  have B0_3 := B0_2.next hb3
  clear B0_2
  have hw_3 := below_next hw_2 hb3
  have qB0 := B0_3.c4
  go_wp2_with fail
  clear qB0
  refine (specAskText x0 _ hf0).mono ?_
  rintro e w4 ⟨rfl, hb4⟩
  have B0_4 := B0_3.next hb4
  clear B0_3
  have hw_4 := below_next hw_3 hb4
  have qB0 := B0_4.c4
  go_wp2_with fail
  clear qB0
  refine (toAsk_c x0 _).mono ?_
  rintro e w5 ⟨rfl, hb5⟩
  have B0_5 := B0_4.next hb5
  clear B0_4
  have hw_5 := below_next hw_4 hb5
  have qB0 := B0_5.c4
  go_wp2_with fail
  clear qB0
  refine (implAskText x0 _ hf0 (HG.out.next hw_5) (HT.out.next hw_5)).mono ?_
  rintro e w6 ⟨rfl, hb6⟩
  have B0_6 := B0_5.next hb6
  clear B0_5
  have hw_6 := below_next hw_5 hb6
  have qB0 := B0_6.c4
  go_wp2
  go_ret
  exact ⟨rfl, hw_6⟩
 ·
  have H0 := Lib.hid (szR_neg (left := 1048576) (k := x0.key.size + x0.hi.size) (by omega))
  obtain ⟨V1, eV1, -, B0_n, hV1⟩ := al1 w rfl #[.int .i64 x0.kind, .string x0.key, .string x0.hi, .int .i64 x0.num] 32
  have hw_1 := hV1
  have qB0 := B0_n.c4
  go_enter Tryd.func5, Tryd.ntmps5
  go_wp2_with fail
  clear qB0
  refine (szAsk_c x0 1048576 _ ⟨hf0.2.1, hf0.2.2.1⟩ (by omega) (by omega)).mono ?_
  rw [H0.out]
  rintro e w2 ⟨rfl, hb2⟩
  have B0_2 := B0_n.next hb2
  clear B0_n
  have hw_2 := below_next hw_1 hb2
  have qB0 := B0_2.c4
  go_wp2
  go_ret
  exact ⟨rfl, hw_2⟩

set_option maxRecDepth 100000 in
theorem lifted (os : Os) (started : os.Started) (H : Type) (enc : TypeId × Value → H) :
  ReturnsInHanded {} Tryd.checked os 5 .any (fun w args => (Rows.fnExactAskTextSpec.pre enc Tryd.prog Tryd.f5 [] false w args ∧ laidMetH Tryd.prog laidT w) ∧ sizedMet enc Tryd.prog Tryd.f5 (OpenSpec.ofChange Rows.fnExactAskTextSpec) false w args)
   (Rows.fnExactAskTextSpec.post enc Tryd.prog Tryd.f5 false true false false) := by
 refine returnsInHanded_of_change_and (C := Tryd.checked) (X := fun w _ => laidMetH Tryd.prog laidT w) (fun _ _ _ hh h => h.of_heap hh) Whole.own started (by kernel_rfl) Tryd.func5
  (ChangeSpec.witness_shaped (enc := enc) (C := Tryd.checked) (os := os) (X := fun w _ => laidMetH Tryd.prog laidT w) false (World.doorLaid Tryd.prog 76 os) #[.agg #[.int .i64 0, .string ByteArray.empty, .string ByteArray.empty, .int .i64 0]] 8 rfl (World.shaped_of_RefB (by kernel_rfl) (by kernel_rfl)) (by kernel_rfl) (by kernel_rfl) (by kernel_rfl) (t_door os _)) ?_
 intro W base args ds gs before hval0 hW _ _ hL _
 have hval : ∀ (j : Nat) t v, Tryd.f5.params[j]? = some t → args[j]? = some v → Value.okWide Tryd.prog W .any base t v := hval0
 have hW' := hW
 obtain ⟨p, q, hA0, hV0, rfl, hfz, hnd⟩ := hW
 have hA : DataW.TrodAll enc Tryd.prog W 0 (fun _ => true) true Tryd.f5.params.toList args.toList ds p := hA0
 have hV : DataW.TrodVars enc Tryd.prog W (fun _ => true) [nF] gs q := hV0
 rw [Tryd.params5] at hA hval
 obtain ⟨v0, vs0, d0, ds0, p0, q0, hargs, rfl, rfl, h0, r0⟩ := trodAll_cons hA
 obtain ⟨rfl, rfl, rfl⟩ := trodAll_nil r0
 obtain rfl : args = #[v0] := by cases args; simp_all
 obtain ⟨gf, rfl⟩ := vars_one hV
 obtain ⟨GE, TE⟩ := t_open (t_plain hL)
 have k0 := h0
 have lt0 : ∀ x ∈ p0, x.block < W.heap.size := by obtain ⟨m, hm⟩ := k0; exact DataW.trod_lt m _ _ _ hm
 obtain ⟨x0, rfl, hf0⟩ := openArgAsk1 (hval 0 32 v0 rfl rfl) h0
 clear hA0 hval0 hV0
 refine (walk x0  W hf0 GE TE).mono fun e W' ⟨he, bel⟩ => ?_
 subst he
 exact ⟨_, rfl, _, _, _, [], _, q, hW', trodAll_mk1 (shut_bool Tryd.underlying4 _), (trodAll_cons_mk (Below.trod Whole.laidOut (by kernel_rfl) (of_decide_eq_true (by kernel_rfl)) k0 bel lt0) trodAll_mk0), vars_stay hV bel, bel.frame _, fun h => by cases h⟩

theorem named : Tryd.prog.funcNamed Rows.fnExactAskTextRow.func = some 5 := by kernel_rfl
theorem closed : Whole.lawFacts Tryd.prog 5 Tryd.f5 Rows.fnExactAskTextSpec Rows.fnExactAskTextRow = true := by kernel_rfl
theorem inst : Tryd.f5.isInstance Tryd.prog Rows.fnExactAskTextRow.origin Rows.fnExactAskTextRow.targs := of_decide_eq_true (by kernel_rfl)
theorem wrap : Tryd.f5.isWrapper Tryd.prog Rows.fnExactAskTextRow.wrapper Rows.fnExactAskTextRow.mainSum := by
 unfold Func.isWrapper; first | (rw [if_pos (by decide +kernel)]; kernel_rfl) | (rw [if_neg (by decide +kernel)]; exact ⟨rfl, rfl⟩)
theorem over : Rows.fnExactAskTextRow.holds Tryd.pinned (OpenSpec.ofChange Rows.fnExactAskTextSpec) :=
 OpenClaim.holds_of_wide 5 Tryd.f5 rfl rfl rfl rfl rfl rfl rfl ⟨rfl, rfl, rfl, rfl, rfl⟩ rfl rfl rfl rfl rfl named Tryd.func5 (Whole.facts_of closed)
  inst wrap (fun os started H enc _ => lifted os started H enc)

theorem proved : Rows.FnExactAskTextCardSaid :=
 Claim7.holds_tied_plain_at .later [] [.data, .data, .data, .data] true (true, "9c8f923ec165c4d56927dab1688a3e5b2c66c57571f98d33e75eb07a696916b3") true
  over (fun _ h => by cases h) (by kernel_rfl) (fun _ h => by cases h) fnExactAskText_row_tie rfl ⟨rfl, rfl⟩ (by kernel_rfl) rfl
  (fun f fn hf hfn => by
   obtain rfl : f = 5 := Option.some.inj (named.symm.trans hf) |>.symm
   obtain rfl : fn = Tryd.f5 := (Option.some.inj (Tryd.func5.symm.trans hfn)).symm
   exact ⟨by kernel_rfl, fun j t ht => by
    rw [Tryd.params5] at ht
    have hm : t ∈ [32] := by have := Array.mem_of_getElem? ht; simp at this ⊢; omega
    have hall : ([32].all fun u => !Tryd.prog.wantsStandIn u) = true := by kernel_rfl
    exact (show Tryd.prog.wantsStandIn t = false by simpa using List.all_eq_true.1 hall t hm)⟩)
  (by kernel_rfl)
#print axioms proved
end Go.Proofs.YtjgfbcmgnjgapaaDoor.fnExactAskText
