/- The law FnLetterText: for every two codes that are drawn from, a letter's text is the model's, a letter that is none has no text, and one that is a letter is read back from its text with any drawn bytes behind it: for every input the call returns true, and the arguments read afterwards as before. No conditions. -/
import Derived.Test.YtilcncnhkidndaaDoorRows
import Derived.Test.YtilcncnhkidndaaDoorCards
import Derived.Test.YtilcncnhkidndaaDoorTie
import Derived.Test.YtilcncnhkidndaaDoorWhole
import Derived.Test.YtilcncnhkidndaaDoorGlO
import Derived.Test.YtilcncnhkidndaaDoorFlLetter
import Derived.Test.YtilcncnhkidndaaDoorL5j
import Derived.Test.YtilcncnhkidndaaDoorL5k
import Derived.Test.YtilcncnhkidndaaDoorD5d
import Derived.Deep.DeepCutAuto
import Derived.WalkKit
import Derived.ProofKit
import Derived.OpenShut
import Derived.ShutString
import Derived.ChangeOld
import Derived.Below
import Derived.LaidMore
import Derived.SevenTiedAt
import Derived.Stop.Joined
namespace Go.Proofs.YtilcncnhkidndaaDoor.fnLetterText
open Go.ChangeShapes Go.WideShapes Go.ChangeAt Go.RowKit
open Go.ChangeMaps (open_string shut_string)
set_option linter.unusedVariables false

theorem text_yes {l : LE} {x : ByteArray} (h : okB l = true) (hx : bo (textL l) = x) (hs : l.s.size ≤ 2) (hb : l.b.size ≤ 10001) (t : ByteArray) :
  x.size = l.b.size + 3 ∧ l.b.size ≤ 40 ∧ tookL (bs (x ++ t)) = l ∧ cntL (bs (x ++ t)) = x.size ∧ codeL (bs (x ++ t)) = 0 := by
 have hT : textL l = enc l := by unfold textL; rw [h]; rfl
 have h1 : bs x = enc l := by rw [← hx, bs_bo, hT]
 have h2 := enc_length h
 have h3 : x.size = l.b.size + 3 := by have : (bs x).length = x.size := rfl; rw [← this, h1, h2]; omega
 have h4 := enc_code h (bs t)
 rw [← h1, ← bs_append] at h4
 have h5 : l.b.size ≤ 40 := by have := h; unfold okB at this; simp only [Bool.and_eq_true, decide_eq_true_eq] at this; omega
 exact ⟨h3, h5, h4.2.2, by unfold cntL; rw [if_pos h4.1, h4.2.1, h3]; omega, h4.1⟩

set_option maxRecDepth 100000 in
set_option maxHeartbeats 4000000 in
theorem walk (A0 : Option Addr) (n0 c0 : Nat) (A1 : Option Addr) (n1 c1 : Nat) (a0 a1 : Addr) (w : World) (hc0 : n0 ≤ c0) (hm0 : c0 ≤ maxLen) (hr0 : RdB w w.heap.size A0 n0) (hc1 : n1 ≤ c1) (hm1 : c1 ≤ maxLen) (hr1 : RdB w w.heap.size A1 n1) (GE : GlE w a0 a1) :
  Calls Tryd.prog 3 #[.slice A0 n0 c0, .slice A1 n1 c1] w fun e w' => e = .returned (.bool true) ∧ Below w.heap.size w w' := by
 by_cases hbig : 1048576 < n0
 ·
  have hbi : decide ((1048576 : Int) < (n0 : Int)) = true := decide_eq_true (by omega)
  go_enter Tryd.func3, Tryd.ntmps3
  go_wp2
  go_ret
  exact ⟨rfl, Below.refl _ _⟩
 have hbi : decide ((1048576 : Int) < (n0 : Int)) = false := decide_eq_false (by omega)
 by_cases hbig1 : 1048576 < n1
 ·
  have hbi1 : decide ((1048576 : Int) < (n1 : Int)) = true := decide_eq_true (by omega)
  go_enter Tryd.func3, Tryd.ntmps3
  go_wp2
  go_ret
  exact ⟨rfl, Below.refl _ _⟩
 have hbi1 : decide ((1048576 : Int) < (n1 : Int)) = false := decide_eq_false (by omega)
 have HG := Lib.hid GE
 clear GE
 go_enter Tryd.func3, Tryd.ntmps3
 go_wp2_with fail
 refine (dDrawLetterText A0 n0 c0 w hc0 hm0 hr0).mono ?_
 rintro e w0 ⟨l, rfl, hs, hb, hw0⟩
 obtain ⟨w1, e1, -, B1, hV1⟩ := al1 w0 rfl #[.string l.s, .string l.b] 24
 have hw1 := below_next hw0 hV1
 have lt1 := B1.lt
 have HF := Lib.hid (show FitLE l from ⟨by unfold maxLen; omega, by unfold maxLen; omega⟩)
 have HT := Lib.hid (show l.s.size + l.b.size ≤ 2097151 from by omega)
 obtain ⟨x, HX⟩ : ∃ x, Hid (bo (textL l) = x) := ⟨_, Lib.hid rfl⟩
 obtain ⟨p, HP⟩ : ∃ p, Hid (okB l = p) := ⟨_, Lib.hid rfl⟩
 obtain ⟨g, hg⟩ : ∃ g, w0.heap.size = g := ⟨_, rfl⟩
 rw [hg] at B1 lt1
 have q := B1.c2
 have HSZ := Lib.hid (And.intro hs hb)
 go_wp2_with fail
 refine (implText l w1 HF.out HT.out).mono ?_
 rw [HX.out]
 rintro e w2 ⟨rfl, hb2⟩
 have B2 := B1.next hb2
 have hw2 := below_next hw1 hb2
 have lt2 := B2.lt
 clear q B1 hV1 e1 lt1
 have F := ((Fr.bel (p := w2.heap.size) (q := w2.heap.size) hw2 hw2.size).blk B2 (.inl (by omega))).cut
 have hcr := F.hc fun V h => h.1.2.c2
 go_wp2
 go_cut [33] (fun z V => z = .bool false ∧ Below w2.heap.size w2 V)
 case first =>
  refine reg F fun d1 hd F1 => ?_
  clear F hd
  have F := F1
  clear F1
  refine tkc F hcr 0 ?_
  refine tkc F hcr 1 ?_
  repeat' (first
   | refine rd2 6 8 (fun K hK => ?_) (fun K hK => ?_)
   | refine rdo 2 (fun K hK => ?_)
   | refine rdo 6 (fun K hK => ?_)
   | refine rdo 8 (fun K hK => ?_)
   | (refine tkc F hcr 9 ?_ (hb := by decide +kernel); refine tkc F hcr 10 ?_; refine wpAnyH_done (by kernel_rfl) ?_ _; go_wp2; go_meet; exact ⟨rfl, F.now.2⟩)
   | (go_simp; first
    | (go_at_call 14; refine (specText l _ HF.out).mono ?_; rw [HX.out]; rintro e w3 ⟨rfl, hb3⟩; replace F := F.next hb3; go_wp2_with fail; refine fn hK F ?_; clear hK K hb3; refine tkc F hcr 3 ?_; refine tkc F hcr 4 ?_; refine tkc F hcr 5 ?_; refine tkc F hcr 7 ?_)
    | (go_at_call 15; refine (implLOk l _ HF.out).mono ?_; rw [HP.out]; rintro e w3 ⟨rfl, hb3⟩; replace F := F.next hb3; go_wp2_with fail; refine fn hK F ?_; clear hK K hb3)
    | (go_at_call 16; refine (specLOk l _ HF.out).mono ?_; rw [HP.out]; rintro e w3 ⟨rfl, hb3⟩; replace F := F.next hb3; go_wp2_with fail; refine fn hK F ?_; clear hK K hb3)))
 case rest =>
  obtain ⟨rfl, hbc⟩ := hcut
  have B3 := B2.next hbc
  have hw3 := below_next hw2 hbc
  clear B2 F hcr hb2 hw2
  have q := B3.c2
  go_wp2_with fail
  refine (specLOk l _ HF.out).mono ?_
  rw [HP.out]
  rintro e w4 ⟨rfl, hb4⟩
  have B4 := B3.next hb4
  have hw4 := below_next hw3 hb4
  clear q B3
  cases p
  ·
   have hx0 : x = ⟨#[]⟩ := by rw [← HX.out]; unfold textL; rw [HP.out]; rfl
   subst hx0
   go_wp2
   go_ret
   exact ⟨rfl, hw4⟩
  ·
   go_wp2_with fail
   refine (dDrawLetterAll A1 n1 c1 w4 hc1 hm1 (hr1.below hw4)).mono ?_
   rintro e w5 ⟨t, rfl, ht, hb5⟩
   have B5 := B4.next hb5
   have hw5 := below_next hw4 hb5
   obtain ⟨hxs, hb40, h3, h4, h5⟩ := text_yes HP.out HX.out hs hb t
   have H3 := Lib.hid h3
   have H4 := Lib.hid h4
   have H5 := Lib.hid h5
   have hxe : ((x.size : Int) == (l.b.size : Int) + 3) = true := beq_iff_eq.2 (by omega)
   have y1 : ¬ (9223372036854775807 < x.size + t.size) := by omega
   have hsm : (x ++ t).size ≤ maxLen := by rw [ByteArray.size_append]; unfold maxLen; omega
   have HSM := Lib.hid hsm
   have HG5 := Lib.hid (HG.out.next hw5)
   clear h3 h4 h5 hsm B4 hxs HG
   go_wp2_with fail
   refine (implTake (x ++ t) a0 a1 w5 HSM.out HG5.out).mono ?_
   unfold RetTake
   rw [H3.out, H4.out, H5.out]
   rintro e w6 ⟨rfl, hb6⟩
   have B6 := B5.next hb6
   have hw6 := below_next hw5 hb6
   obtain ⟨w7, e7, -, C7, hV7⟩ := al1 w6 rfl #[.string l.s, .string l.b] 24
   have hw7 := below_next hw6 hV7
   have B7 := B6.next hV7
   clear B5 B6
   have q := B7.c2
   have r := C7.c2
   go_wp2
   go_ret
   exact ⟨rfl, hw7⟩

set_option maxRecDepth 100000 in
theorem lifted (os : Os) (started : os.Started) (H : Type) (enc : TypeId × Value → H) :
  ReturnsInHanded {} Tryd.checked os 3 .any (fun w args => (Rows.fnLetterTextSpec.pre enc Tryd.prog Tryd.f3 [] false w args ∧ laidMetH Tryd.prog laidE w) ∧ sizedMet enc Tryd.prog Tryd.f3 (OpenSpec.ofChange Rows.fnLetterTextSpec) false w args)
   (Rows.fnLetterTextSpec.post enc Tryd.prog Tryd.f3 false true false false) := by
 refine returnsInHanded_of_change_and (C := Tryd.checked) (X := fun w _ => laidMetH Tryd.prog laidE w) (fun _ _ _ hh h => h.of_heap hh) Whole.own started (by kernel_rfl) Tryd.func3
  (ChangeSpec.witness_shaped (enc := enc) (C := Tryd.checked) (os := os) (X := fun w _ => laidMetH Tryd.prog laidE w) false (World.doorLaid Tryd.prog 47 os) #[.slice none 0 0, .slice none 0 0] 8 rfl (World.shaped_of_RefB (by kernel_rfl) (by kernel_rfl)) (by kernel_rfl) (by kernel_rfl) (by kernel_rfl) (e_door os _)) ?_
 intro W base args ds gs before hval0 hW _ _ hL _
 have hval : ∀ (j : Nat) t v, Tryd.f3.params[j]? = some t → args[j]? = some v → Value.okWide Tryd.prog W .any base t v := hval0
 have hW' := hW
 obtain ⟨p, q, hA0, hV0, rfl, hfz, hnd⟩ := hW
 have hA : DataW.TrodAll enc Tryd.prog W 0 (fun _ => true) true Tryd.f3.params.toList args.toList ds p := hA0
 have hV : DataW.TrodVars enc Tryd.prog W (fun _ => true) [n0, n1] gs q := hV0
 rw [Tryd.params3] at hA hval
 obtain ⟨v0, vs0, d0, ds0, p0, q0, hargs, rfl, rfl, h0, r0⟩ := trodAll_cons hA
 obtain ⟨v1, vs1, d1, ds1, p1, q1, rfl, rfl, rfl, h1, r1⟩ := trodAll_cons r0
 obtain ⟨rfl, rfl, rfl⟩ := trodAll_nil r1
 obtain rfl : args = #[v0, v1] := by cases args; simp_all
 obtain ⟨a0, a1, hv0, hv1, GE⟩ := e_open (e_plain hL)
 obtain ⟨rfl, rfl⟩ := hV.unique (e_read enc hv0 hv1 trivial trivial _)
 have k0 := h0
 have lt0 : ∀ x ∈ p0, x.block < W.heap.size := by obtain ⟨m, hm⟩ := k0; exact DataW.trod_lt m _ _ _ hm
 obtain ⟨A0, n0, c0, rfl, hc0, hm0, hr0⟩ := openBytes (hval 0 22 v0 rfl rfl) h0
 have k1 := h1
 have lt1 : ∀ x ∈ p1, x.block < W.heap.size := by obtain ⟨m, hm⟩ := k1; exact DataW.trod_lt m _ _ _ hm
 obtain ⟨A1, n1, c1, rfl, hc1, hm1, hr1⟩ := openBytes (hval 1 22 v1 rfl rfl) h1
 clear hA0 hval0 hV0
 refine (walk A0 n0 c0 A1 n1 c1 a0 a1 W hc0 hm0 hr0 hc1 hm1 hr1 GE).mono fun e W' ⟨he, bel⟩ => ?_
 subst he
 exact ⟨_, rfl, _, _, _, [], _, [.cell 0 0, .cell 1 0], hW', trodAll_mk1 (shut_bool Tryd.underlying4 _), (trodAll_cons_mk (Below.trod Whole.laidOut (by kernel_rfl) (of_decide_eq_true (by kernel_rfl)) k0 bel lt0) (trodAll_cons_mk (Below.trod Whole.laidOut (by kernel_rfl) (of_decide_eq_true (by kernel_rfl)) k1 bel lt1) trodAll_mk0)), e_read enc (var_below e_g0 bel hv0) (var_below e_g1 bel hv1) trivial trivial _, bel.frame _, fun h => by cases h⟩

theorem named : Tryd.prog.funcNamed Rows.fnLetterTextRow.func = some 3 := by kernel_rfl
theorem closed : Whole.lawFacts Tryd.prog 3 Tryd.f3 Rows.fnLetterTextSpec Rows.fnLetterTextRow = true := by kernel_rfl
theorem inst : Tryd.f3.isInstance Tryd.prog Rows.fnLetterTextRow.origin Rows.fnLetterTextRow.targs := of_decide_eq_true (by kernel_rfl)
theorem wrap : Tryd.f3.isWrapper Tryd.prog Rows.fnLetterTextRow.wrapper Rows.fnLetterTextRow.mainSum := by
 unfold Func.isWrapper; first | (rw [if_pos (by decide +kernel)]; kernel_rfl) | (rw [if_neg (by decide +kernel)]; exact ⟨rfl, rfl⟩)
theorem over : Rows.fnLetterTextRow.holds Tryd.pinned (OpenSpec.ofChange Rows.fnLetterTextSpec) :=
 OpenClaim.holds_of_wide 3 Tryd.f3 rfl rfl rfl rfl rfl rfl rfl ⟨rfl, rfl, rfl, rfl, rfl⟩ rfl rfl rfl rfl rfl named Tryd.func3 (Whole.facts_of closed)
  inst wrap (fun os started H enc _ => lifted os started H enc)

theorem proved : Rows.FnLetterTextCardSaid :=
 Claim7.holds_tied_plain_at .later [] [.sentinel, .sentinel] true (true, "f355c901a8b8506d89c9f4b274f0813ef8c12415e439c0c7a2efd621187a51cb") true
  over (fun _ h => by cases h) (by kernel_rfl) (fun _ h => by cases h) fnLetterText_row_tie rfl ⟨rfl, rfl⟩ (by kernel_rfl) rfl
  (fun f fn hf hfn => by
   obtain rfl : f = 3 := Option.some.inj (named.symm.trans hf) |>.symm
   obtain rfl : fn = Tryd.f3 := (Option.some.inj (Tryd.func3.symm.trans hfn)).symm
   exact ⟨by kernel_rfl, fun j t ht => by
    rw [Tryd.params3] at ht
    have hm : t ∈ [22] := by have := Array.mem_of_getElem? ht; simp at this ⊢; omega
    have hall : ([22].all fun u => !Tryd.prog.wantsStandIn u) = true := by kernel_rfl
    exact (show Tryd.prog.wantsStandIn t = false by simpa using List.all_eq_true.1 hall t hm)⟩)
  (by kernel_rfl)
#print axioms proved
end Go.Proofs.YtilcncnhkidndaaDoor.fnLetterText
