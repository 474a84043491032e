/- The law FnLetterTake: for every two codes that are drawn from, what is taken is what the model takes; what is malformed stays so with more bytes behind it, and a letter that is taken is waited for until its last byte and has the bytes that it took: for every input the call returns true, and the arguments read afterwards as before. No conditions. -/
import Derived.Test.YtilcncnhkidndaaDoorRows
import Derived.Test.YtilcncnhkidndaaDoorCards
import Derived.Test.YtilcncnhkidndaaDoorTie
import Derived.Test.YtilcncnhkidndaaDoorWhole
import Derived.Test.YtilcncnhkidndaaDoorGlO
import Derived.Test.YtilcncnhkidndaaDoorFlLetter
import Derived.Test.YtilcncnhkidndaaDoorL5j
import Derived.Test.YtilcncnhkidndaaDoorL5k
import Derived.Test.YtilcncnhkidndaaDoorD5d
import Derived.WalkKit
import Derived.ProofKit
import Derived.OpenShut
import Derived.ShutString
import Derived.ChangeOld
import Derived.Below
import Derived.LaidMore
import Derived.SevenTiedAt
import Derived.Stop.Joined
namespace Go.Proofs.YtilcncnhkidndaaDoor.fnLetterTake
open Go.ChangeShapes Go.WideShapes Go.ChangeAt Go.RowKit
open Go.ChangeMaps (open_string shut_string)
set_option linter.unusedVariables false

theorem text_took {s : ByteArray} {ts tb : ByteArray} {cn : Nat} (h : codeL (bs s) = 0) (hT : tookL (bs s) = ⟨ts, tb⟩) (hN : cntL (bs s) = cn) :
  cn ≤ s.size ∧ cn = needL (bs s) ∧ FitLE ⟨ts, tb⟩ ∧ ts.size + tb.size ≤ 2097151 ∧ bo (textL ⟨ts, tb⟩) = s.extract 0 cn := by
 have h1 := took_enc h
 have h2 := len_le h
 have h3 := took_size h
 rw [hT] at h1 h3
 have h4 : cn = needL (bs s) := by rw [← hN]; exact if_pos h
 have h5 : (bs s).length = s.size := rfl
 dsimp only at h3
 refine ⟨by omega, h4, ⟨by show ts.size ≤ maxLen; unfold maxLen; omega, by show tb.size ≤ maxLen; unfold maxLen; omega⟩, by omega, ?_⟩
 apply bs_inj
 rw [bs_bo, bs_extract, List.drop_zero]
 unfold textL
 rw [if_pos h1.1, h1.2, h4]
theorem none_took {s : ByteArray} {ts tb : ByteArray} {cn : Nat} (h : codeL (bs s) ≠ 0) (hT : tookL (bs s) = ⟨ts, tb⟩) (hN : cntL (bs s) = cn) : ts = ⟨#[]⟩ ∧ tb = ⟨#[]⟩ ∧ cn = 0 := by
 have h1 := hT.symm.trans (took_none h)
 exact ⟨congrArg LE.s h1, congrArg LE.b h1, by rw [← hN, cnt_none h]⟩

set_option maxRecDepth 100000 in
set_option maxHeartbeats 4000000 in
theorem walk (A0 : Option Addr) (n0 c0 : Nat) (A1 : Option Addr) (n1 c1 : Nat) (a0 a1 : Addr) (w : World) (hc0 : n0 ≤ c0) (hm0 : c0 ≤ maxLen) (hr0 : RdB w w.heap.size A0 n0) (hc1 : n1 ≤ c1) (hm1 : c1 ≤ maxLen) (hr1 : RdB w w.heap.size A1 n1) (GE : GlE w a0 a1) :
  Calls Tryd.prog 4 #[.slice A0 n0 c0, .slice A1 n1 c1] w fun e w' => e = .returned (.bool true) ∧ Below w.heap.size w w' := by
 by_cases hbig : 1048576 < n0
 ·
  have hbi : decide ((1048576 : Int) < (n0 : Int)) = true := decide_eq_true (by omega)
  go_enter Tryd.func4, Tryd.ntmps4
  go_wp2
  go_ret
  exact ⟨rfl, Below.refl _ _⟩
 have hbi : decide ((1048576 : Int) < (n0 : Int)) = false := decide_eq_false (by omega)
 by_cases hbig1 : 1048576 < n1
 ·
  have hbi1 : decide ((1048576 : Int) < (n1 : Int)) = true := decide_eq_true (by omega)
  go_enter Tryd.func4, Tryd.ntmps4
  go_wp2
  go_ret
  exact ⟨rfl, Below.refl _ _⟩
 have hbi1 : decide ((1048576 : Int) < (n1 : Int)) = false := decide_eq_false (by omega)
 have HG := Lib.hid GE
 clear GE
 go_enter Tryd.func4, Tryd.ntmps4
 go_wp2_with fail
 refine (dDrawLetterTake A0 n0 c0 w hc0 hm0 hr0).mono ?_
 rintro e w1 ⟨s, rfl, hs, hw1⟩
 have hsm : s.size ≤ maxLen := by unfold maxLen; omega
 have HG1 := Lib.hid (HG.out.next hw1)
 clear HG
 obtain ⟨ts, tb, HT⟩ : ∃ a b, Hid (tookL (bs s) = ⟨a, b⟩) := ⟨_, _, Lib.hid rfl⟩
 obtain ⟨cn, HN⟩ : ∃ n, Hid (cntL (bs s) = n) := ⟨_, Lib.hid rfl⟩
 obtain ⟨cd, HC⟩ : ∃ n, Hid (codeL (bs s) = n) := ⟨_, Lib.hid rfl⟩
 go_wp2_with fail
 refine (implTake s a0 a1 w1 hsm HG1.out).mono ?_
 unfold RetTake
 rw [HT.out, HN.out, HC.out]
 rintro e w2 ⟨rfl, hb2⟩
 have hw2 := below_next hw1 hb2
 obtain ⟨w3, e3, -, B3, hb3⟩ := al1 w2 rfl #[.string ts, .string tb] 24
 obtain ⟨g, hg⟩ : ∃ g, w2.heap.size = g := ⟨_, rfl⟩
 have hw3 := below_next hw2 hb3
 rw [hg] at B3
 have lt3 := B3.lt
 go_wp2_with fail
 refine (specTake s w3 hsm).mono ?_
 unfold RetTake
 rw [HT.out, HN.out, HC.out]
 rintro e w4 ⟨rfl, hb4⟩
 clear e3 hg
 have hw4 := below_next hw3 hb4
 have B4 := B3.next hb4
 obtain ⟨w5, e5, -, C5, hb5⟩ := al1 w4 rfl #[.string ts, .string tb] 24
 obtain ⟨g', hg'⟩ : ∃ g, w4.heap.size = g := ⟨_, rfl⟩
 have hw5 := below_next hw4 hb5
 rw [hg'] at C5
 have B5 := B4.next hb5
 have HG5 := Lib.hid (HG1.out.next (below_next (below_next (below_next hb2 hb3) hb4) hb5))
 clear B3 B4 hb2 hb3 hb4 hb5 HG1
 have q := B5.c2
 have r := C5.c2
 go_wp2_with fail
 refine (dDrawLetterAll A1 n1 c1 w5 hc1 hm1 (hr1.below hw5)).mono ?_
 rintro e w6 ⟨t, rfl, ht, hb6⟩
 clear e5 hg' q r C5
 have B6 := B5.next hb6
 have hw6 := below_next hw5 hb6
 have y1 : ¬ (9223372036854775807 < s.size + t.size) := by omega
 have HSM := Lib.hid (show (s ++ t).size ≤ maxLen from by rw [ByteArray.size_append]; unfold maxLen; omega)
 have HG6 := Lib.hid (HG5.out.next hb6)
 obtain ⟨ts2, tb2, HT2⟩ : ∃ a b, Hid (tookL (bs (s ++ t)) = ⟨a, b⟩) := ⟨_, _, Lib.hid rfl⟩
 obtain ⟨cn2, HN2⟩ : ∃ n, Hid (cntL (bs (s ++ t)) = n) := ⟨_, Lib.hid rfl⟩
 obtain ⟨cd2, HC2⟩ : ∃ n, Hid (codeL (bs (s ++ t)) = n) := ⟨_, Lib.hid rfl⟩
 clear HG5 B5
 go_wp2_with fail
 refine (implTake (s ++ t) a0 a1 w6 HSM.out HG6.out).mono ?_
 unfold RetTake
 rw [HT2.out, HN2.out, HC2.out]
 rintro e w7 ⟨rfl, hb7⟩
 have B7 := B6.next hb7
 have hw7 := below_next hw6 hb7
 obtain ⟨w8, e8, -, -, hb8⟩ := al1 w7 rfl #[.string ts2, .string tb2] 24
 have B8 := B7.next hb8
 have hw8 := below_next hw7 hb8
 have HG8 := Lib.hid (HG6.out.next (below_next hb7 hb8))
 clear B6 B7 hb7 hb8 HG6
 have q := B8.c2
 rcases code_cases (bs s) with ⟨h0, -⟩ | ⟨h0, -⟩ | ⟨h0, -⟩
 ·
  obtain rfl : cd = 0 := by rw [← HC.out, h0]
  obtain rfl : cd2 = 0 := by rw [← HC2.out, bs_append]; exact (fine_more h0 _).1
  obtain ⟨hcs, hcn, hfl, hfs, hx⟩ := text_took h0 HT.out HN.out
  have HF := Lib.hid hfl
  have HS := Lib.hid hfs
  have HX := Lib.hid hx
  have HW := Lib.hid (show ∀ k, k < cn → codeL (bs (s.extract 0 k)) = 1 from fun k hk => by rw [bs_extract, List.drop_zero]; exact take_wait h0 (by omega))
  have hcz : (cn : Int) ≤ (s.size : Int) := by omega
  clear hfl hfs hx h0 hcn
  go_wp2
  go_loopw [16] (fun i W => ∃ k : Nat, i = .int .i64 k ∧ k ≤ cn ∧ Below w8.heap.size w8 W) (fun i _ => cn - (intOf i).toNat)
  case atStart => exact ⟨0, rfl, Nat.zero_le _, Below.refl _ _⟩
  case round =>
   clear e8 q
   obtain ⟨k, rfl, hk, hb⟩ := hrel
   have HGr := Lib.hid (HG8.out.next hb)
   have hwr := below_next hw8 hb
   by_cases hkl : k < cn
   ·
    have hi : (k : Int) < (cn : Int) := by omega
    have hks : (k : Int) ≤ (s.size : Int) := by omega
    obtain ⟨u, v, HTk⟩ : ∃ a b, Hid (tookL (bs (s.extract 0 k)) = ⟨a, b⟩) := ⟨_, _, Lib.hid rfl⟩
    obtain ⟨cnk, HNk⟩ : ∃ n, Hid (cntL (bs (s.extract 0 k)) = n) := ⟨_, Lib.hid rfl⟩
    have HCk := Lib.hid (HW.out k hkl)
    have HSk := Lib.hid (show (s.extract 0 k).size ≤ maxLen from by rw [ByteArray.size_extract]; unfold maxLen; omega)
    have HB := Lib.hid hb
    clear hb
    go_wp2_with fail
    refine (implTake (s.extract 0 k) a0 a1 _ HSk.out HGr.out).mono ?_
    unfold RetTake
    rw [HTk.out, HNk.out, HCk.out]
    rintro e w9 ⟨rfl, hb9⟩
    obtain ⟨w10, e10, -, -, hb10⟩ := al1 w9 rfl #[.string u, .string v] 24
    have HB10 := Lib.hid (below_next (below_next HB.out hb9) hb10)
    clear hb9 hb10
    go_wp2
    go_roundw
    case rel => exact ⟨k + 1, by go_num, by omega, HB10.out⟩
    case measure => simp [intOf]; omega
   ·
    have hi : ¬ (k : Int) < (cn : Int) := by omega
    have Br := B8.next hb
    have ltr := Br.lt
    have F := ((Fr.bel (p := wr.heap.size) (q := wr.heap.size) hwr hwr.size).blk Br (.inl (by omega))).cut
    have hcr := F.hc fun V h => h.1.2.c2
    go_wp2
    refine reg F fun d1 hd F1 => ?_
    clear F hd
    have F := F1
    clear F1
    refine tkc F hcr 0 ?_
    refine tkc F hcr 1 ?_
    refine tkc F hcr 2 ?_
    refine tkc F hcr 3 ?_
    refine tkc F hcr 5 ?_
    refine tkc F hcr 6 ?_
    refine tkc F hcr 7 ?_
    refine rdo 4 (fun K hK => ?_)
    go_simp
    go_at_call 13
    refine (implText ⟨ts, tb⟩ _ HF.out HS.out).mono ?_
    rw [HX.out]
    rintro e w9 ⟨rfl, hb9⟩
    replace F := F.next hb9
    go_wp2_with fail
    refine fn hK F ?_
    clear hK K hb9
    refine tkc F hcr 8 ?_
    refine tkc F hcr 9 ?_
    refine tkc F hcr 10 ?_
    refine wpAnyH_done (by kernel_rfl) ?_ _
    go_wp2
    go_ret
    exact ⟨rfl, F.now.1.1⟩
 ·
  obtain rfl : cd = 1 := by rw [← HC.out, h0]
  obtain ⟨rfl, rfl, rfl⟩ := none_took (by omega) HT.out HN.out
  clear h0
  go_wp2
  go_ret
  exact ⟨rfl, hw8⟩
 ·
  obtain rfl : cd = 2 := by rw [← HC.out, h0]
  obtain rfl : cd2 = 2 := by rw [← HC2.out, bs_append]; exact bad_more h0 _
  obtain ⟨rfl, rfl, rfl⟩ := none_took (by omega) HT.out HN.out
  clear h0
  go_wp2
  go_ret
  exact ⟨rfl, hw8⟩

set_option maxRecDepth 100000 in
theorem lifted (os : Os) (started : os.Started) (H : Type) (enc : TypeId × Value → H) :
  ReturnsInHanded {} Tryd.checked os 4 .any (fun w args => (Rows.fnLetterTakeSpec.pre enc Tryd.prog Tryd.f4 [] false w args ∧ laidMetH Tryd.prog laidE w) ∧ sizedMet enc Tryd.prog Tryd.f4 (OpenSpec.ofChange Rows.fnLetterTakeSpec) false w args)
   (Rows.fnLetterTakeSpec.post enc Tryd.prog Tryd.f4 false true false false) := by
 refine returnsInHanded_of_change_and (C := Tryd.checked) (X := fun w _ => laidMetH Tryd.prog laidE w) (fun _ _ _ hh h => h.of_heap hh) Whole.own started (by kernel_rfl) Tryd.func4
  (ChangeSpec.witness_shaped (enc := enc) (C := Tryd.checked) (os := os) (X := fun w _ => laidMetH Tryd.prog laidE w) false (World.doorLaid Tryd.prog 47 os) #[.slice none 0 0, .slice none 0 0] 8 rfl (World.shaped_of_RefB (by kernel_rfl) (by kernel_rfl)) (by kernel_rfl) (by kernel_rfl) (by kernel_rfl) (e_door os _)) ?_
 intro W base args ds gs before hval0 hW _ _ hL _
 have hval : ∀ (j : Nat) t v, Tryd.f4.params[j]? = some t → args[j]? = some v → Value.okWide Tryd.prog W .any base t v := hval0
 have hW' := hW
 obtain ⟨p, q, hA0, hV0, rfl, hfz, hnd⟩ := hW
 have hA : DataW.TrodAll enc Tryd.prog W 0 (fun _ => true) true Tryd.f4.params.toList args.toList ds p := hA0
 have hV : DataW.TrodVars enc Tryd.prog W (fun _ => true) [n0, n1] gs q := hV0
 rw [Tryd.params4] at hA hval
 obtain ⟨v0, vs0, d0, ds0, p0, q0, hargs, rfl, rfl, h0, r0⟩ := trodAll_cons hA
 obtain ⟨v1, vs1, d1, ds1, p1, q1, rfl, rfl, rfl, h1, r1⟩ := trodAll_cons r0
 obtain ⟨rfl, rfl, rfl⟩ := trodAll_nil r1
 obtain rfl : args = #[v0, v1] := by cases args; simp_all
 obtain ⟨a0, a1, hv0, hv1, GE⟩ := e_open (e_plain hL)
 obtain ⟨rfl, rfl⟩ := hV.unique (e_read enc hv0 hv1 trivial trivial _)
 have k0 := h0
 have lt0 : ∀ x ∈ p0, x.block < W.heap.size := by obtain ⟨m, hm⟩ := k0; exact DataW.trod_lt m _ _ _ hm
 obtain ⟨A0, n0, c0, rfl, hc0, hm0, hr0⟩ := openBytes (hval 0 22 v0 rfl rfl) h0
 have k1 := h1
 have lt1 : ∀ x ∈ p1, x.block < W.heap.size := by obtain ⟨m, hm⟩ := k1; exact DataW.trod_lt m _ _ _ hm
 obtain ⟨A1, n1, c1, rfl, hc1, hm1, hr1⟩ := openBytes (hval 1 22 v1 rfl rfl) h1
 clear hA0 hval0 hV0
 refine (walk A0 n0 c0 A1 n1 c1 a0 a1 W hc0 hm0 hr0 hc1 hm1 hr1 GE).mono fun e W' ⟨he, bel⟩ => ?_
 subst he
 exact ⟨_, rfl, _, _, _, [], _, [.cell 0 0, .cell 1 0], hW', trodAll_mk1 (shut_bool Tryd.underlying4 _), (trodAll_cons_mk (Below.trod Whole.laidOut (by kernel_rfl) (of_decide_eq_true (by kernel_rfl)) k0 bel lt0) (trodAll_cons_mk (Below.trod Whole.laidOut (by kernel_rfl) (of_decide_eq_true (by kernel_rfl)) k1 bel lt1) trodAll_mk0)), e_read enc (var_below e_g0 bel hv0) (var_below e_g1 bel hv1) trivial trivial _, bel.frame _, fun h => by cases h⟩

theorem named : Tryd.prog.funcNamed Rows.fnLetterTakeRow.func = some 4 := by kernel_rfl
theorem closed : Whole.lawFacts Tryd.prog 4 Tryd.f4 Rows.fnLetterTakeSpec Rows.fnLetterTakeRow = true := by kernel_rfl
theorem inst : Tryd.f4.isInstance Tryd.prog Rows.fnLetterTakeRow.origin Rows.fnLetterTakeRow.targs := of_decide_eq_true (by kernel_rfl)
theorem wrap : Tryd.f4.isWrapper Tryd.prog Rows.fnLetterTakeRow.wrapper Rows.fnLetterTakeRow.mainSum := by
 unfold Func.isWrapper; first | (rw [if_pos (by decide +kernel)]; kernel_rfl) | (rw [if_neg (by decide +kernel)]; exact ⟨rfl, rfl⟩)
theorem over : Rows.fnLetterTakeRow.holds Tryd.pinned (OpenSpec.ofChange Rows.fnLetterTakeSpec) :=
 OpenClaim.holds_of_wide 4 Tryd.f4 rfl rfl rfl rfl rfl rfl rfl ⟨rfl, rfl, rfl, rfl, rfl⟩ rfl rfl rfl rfl rfl named Tryd.func4 (Whole.facts_of closed)
  inst wrap (fun os started H enc _ => lifted os started H enc)

theorem proved : Rows.FnLetterTakeCardSaid :=
 Claim7.holds_tied_plain_at .later [] [.sentinel, .sentinel] true (true, "f355c901a8b8506d89c9f4b274f0813ef8c12415e439c0c7a2efd621187a51cb") true
  over (fun _ h => by cases h) (by kernel_rfl) (fun _ h => by cases h) fnLetterTake_row_tie rfl ⟨rfl, rfl⟩ (by kernel_rfl) rfl
  (fun f fn hf hfn => by
   obtain rfl : f = 4 := Option.some.inj (named.symm.trans hf) |>.symm
   obtain rfl : fn = Tryd.f4 := (Option.some.inj (Tryd.func4.symm.trans hfn)).symm
   exact ⟨by kernel_rfl, fun j t ht => by
    rw [Tryd.params4] at ht
    have hm : t ∈ [22] := by have := Array.mem_of_getElem? ht; simp at this ⊢; omega
    have hall : ([22].all fun u => !Tryd.prog.wantsStandIn u) = true := by kernel_rfl
    exact (show Tryd.prog.wantsStandIn t = false by simpa using List.all_eq_true.1 hall t hm)⟩)
  (by kernel_rfl)
#print axioms proved
end Go.Proofs.YtilcncnhkidndaaDoor.fnLetterTake
