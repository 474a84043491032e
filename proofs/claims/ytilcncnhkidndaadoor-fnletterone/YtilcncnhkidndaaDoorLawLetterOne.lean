/- The law FnLetterOne: for every two codes that are drawn from, the text of two letters is the model's, and if both are letters, it is read back as these two with nothing left: for every input the call returns true, and the arguments read afterwards as before. No conditions. -/
import Derived.Test.YtilcncnhkidndaaDoorRows
import Derived.Test.YtilcncnhkidndaaDoorCards
import Derived.Test.YtilcncnhkidndaaDoorTie
import Derived.Test.YtilcncnhkidndaaDoorWhole
import Derived.Test.YtilcncnhkidndaaDoorGlO
import Derived.Test.YtilcncnhkidndaaDoorFlLetter
import Derived.Test.YtilcncnhkidndaaDoorL5j
import Derived.Test.YtilcncnhkidndaaDoorL5k
import Derived.Test.YtilcncnhkidndaaDoorD5d
import Derived.WalkKit
import Derived.ProofKit
import Derived.OpenShut
import Derived.ShutString
import Derived.ChangeOld
import Derived.Below
import Derived.LaidMore
import Derived.SevenTiedAt
import Derived.Stop.Joined
namespace Go.Proofs.YtilcncnhkidndaaDoor.fnLetterOne
open Go.ChangeShapes Go.WideShapes Go.ChangeAt Go.RowKit
open Go.ChangeMaps (open_string shut_string)
set_option linter.unusedVariables false

theorem two_yes {la lb : LE} {x xa xb : ByteArray} (ha : okB la = true) (hb : okB lb = true) (hx : bo (textsL [la, lb]) = x) (hxa : bo (textL la) = xa) (hxb : bo (textL lb) = xb) :
  x = xa ++ xb ∧ xa.size + xb.size ≤ 86 ∧ AllP (bs x) [la, lb] [] 0 := by
 have hall : ∀ l ∈ [la, lb], okB l = true := fun l hl => by simp only [List.mem_cons, List.not_mem_nil, or_false] at hl; rcases hl with rfl | rfl <;> assumption
 have h1 : bs xa = enc la := by rw [← hxa, bs_bo]; unfold textL; rw [if_pos ha]
 have h2 : bs xb = enc lb := by rw [← hxb, bs_bo]; unfold textL; rw [if_pos hb]
 have h3 : bs x = catL [la, lb] := by rw [← hx, bs_bo, textsL_ok hall]
 have h4 : x = xa ++ xb := bs_inj (by rw [bs_append, h1, h2, h3]; simp [catL])
 have e1 := enc_length ha
 have e2 := enc_length hb
 have a5 : la.b.size ≤ 40 := by have := ha; unfold okB at this; simp only [Bool.and_eq_true, decide_eq_true_eq] at this; omega
 have b5 : lb.b.size ≤ 40 := by have := hb; unfold okB at this; simp only [Bool.and_eq_true, decide_eq_true_eq] at this; omega
 have s1 : xa.size = (enc la).length := by rw [← h1]; rfl
 have s2 : xb.size = (enc lb).length := by rw [← h2]; rfl
 refine ⟨h4, by omega, fun h => ?_, fun _ => by rw [h3]; exact AllR.cat hall⟩
 have : (bs x).length = x.size := rfl
 rw [h4, ByteArray.size_append] at this
 rw [h4] at h
 omega
theorem two_cells {W : World} {n j cap : Nat} {la lb : LE} (h : OwnG W n (.slice (some ⟨j, 0, none⟩) 2 cap) [la, lb]) : C4 W j (.string la.s) (.string la.b) (.string lb.s) (.string lb.b) := by
 have h1 := (OwnG.rd' h).2.2.2
 have f0 := (h1.fix rfl (i := 0) (by simp)).2
 have f1 := (h1.fix rfl (i := 1) (by simp)).2
 exact ⟨f0 0 _ rfl, f0 1 _ rfl, f1 0 _ rfl, f1 1 _ rfl⟩
theorem two_form {W : World} {n : Nat} {v : Value} {la lb : LE} (h : OwnG W n v [la, lb]) : ∃ j cap, v = .slice (some ⟨j, 0, none⟩) 2 cap ∧ 2 ≤ cap := by
 rcases h.cases with ⟨-, h2⟩ | ⟨j, cap, cur, rfl, -, -, hc, -⟩
 ·
  cases h2
 ·
  exact ⟨j, cap, rfl, hc⟩
theorem impl2 {w : World} {j : Nat} {la lb : LE} {x : ByteArray} (B : Blk w j 24 #[.string la.s, .string la.b, .string lb.s, .string lb.b]) (hf : FitLEs [la, lb]) (ht : totalLE [la, lb] ≤ 2097152) (hx : bo (textsL [la, lb]) = x) :
  Calls Tryd.prog 24 #[.slice (some ⟨j, 0, none⟩) 2 2] w fun e w' => e = .returned (.string x) ∧ Below w.heap.size w w' := by
 subst hx
 exact implTexts (some ⟨j, 0, none⟩) 2 [la, lb] w hf ht (Nat.le_refl _) (OwnG.of_blk (base := 0) (l := [la, lb]) (Nat.zero_le _) B (by unfold maxLen; simp)).rd'.2.2.2
theorem spec2 {w : World} {j : Nat} {la lb : LE} {x : ByteArray} (B : Blk w j 24 #[.string la.s, .string la.b, .string lb.s, .string lb.b]) (hf : FitLEs [la, lb]) (ht : totalLE [la, lb] ≤ 2097152) (hx : bo (textsL [la, lb]) = x) :
  Calls Tryd.prog 26 #[.slice (some ⟨j, 0, none⟩) 2 2] w fun e w' => e = .returned (.string x) ∧ Below w.heap.size w w' := by
 subst hx
 exact specTexts (some ⟨j, 0, none⟩) 2 [la, lb] w hf ht (Nat.le_refl _) (OwnG.of_blk (base := 0) (l := [la, lb]) (Nat.zero_le _) B (by unfold maxLen; simp)).rd'.2.2.2

set_option maxRecDepth 100000 in
set_option maxHeartbeats 4000000 in
theorem walk (A0 : Option Addr) (n0 c0 : Nat) (A1 : Option Addr) (n1 c1 : Nat) (a0 a1 : Addr) (w : World) (hc0 : n0 ≤ c0) (hm0 : c0 ≤ maxLen) (hr0 : RdB w w.heap.size A0 n0) (hc1 : n1 ≤ c1) (hm1 : c1 ≤ maxLen) (hr1 : RdB w w.heap.size A1 n1) (GE : GlE w a0 a1) :
  Calls Tryd.prog 8 #[.slice A0 n0 c0, .slice A1 n1 c1] w fun e w' => e = .returned (.bool true) ∧ Below w.heap.size w w' := by
 by_cases hbig : 1048576 < n0
 ·
  have hbi : decide ((1048576 : Int) < (n0 : Int)) = true := decide_eq_true (by omega)
  go_enter Tryd.func8, Tryd.ntmps8
  go_wp2
  go_ret
  exact ⟨rfl, Below.refl _ _⟩
 have hbi : decide ((1048576 : Int) < (n0 : Int)) = false := decide_eq_false (by omega)
 by_cases hbig1 : 1048576 < n1
 ·
  have hbi1 : decide ((1048576 : Int) < (n1 : Int)) = true := decide_eq_true (by omega)
  go_enter Tryd.func8, Tryd.ntmps8
  go_wp2
  go_ret
  exact ⟨rfl, Below.refl _ _⟩
 have hbi1 : decide ((1048576 : Int) < (n1 : Int)) = false := decide_eq_false (by omega)
 have HG := Lib.hid GE
 clear GE
 go_enter Tryd.func8, Tryd.ntmps8
 go_wp2_with fail
 refine (dDrawLetterOk A0 n0 c0 w hc0 hm0 hr0).mono ?_
 rintro e w0 ⟨la, rfl, has, hab, hw0⟩
 obtain ⟨w1, e1, -, B1, hb1⟩ := al1 w0 rfl #[.string la.s, .string la.b] 24
 obtain ⟨g, hg⟩ : ∃ g, w0.heap.size = g := ⟨_, rfl⟩
 have hw1 := below_next hw0 hb1
 rw [hg] at B1
 go_wp2_with fail
 refine (dDrawLetterOk A1 n1 c1 w1 hc1 hm1 (hr1.below hw1)).mono ?_
 rintro e w2 ⟨lb, rfl, hbs, hbb, hb2⟩
 clear e1 hg
 have B2 := B1.next hb2
 have hw2 := below_next hw1 hb2
 obtain ⟨w3, e3, -, C3, hb3⟩ := al1 w2 rfl #[.string lb.s, .string lb.b] 24
 obtain ⟨g', hg'⟩ : ∃ g, w2.heap.size = g := ⟨_, rfl⟩
 have hw3 := below_next hw2 hb3
 rw [hg'] at C3
 have B3 := B2.next hb3
 clear B1 B2 hb1 hb2 hb3
 have HFT : FitLEs [la, lb] := fun l hl => by simp only [List.mem_cons, List.not_mem_nil, or_false] at hl; rcases hl with rfl | rfl <;> exact ⟨by unfold maxLen; omega, by unfold maxLen; omega⟩
 have HF := Lib.hid HFT
 have HFa := Lib.hid (HFT la (by simp))
 have HFb := Lib.hid (HFT lb (by simp))
 have HTT := Lib.hid (show totalLE [la, lb] ≤ 2097152 from by simp only [totalLE, List.map_cons, List.map_nil, List.sum_cons, List.sum_nil]; omega)
 have HTa := Lib.hid (show la.s.size + la.b.size ≤ 2097151 from by omega)
 have HTb := Lib.hid (show lb.s.size + lb.b.size ≤ 2097151 from by omega)
 obtain ⟨x, HX⟩ : ∃ x, Hid (bo (textsL [la, lb]) = x) := ⟨_, Lib.hid rfl⟩
 obtain ⟨xa, HXa⟩ : ∃ x, Hid (bo (textL la) = x) := ⟨_, Lib.hid rfl⟩
 obtain ⟨xb, HXb⟩ : ∃ x, Hid (bo (textL lb) = x) := ⟨_, Lib.hid rfl⟩
 obtain ⟨p, HP⟩ : ∃ p, Hid (okB la = p) := ⟨_, Lib.hid rfl⟩
 obtain ⟨r, HR⟩ : ∃ p, Hid (okB lb = p) := ⟨_, Lib.hid rfl⟩
 clear HFT
 obtain ⟨w4, e4, -, D4, hb4⟩ := al1 w3 rfl #[.string la.s, .string la.b, .string lb.s, .string lb.b] 24
 have HD4 := Lib.hid D4
 have B4 := B3.next hb4
 have C4_ := C3.next hb4
 have hw4 := below_next hw3 hb4
 have q := B3.c2
 have q' := C3.c2
 clear D4
 go_wp2_with fail
 clear q q' e3 hg' B3 C3 hb4
 refine (impl2 HD4.out HF.out HTT.out HX.out).mono ?_
 rintro e w5 ⟨rfl, hb5⟩
 clear e4 HD4
 have B5 := B4.next hb5
 have C5 := C4_.next hb5
 have hw5 := below_next hw4 hb5
 obtain ⟨w6, e6, -, D6, hb6⟩ := al1 w5 rfl #[.string la.s, .string la.b, .string lb.s, .string lb.b] 24
 have HD6 := Lib.hid D6
 have B6 := B5.next hb6
 have C6 := C5.next hb6
 have hw6 := below_next hw5 hb6
 have q := B5.c2
 have q' := C5.c2
 clear D6 B4 C4_ hb5 hb6
 go_wp2_with fail
 clear q q' B5 C5
 refine (spec2 HD6.out HF.out HTT.out HX.out).mono ?_
 rintro e w7 ⟨rfl, hb7⟩
 clear e6 HD6
 have B7 := B6.next hb7
 have C7 := C6.next hb7
 have hw7 := below_next hw6 hb7
 have q := B7.c2
 clear B6 C6 hb7
 go_wp2_with fail
 clear q
 refine (specLOk la _ HFa.out).mono ?_
 rw [HP.out]
 rintro e w8 ⟨rfl, hb8⟩
 have B8 := B7.next hb8
 have C8 := C7.next hb8
 have hw8 := below_next hw7 hb8
 clear B7 C7 hb8
 cases p
 ·
  obtain ⟨w9, e9, -, D9, hb9⟩ := al1 w8 rfl #[.string la.s, .string la.b, .string lb.s, .string lb.b] 24
  have HD9 := Lib.hid D9
  have hw9 := below_next hw8 hb9
  have q := B8.c2
  have q' := C8.c2
  clear D9 hb9
  go_wp2_with fail
  clear q q'
  refine (spec2 HD9.out HF.out HTT.out HX.out).mono ?_
  rintro e w10 ⟨rfl, hb10⟩
  have hw10 := below_next hw9 hb10
  go_wp2
  go_ret
  exact ⟨rfl, hw10⟩
 ·
  have q := C8.c2
  go_wp2_with fail
  clear q
  refine (specLOk lb _ HFb.out).mono ?_
  rw [HR.out]
  rintro e w9 ⟨rfl, hb9⟩
  have B9 := B8.next hb9
  have C9 := C8.next hb9
  have hw9 := below_next hw8 hb9
  clear B8 C8
  cases r
  ·
   obtain ⟨w10, e10, -, D10, hb10⟩ := al1 w9 rfl #[.string la.s, .string la.b, .string lb.s, .string lb.b] 24
   have HD10 := Lib.hid D10
   have hw10 := below_next hw9 hb10
   have q := B9.c2
   have q' := C9.c2
   clear D10 hb10
   go_wp2_with fail
   clear q q'
   refine (spec2 HD10.out HF.out HTT.out HX.out).mono ?_
   rintro e w11 ⟨rfl, hb11⟩
   have hw11 := below_next hw10 hb11
   go_wp2
   go_ret
   exact ⟨rfl, hw11⟩
  ·
   obtain ⟨hxx, hxs, hP⟩ := two_yes HP.out HR.out HX.out HXa.out HXb.out
   have HA := Lib.hid hP
   have HSM := Lib.hid (show x.size ≤ maxLen from by rw [hxx, ByteArray.size_append]; unfold maxLen; omega)
   have HG9 := Lib.hid (HG.out.next hw9)
   have HXX := Lib.hid hxx
   have y1 : ¬ (9223372036854775807 < xa.size + xb.size) := by omega
   clear hxx hP HG hb9
   go_wp2_with fail
   refine (implAll x a0 a1 w9 HSM.out HG9.out).mono ?_
   rintro e w10 ⟨v, ls, t, cd, rfl, o10, hP10, hb10⟩
   obtain ⟨rfl, ht, rfl⟩ := hP10.unique HA.out
   obtain rfl : t = ⟨#[]⟩ := bs_inj ht
   obtain ⟨j, cap, rfl, hcap⟩ := two_form o10
   have B10 := B9.next hb10
   have C10 := C9.next hb10
   have hw10 := below_next hw9 hb10
   have ltb := B10.lt
   have ltc := C10.lt
   obtain rfl := HXX.out
   have F := ((((Fr.bel (p := w10.heap.size) (q := w10.heap.size) hw10 hw10.size).blk B10 (.inl (by omega))).blk C10 (.inl (by omega))).neG o10 fun k hk => .inl (o10.block_lt hk).2).cut
   have hcr := F.hc fun V h => And.intro h.1.1.1.2.c2 (And.intro h.1.1.2.c2 (two_cells h.1.2))
   clear ht hP10 o10 B9 C9 B10 C10 hb10
   go_wp2
   refine reg F fun d1 hd F1 => ?_
   clear F hd
   have F := F1
   clear F1
   refine tkc F hcr 0 ?_
   refine tkc F hcr 1 ?_
   refine tkc F hcr 3 ?_
   refine rdo 2 (fun K hK => ?_)
   go_simp
   go_at_call 13
   refine (implText la _ HFa.out HTa.out).mono ?_
   rw [HXa.out]
   rintro e w3 ⟨rfl, hb3⟩
   replace F := F.next hb3
   go_wp2_with fail
   refine fn hK F ?_
   clear hK K hb3
   refine rdo 4 (fun K hK => ?_)
   go_simp
   go_at_call 13
   refine (implText lb _ HFb.out HTb.out).mono ?_
   rw [HXb.out]
   rintro e w3 ⟨rfl, hb3⟩
   replace F := F.next hb3
   go_wp2_with fail
   refine fn hK F ?_
   clear hK K hb3
   refine tkc F hcr 5 ?_
   refine tkc F hcr 6 ?_
   refine tkc F hcr 7 ?_
   refine tkc F hcr 8 ?_
   refine tkc F hcr 9 ?_
   refine tkc F hcr 10 ?_
   refine tkc F hcr 11 ?_
   refine tkc F hcr 12 ?_
   refine tkc F hcr 13 ?_
   refine tkc F hcr 14 ?_
   refine tkc F hcr 15 ?_
   refine tkc F hcr 16 ?_
   refine tkc F hcr 17 ?_
   refine tkc F hcr 18 ?_
   refine tkc F hcr 19 ?_
   refine tkc F hcr 20 ?_
   refine tkc F hcr 21 ?_
   refine tkc F hcr 22 ?_
   refine tkc F hcr 23 ?_
   refine tkc F hcr 24 ?_
   refine tkc F hcr 25 ?_
   refine tkc F hcr 26 ?_
   refine tkc F hcr 27 ?_
   refine tkc F hcr 28 ?_
   refine tkc F hcr 29 ?_
   refine tkc F hcr 30 ?_
   refine tkc F hcr 31 ?_
   refine tkc F hcr 32 ?_
   refine tkc F hcr 33 ?_
   refine tkc F hcr 34 ?_
   refine wpAnyH_done (by kernel_rfl) ?_ _
   go_wp2
   go_ret
   exact ⟨rfl, F.now.1.1.1.1⟩

set_option maxRecDepth 100000 in
theorem lifted (os : Os) (started : os.Started) (H : Type) (enc : TypeId × Value → H) :
  ReturnsInHanded {} Tryd.checked os 8 .any (fun w args => (Rows.fnLetterOneSpec.pre enc Tryd.prog Tryd.f8 [] false w args ∧ laidMetH Tryd.prog laidE w) ∧ sizedMet enc Tryd.prog Tryd.f8 (OpenSpec.ofChange Rows.fnLetterOneSpec) false w args)
   (Rows.fnLetterOneSpec.post enc Tryd.prog Tryd.f8 false true false false) := by
 refine returnsInHanded_of_change_and (C := Tryd.checked) (X := fun w _ => laidMetH Tryd.prog laidE w) (fun _ _ _ hh h => h.of_heap hh) Whole.own started (by kernel_rfl) Tryd.func8
  (ChangeSpec.witness_shaped (enc := enc) (C := Tryd.checked) (os := os) (X := fun w _ => laidMetH Tryd.prog laidE w) false (World.doorLaid Tryd.prog 47 os) #[.slice none 0 0, .slice none 0 0] 8 rfl (World.shaped_of_RefB (by kernel_rfl) (by kernel_rfl)) (by kernel_rfl) (by kernel_rfl) (by kernel_rfl) (e_door os _)) ?_
 intro W base args ds gs before hval0 hW _ _ hL _
 have hval : ∀ (j : Nat) t v, Tryd.f8.params[j]? = some t → args[j]? = some v → Value.okWide Tryd.prog W .any base t v := hval0
 have hW' := hW
 obtain ⟨p, q, hA0, hV0, rfl, hfz, hnd⟩ := hW
 have hA : DataW.TrodAll enc Tryd.prog W 0 (fun _ => true) true Tryd.f8.params.toList args.toList ds p := hA0
 have hV : DataW.TrodVars enc Tryd.prog W (fun _ => true) [n0, n1] gs q := hV0
 rw [Tryd.params8] at hA hval
 obtain ⟨v0, vs0, d0, ds0, p0, q0, hargs, rfl, rfl, h0, r0⟩ := trodAll_cons hA
 obtain ⟨v1, vs1, d1, ds1, p1, q1, rfl, rfl, rfl, h1, r1⟩ := trodAll_cons r0
 obtain ⟨rfl, rfl, rfl⟩ := trodAll_nil r1
 obtain rfl : args = #[v0, v1] := by cases args; simp_all
 obtain ⟨a0, a1, hv0, hv1, GE⟩ := e_open (e_plain hL)
 obtain ⟨rfl, rfl⟩ := hV.unique (e_read enc hv0 hv1 trivial trivial _)
 have k0 := h0
 have lt0 : ∀ x ∈ p0, x.block < W.heap.size := by obtain ⟨m, hm⟩ := k0; exact DataW.trod_lt m _ _ _ hm
 obtain ⟨A0, n0, c0, rfl, hc0, hm0, hr0⟩ := openBytes (hval 0 22 v0 rfl rfl) h0
 have k1 := h1
 have lt1 : ∀ x ∈ p1, x.block < W.heap.size := by obtain ⟨m, hm⟩ := k1; exact DataW.trod_lt m _ _ _ hm
 obtain ⟨A1, n1, c1, rfl, hc1, hm1, hr1⟩ := openBytes (hval 1 22 v1 rfl rfl) h1
 clear hA0 hval0 hV0
 refine (walk A0 n0 c0 A1 n1 c1 a0 a1 W hc0 hm0 hr0 hc1 hm1 hr1 GE).mono fun e W' ⟨he, bel⟩ => ?_
 subst he
 exact ⟨_, rfl, _, _, _, [], _, [.cell 0 0, .cell 1 0], hW', trodAll_mk1 (shut_bool Tryd.underlying4 _), (trodAll_cons_mk (Below.trod Whole.laidOut (by kernel_rfl) (of_decide_eq_true (by kernel_rfl)) k0 bel lt0) (trodAll_cons_mk (Below.trod Whole.laidOut (by kernel_rfl) (of_decide_eq_true (by kernel_rfl)) k1 bel lt1) trodAll_mk0)), e_read enc (var_below e_g0 bel hv0) (var_below e_g1 bel hv1) trivial trivial _, bel.frame _, fun h => by cases h⟩

theorem named : Tryd.prog.funcNamed Rows.fnLetterOneRow.func = some 8 := by kernel_rfl
theorem closed : Whole.lawFacts Tryd.prog 8 Tryd.f8 Rows.fnLetterOneSpec Rows.fnLetterOneRow = true := by kernel_rfl
theorem inst : Tryd.f8.isInstance Tryd.prog Rows.fnLetterOneRow.origin Rows.fnLetterOneRow.targs := of_decide_eq_true (by kernel_rfl)
theorem wrap : Tryd.f8.isWrapper Tryd.prog Rows.fnLetterOneRow.wrapper Rows.fnLetterOneRow.mainSum := by
 unfold Func.isWrapper; first | (rw [if_pos (by decide +kernel)]; kernel_rfl) | (rw [if_neg (by decide +kernel)]; exact ⟨rfl, rfl⟩)
theorem over : Rows.fnLetterOneRow.holds Tryd.pinned (OpenSpec.ofChange Rows.fnLetterOneSpec) :=
 OpenClaim.holds_of_wide 8 Tryd.f8 rfl rfl rfl rfl rfl rfl rfl ⟨rfl, rfl, rfl, rfl, rfl⟩ rfl rfl rfl rfl rfl named Tryd.func8 (Whole.facts_of closed)
  inst wrap (fun os started H enc _ => lifted os started H enc)

theorem proved : Rows.FnLetterOneCardSaid :=
 Claim7.holds_tied_plain_at .later [] [.sentinel, .sentinel] true (true, "f355c901a8b8506d89c9f4b274f0813ef8c12415e439c0c7a2efd621187a51cb") true
  over (fun _ h => by cases h) (by kernel_rfl) (fun _ h => by cases h) fnLetterOne_row_tie rfl ⟨rfl, rfl⟩ (by kernel_rfl) rfl
  (fun f fn hf hfn => by
   obtain rfl : f = 8 := Option.some.inj (named.symm.trans hf) |>.symm
   obtain rfl : fn = Tryd.f8 := (Option.some.inj (Tryd.func8.symm.trans hfn)).symm
   exact ⟨by kernel_rfl, fun j t ht => by
    rw [Tryd.params8] at ht
    have hm : t ∈ [22] := by have := Array.mem_of_getElem? ht; simp at this ⊢; omega
    have hall : ([22].all fun u => !Tryd.prog.wantsStandIn u) = true := by kernel_rfl
    exact (show Tryd.prog.wantsStandIn t = false by simpa using List.all_eq_true.1 hall t hm)⟩)
  (by kernel_rfl)
#print axioms proved
end Go.Proofs.YtilcncnhkidndaaDoor.fnLetterOne
