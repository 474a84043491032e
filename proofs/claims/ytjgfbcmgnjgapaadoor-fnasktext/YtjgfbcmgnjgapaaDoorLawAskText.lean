/- The law FnAskText: for every two codes that are drawn from, what one asks is written as the model writes it and is read back from its text if it may be asked, and a text that is drawn is read as the model reads it and, if it is read, is the text of what is read: for every input the call returns true, and the arguments read afterwards as before. No conditions but that the package variables that the row lists hold what the program's text lays in them. -/
import Derived.Test.YtjgfbcmgnjgapaaDoorRows
import Derived.Test.YtjgfbcmgnjgapaaDoorCards
import Derived.Test.YtjgfbcmgnjgapaaDoorTie
import Derived.Test.YtjgfbcmgnjgapaaDoorWhole
import Derived.Test.YtjgfbcmgnjgapaaDoorAkF
import Derived.Test.YtjgfbcmgnjgapaaDoorAkX
import Derived.Test.YtjgfbcmgnjgapaaDoorAkY
import Derived.Test.YtjgfbcmgnjgapaaDoorAkZ
import Derived.Deep.DeepCutAuto
import Derived.WalkKit
import Derived.ProofKit
import Derived.OpenShut
import Derived.ShutString
import Derived.ChangeOld
import Derived.Below
import Derived.LaidMore
import Derived.SevenTiedAt
import Derived.Stop.Joined
namespace Go.Proofs.YtjgfbcmgnjgapaaDoor.fnAskText
open Go.ChangeShapes Go.WideShapes Go.ChangeAt Go.RowKit
open Go.ChangeMaps (open_string shut_string)
set_option linter.unusedVariables false

theorem fit_ask {q : Q4} (h : askB q = true) : FitQ q := by
 obtain ⟨k1, k9, hk, hh, hn⟩ := askB_iff.1 h
 have s1 := keyQ_size hk
 have s2 := hiQ_size hh
 refine ⟨by unfold FitI; omega, by unfold maxLen; omega, by unfold maxLen; omega, ?_⟩
 unfold numQ at hn
 split at hn
 ·
  unfold numB at hn
  have : -999 ≤ q.num ∧ q.num ≤ 999 := by simpa using hn
  unfold FitI; omega
 ·
  simp only [decide_eq_true_eq] at hn
  unfold FitI; omega

set_option maxRecDepth 100000 in
set_option maxHeartbeats 4000000 in
theorem walk (A0 : Option Addr) (n0 c0 : Nat) (A1 : Option Addr) (n1 c1 : Nat)  (w : World) (hc0 : n0 ≤ c0) (hm0 : c0 ≤ maxLen) (hr0 : RdB w w.heap.size A0 n0) (hc1 : n1 ≤ c1) (hm1 : c1 ≤ maxLen) (hr1 : RdB w w.heap.size A1 n1) (GE : Glf w) (TE : TabP w) (EE : ErrP w) :
  Calls Tryd.prog 3 #[.slice A0 n0 c0, .slice A1 n1 c1] w fun e w' => e = .returned (.bool true) ∧ Below w.heap.size w w' := by
 by_cases hbig : 1048576 < n0
 ·
  have hbi : decide ((1048576 : Int) < (n0 : Int)) = true := decide_eq_true (by omega)
  go_enter Tryd.func3, Tryd.ntmps3
  go_wp2
  go_ret
  exact ⟨rfl, Below.refl _ _⟩
 have hbi : decide ((1048576 : Int) < (n0 : Int)) = false := decide_eq_false (by omega)
 by_cases hbig1 : 1048576 < n1
 ·
  have hbi1 : decide ((1048576 : Int) < (n1 : Int)) = true := decide_eq_true (by omega)
  go_enter Tryd.func3, Tryd.ntmps3
  go_wp2
  go_ret
  exact ⟨rfl, Below.refl _ _⟩
 have hbi1 : decide ((1048576 : Int) < (n1 : Int)) = false := decide_eq_false (by omega)
 have HG := Lib.hid (And.intro GE (And.intro TE EE))
 clear GE TE EE
 go_enter Tryd.func3, Tryd.ntmps3
 go_wp2_with fail
 refine (drawAskText A0 n0 c0 w hc0 hm0 hr0).mono ?_
 rintro e u0 ⟨⟨qk, qx, qy, qn⟩, rfl, hq, hw0⟩
 obtain ⟨u1, e1, -, B1, hb1⟩ := al1 u0 rfl #[.int .i64 qk, .string qx, .string qy, .int .i64 qn] 24
 obtain ⟨g, hg⟩ : ∃ g, u0.heap.size = g := ⟨_, rfl⟩
 have hw1 := below_next hw0 hb1
 rw [hg] at B1
 have HF := Lib.hid hq
 obtain ⟨s, HS⟩ : ∃ s, Hid (askT ⟨qk, qx, qy, qn⟩ = s) := ⟨_, Lib.hid rfl⟩
 obtain ⟨p, HP⟩ : ∃ p, Hid (askB ⟨qk, qx, qy, qn⟩ = p) := ⟨_, Lib.hid rfl⟩
 have hs3 : s.size ≤ 1048576 := by rw [← HS.out]; have := askT_size ⟨qk, qx, qy, qn⟩; omega
 have HI := Lib.hid (implAskText ⟨qk, qx, qy, qn⟩ u1 hq (HG.out.1.next hw1) (HG.out.2.1.next hw1))
 rw [HS.out] at HI
 have q1 := B1.c4
 clear hq
 go_wp2_with fail
 clear q1 e1 hg
 refine HI.out.mono ?_
 rintro e u2 ⟨rfl, hb2⟩
 have B2 := B1.next hb2
 have hw2 := below_next hw1 hb2
 have HRB := Lib.hid (show readB s = p from by
  rw [← HS.out]
  cases p
  ·
   exact (read_bent HP.out).2
  ·
   exact (read_ask HP.out).1)
 have HRV := Lib.hid (show p = true → readV s = ⟨qk, qx, qy, qn⟩ from fun h => by rw [← HS.out]; exact (read_ask (HP.out.trans h)).2)
 obtain ⟨xk, xx, xy, xn, HX⟩ : ∃ a b c d, Hid (readV s = ⟨a, b, c, d⟩) := ⟨_, _, _, _, Lib.hid rfl⟩
 have HR := Lib.hid (implRead s u2 hs3 (HG.out.1.next hw2) (HG.out.2.1.next hw2) (HG.out.2.2.next hw2))
 unfold RetRead at HR
 rw [HX.out, HRB.out] at HR
 clear HI B1 hb1 hb2
 go_wp2_with fail
 refine HR.out.mono ?_
 rintro e u3 ⟨rfl, hb3⟩
 have B3 := B2.next hb3
 have hw3 := below_next hw2 hb3
 obtain ⟨u4, e4, -, C4_, hb4⟩ := al1 u3 rfl #[.int .i64 xk, .string xx, .string xy, .int .i64 xn] 24
 obtain ⟨g', hg'⟩ : ∃ g, u3.heap.size = g := ⟨_, rfl⟩
 rw [hg'] at C4_
 have B4 := B3.next hb4
 have hw4 := below_next hw3 hb4
 have lb := B4.lt
 have lc := C4_.lt
 have F := (((Fr.bel (p := u4.heap.size) (q := u4.heap.size) hw4 hw4.size).blk B4 (.inl (by omega))).blk C4_ (.inl (by omega))).cut
 have hcr := F.hc fun V h => And.intro h.1.1.2.c4 h.1.2.c4
 have HGO := Lib.hid (fun V (hV : Below w.heap.size w V) => implAskOk ⟨qk, qx, qy, qn⟩ V HF.out (HG.out.1.next hV))
 rw [HP.out] at HGO
 clear HR B2 B3 hb3 hb4
 go_upto_region 6 with fail
 clear e4 hg'
 go_cut [55] (fun z V => z = .bool false ∧ Below w.heap.size w V)
 case first =>
  refine reg F fun d1 hd F1 => ?_
  clear F hd
  have F := F1
  clear F1
  refine tkc F hcr 0 ?_
  refine tkc F hcr 1 ?_
  refine rdo 2 (fun K hK => ?_)
  go_simp
  go_at_call 10
  refine (specAskText ⟨qk, qx, qy, qn⟩ _ HF.out).mono ?_
  rw [HS.out]
  rintro e u5 ⟨rfl, hb5⟩
  replace F := F.next hb5
  go_wp2_with fail
  refine fn hK F ?_
  clear hK K hb5
  refine tkc F hcr 3 ?_
  refine tkc F hcr 4 ?_
  refine tkc F hcr 5 ?_
  refine tkc F hcr 7 ?_
  cases p
  ·
   repeat' (first
    | refine rd2 6 8 (fun K hK => ?_) (fun K hK => ?_)
    | refine rdo 6 (fun K hK => ?_)
    | refine rdo 8 (fun K hK => ?_)
    | (refine rdo 14 (fun K hK => ?_); go_simp; go_at_call 12; refine (specAskOk ⟨qk, qx, qy, qn⟩ _ HF.out).mono ?_; rw [HP.out]; rintro e u6 ⟨rfl, hb6⟩; replace F := F.next hb6; go_wp2_with fail; refine fn hK F ?_; clear hK K hb6; refine tkc F hcr 15 ?_; refine tkc F hcr 16 ?_; refine tkc F hcr 17 ?_; refine tkc F hcr 18 ?_; refine tkc F hcr 19 ?_; refine tsc F 20 ?_; refine tsc F 21 ?_; refine tsc F 22 ?_; refine tkc F hcr 23 ?_; refine tkc F hcr 24 ?_; refine wpAnyH_done (by kernel_rfl) ?_ _; go_wp2; go_meet; exact ⟨rfl, F.now.1.1.1⟩)
    | (refine tkc F hcr 9 ?_ (hb := by decide +kernel); refine tkc F hcr 10 ?_; refine tkc F hcr 11 ?_; refine tkc F hcr 12 ?_; refine tkc F hcr 13 ?_)
    | (go_simp; first
     | (go_at_call 11; refine (HGO.out _ F.now.1.1.1).mono ?_; rintro e u6 ⟨rfl, hb6⟩; replace F := F.next hb6; go_wp2_with fail; refine fn hK F ?_; clear hK K hb6)
     | (go_at_call 12; refine (specAskOk ⟨qk, qx, qy, qn⟩ _ HF.out).mono ?_; rw [HP.out]; rintro e u6 ⟨rfl, hb6⟩; replace F := F.next hb6; go_wp2_with fail; refine fn hK F ?_; clear hK K hb6)))
  ·
   obtain ⟨rfl, rfl, rfl, rfl⟩ : qk = xk ∧ qx = xx ∧ qy = xy ∧ qn = xn := by
    have := (HRV.out rfl).symm.trans HX.out
    injection this with a b c d
    exact ⟨a, b, c, d⟩
   repeat' (first
    | refine rd2 6 8 (fun K hK => ?_) (fun K hK => ?_)
    | refine rdo 6 (fun K hK => ?_)
    | refine rdo 8 (fun K hK => ?_)
    | (refine rdo 14 (fun K hK => ?_); go_simp; go_at_call 12; refine (specAskOk ⟨qk, qx, qy, qn⟩ _ HF.out).mono ?_; rw [HP.out]; rintro e u6 ⟨rfl, hb6⟩; replace F := F.next hb6; go_wp2_with fail; refine fn hK F ?_; clear hK K hb6; refine tkc F hcr 15 ?_; refine tkc F hcr 16 ?_; refine tkc F hcr 17 ?_; refine tkc F hcr 18 ?_; refine tkc F hcr 19 ?_; refine tkc F hcr 20 ?_; refine tkc F hcr 21 ?_; refine tkc F hcr 22 ?_; refine tkc F hcr 23 ?_; refine tkc F hcr 24 ?_; refine wpAnyH_done (by kernel_rfl) ?_ _; go_wp2; go_meet; exact ⟨rfl, F.now.1.1.1⟩)
    | (refine tkc F hcr 9 ?_ (hb := by decide +kernel); refine tkc F hcr 10 ?_; refine tkc F hcr 11 ?_; refine tkc F hcr 12 ?_; refine tkc F hcr 13 ?_)
    | (go_simp; first
     | (go_at_call 11; refine (HGO.out _ F.now.1.1.1).mono ?_; rintro e u6 ⟨rfl, hb6⟩; replace F := F.next hb6; go_wp2_with fail; refine fn hK F ?_; clear hK K hb6)
     | (go_at_call 12; refine (specAskOk ⟨qk, qx, qy, qn⟩ _ HF.out).mono ?_; rw [HP.out]; rintro e u6 ⟨rfl, hb6⟩; replace F := F.next hb6; go_wp2_with fail; refine fn hK F ?_; clear hK K hb6)))
 case rest =>
  obtain ⟨rfl, hwc⟩ := hcut
  clear F hcr HGO B4 C4_ lb lc hw4 hw3 hw2 hw1 hw0
  go_wp2_with fail
  refine (drawAskRead A1 n1 c1 wc hc1 hm1 (hr1.below hwc)).mono ?_
  rintro e v0 ⟨t, rfl, ht, hb0⟩
  have hv0 := below_next hwc hb0
  have ht1 : t.size ≤ 1048576 := by omega
  obtain ⟨yk, yx, yy, yn, HY⟩ : ∃ a b c d, Hid (readV t = ⟨a, b, c, d⟩) := ⟨_, _, _, _, Lib.hid rfl⟩
  obtain ⟨rb, HB⟩ : ∃ b, Hid (readB t = b) := ⟨_, Lib.hid rfl⟩
  have HR := Lib.hid (implRead t v0 ht1 (HG.out.1.next hv0) (HG.out.2.1.next hv0) (HG.out.2.2.next hv0))
  unfold RetRead at HR
  rw [HY.out, HB.out] at HR
  go_wp2_with fail
  refine HR.out.mono ?_
  rintro e v1 ⟨rfl, hb1⟩
  have hv1 := below_next hv0 hb1
  obtain ⟨v2, e2, -, D2, hb2⟩ := al1 v1 rfl #[.int .i64 yk, .string yx, .string yy, .int .i64 yn] 24
  obtain ⟨h, hh⟩ : ∃ g, v1.heap.size = g := ⟨_, rfl⟩
  rw [hh] at D2
  have hv2 := below_next hv1 hb2
  have HSR := Lib.hid (specAskRead t v2 ht1)
  unfold RetRead at HSR
  rw [HY.out, HB.out] at HSR
  clear HR hb0 hb1 hb2
  go_wp2_with fail
  clear e2 hh
  refine HSR.out.mono ?_
  rintro e v3 ⟨rfl, hb3⟩
  have D3 := D2.next hb3
  have hv3 := below_next hv2 hb3
  obtain ⟨v4, e4, -, E4, hb4⟩ := al1 v3 rfl #[.int .i64 yk, .string yx, .string yy, .int .i64 yn] 24
  have D4 := D3.next hb4
  have hv4 := below_next hv3 hb4
  have q := D4.c4
  have r := E4.c4
  clear HSR D2 D3 hb3 hb4
  cases rb
  ·
   go_wp2
   go_ret
   exact ⟨rfl, hv4⟩
  ·
   have HRT := read_text HB.out
   rw [HY.out] at HRT
   have HAB := Lib.hid HRT.1
   have HTX := Lib.hid (implAskText ⟨yk, yx, yy, yn⟩ v4 (fit_ask HRT.1) (HG.out.1.next hv4) (HG.out.2.1.next hv4))
   rw [HRT.2] at HTX
   clear HRT
   go_wp2_with fail
   clear q r e4
   refine HTX.out.mono ?_
   rintro e v5 ⟨rfl, hb5⟩
   have D5 := D4.next hb5
   have hv5 := below_next hv4 hb5
   have HOK := Lib.hid (implAskOk ⟨yk, yx, yy, yn⟩ v5 (fit_ask HAB.out) (HG.out.1.next hv5))
   rw [HAB.out] at HOK
   have q := D5.c4
   clear HTX D4
   go_wp2_with fail
   clear q
   refine HOK.out.mono ?_
   rintro e v6 ⟨rfl, hb6⟩
   have hv6 := below_next hv5 hb6
   go_wp2
   go_ret
   exact ⟨rfl, hv6⟩

set_option maxRecDepth 100000 in
theorem lifted (os : Os) (started : os.Started) (H : Type) (enc : TypeId × Value → H) :
  ReturnsInHanded {} Tryd.checked os 3 .any (fun w args => (Rows.fnAskTextSpec.pre enc Tryd.prog Tryd.f3 [] false w args ∧ laidMetH Tryd.prog laidR w) ∧ sizedMet enc Tryd.prog Tryd.f3 (OpenSpec.ofChange Rows.fnAskTextSpec) false w args)
   (Rows.fnAskTextSpec.post enc Tryd.prog Tryd.f3 false true false false) := by
 refine returnsInHanded_of_change_and (C := Tryd.checked) (X := fun w _ => laidMetH Tryd.prog laidR w) (fun _ _ _ hh h => h.of_heap hh) Whole.own started (by kernel_rfl) Tryd.func3
  (ChangeSpec.witness_shaped (enc := enc) (C := Tryd.checked) (os := os) (X := fun w _ => laidMetH Tryd.prog laidR w) false (World.doorLaid Tryd.prog 76 os) #[.slice none 0 0, .slice none 0 0] 8 rfl (World.shaped_of_RefB (by kernel_rfl) (by kernel_rfl)) (by kernel_rfl) (by kernel_rfl) (by kernel_rfl) (r_door os _)) ?_
 intro W base args ds gs before hval0 hW _ _ hL _
 have hval : ∀ (j : Nat) t v, Tryd.f3.params[j]? = some t → args[j]? = some v → Value.okWide Tryd.prog W .any base t v := hval0
 have hW' := hW
 obtain ⟨p, q, hA0, hV0, rfl, hfz, hnd⟩ := hW
 have hA : DataW.TrodAll enc Tryd.prog W 0 (fun _ => true) true Tryd.f3.params.toList args.toList ds p := hA0
 have hV : DataW.TrodVars enc Tryd.prog W (fun _ => true) [nF] gs q := hV0
 rw [Tryd.params3] at hA hval
 obtain ⟨v0, vs0, d0, ds0, p0, q0, hargs, rfl, rfl, h0, r0⟩ := trodAll_cons hA
 obtain ⟨v1, vs1, d1, ds1, p1, q1, rfl, rfl, rfl, h1, r1⟩ := trodAll_cons r0
 obtain ⟨rfl, rfl, rfl⟩ := trodAll_nil r1
 obtain rfl : args = #[v0, v1] := by cases args; simp_all
 obtain ⟨gf, rfl⟩ := vars_one hV
 obtain ⟨GE, TE, EE⟩ := r_open (r_plain hL)
 have k0 := h0
 have lt0 : ∀ x ∈ p0, x.block < W.heap.size := by obtain ⟨m, hm⟩ := k0; exact DataW.trod_lt m _ _ _ hm
 obtain ⟨A0, n0, c0, rfl, hc0, hm0, hr0⟩ := openBytes (hval 0 22 v0 rfl rfl) h0
 have k1 := h1
 have lt1 : ∀ x ∈ p1, x.block < W.heap.size := by obtain ⟨m, hm⟩ := k1; exact DataW.trod_lt m _ _ _ hm
 obtain ⟨A1, n1, c1, rfl, hc1, hm1, hr1⟩ := openBytes (hval 1 22 v1 rfl rfl) h1
 clear hA0 hval0 hV0
 refine (walk A0 n0 c0 A1 n1 c1  W hc0 hm0 hr0 hc1 hm1 hr1 GE TE EE).mono fun e W' ⟨he, bel⟩ => ?_
 subst he
 exact ⟨_, rfl, _, _, _, [], _, q, hW', trodAll_mk1 (shut_bool Tryd.underlying4 _), (trodAll_cons_mk (Below.trod Whole.laidOut (by kernel_rfl) (of_decide_eq_true (by kernel_rfl)) k0 bel lt0) (trodAll_cons_mk (Below.trod Whole.laidOut (by kernel_rfl) (of_decide_eq_true (by kernel_rfl)) k1 bel lt1) trodAll_mk0)), vars_stay hV bel, bel.frame _, fun h => by cases h⟩

theorem named : Tryd.prog.funcNamed Rows.fnAskTextRow.func = some 3 := by kernel_rfl
theorem closed : Whole.lawFacts Tryd.prog 3 Tryd.f3 Rows.fnAskTextSpec Rows.fnAskTextRow = true := by kernel_rfl
theorem inst : Tryd.f3.isInstance Tryd.prog Rows.fnAskTextRow.origin Rows.fnAskTextRow.targs := of_decide_eq_true (by kernel_rfl)
theorem wrap : Tryd.f3.isWrapper Tryd.prog Rows.fnAskTextRow.wrapper Rows.fnAskTextRow.mainSum := by
 unfold Func.isWrapper; first | (rw [if_pos (by decide +kernel)]; kernel_rfl) | (rw [if_neg (by decide +kernel)]; exact ⟨rfl, rfl⟩)
theorem over : Rows.fnAskTextRow.holds Tryd.pinned (OpenSpec.ofChange Rows.fnAskTextSpec) :=
 OpenClaim.holds_of_wide 3 Tryd.f3 rfl rfl rfl rfl rfl rfl rfl ⟨rfl, rfl, rfl, rfl, rfl⟩ rfl rfl rfl rfl rfl named Tryd.func3 (Whole.facts_of closed)
  inst wrap (fun os started H enc _ => lifted os started H enc)

theorem proved : Rows.FnAskTextCardSaid :=
 Claim7.holds_tied_plain_at .later [] [.data, .data, .data, .sentinel, .sentinel, .data] true (true, "9c8f923ec165c4d56927dab1688a3e5b2c66c57571f98d33e75eb07a696916b3") true
  over (fun _ h => by cases h) (by kernel_rfl) (fun _ h => by cases h) fnAskText_row_tie rfl ⟨rfl, rfl⟩ (by kernel_rfl) rfl
  (fun f fn hf hfn => by
   obtain rfl : f = 3 := Option.some.inj (named.symm.trans hf) |>.symm
   obtain rfl : fn = Tryd.f3 := (Option.some.inj (Tryd.func3.symm.trans hfn)).symm
   exact ⟨by kernel_rfl, fun j t ht => by
    rw [Tryd.params3] at ht
    have hm : t ∈ [22] := by have := Array.mem_of_getElem? ht; simp at this ⊢; omega
    have hall : ([22].all fun u => !Tryd.prog.wantsStandIn u) = true := by kernel_rfl
    exact (show Tryd.prog.wantsStandIn t = false by simpa using List.all_eq_true.1 hall t hm)⟩)
  (by kernel_rfl)
#print axioms proved
end Go.Proofs.YtjgfbcmgnjgapaaDoor.fnAskText
