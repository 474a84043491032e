/- The law FnLettersText: for every code that is drawn from, the bytes of letters behind each other are those of all, as the model: for every input the call returns true, and the arguments read afterwards as before. No conditions. -/
import Derived.Test.YtilcncnhkidndaaDoorRows
import Derived.Test.YtilcncnhkidndaaDoorCards
import Derived.Test.YtilcncnhkidndaaDoorTie
import Derived.Test.YtilcncnhkidndaaDoorWhole
import Derived.Test.YtilcncnhkidndaaDoorGlO
import Derived.Test.YtilcncnhkidndaaDoorFlLetter
import Derived.Test.YtilcncnhkidndaaDoorL5j
import Derived.Test.YtilcncnhkidndaaDoorL5k
import Derived.Test.YtilcncnhkidndaaDoorD5d
import Derived.WalkKit
import Derived.ProofKit
import Derived.OpenShut
import Derived.ShutString
import Derived.ChangeOld
import Derived.Below
import Derived.LaidMore
import Derived.SevenTiedAt
import Derived.Stop.Joined
namespace Go.Proofs.YtilcncnhkidndaaDoor.fnLettersText
open Go.ChangeShapes Go.WideShapes Go.ChangeAt Go.RowKit
open Go.ChangeMaps (open_string shut_string)
set_option linter.unusedVariables false

theorem bd_total {ls : List LE} (h : BdLs ls) : totalLE ls ≤ 2097152 := by
 have key : ∀ l : List LE, (∀ x ∈ l, x.s.size ≤ 2 ∧ x.b.size ≤ 10001) → totalLE l ≤ 10004 * l.length := by
  intro l
  induction l with
  | nil => intro _; simp [totalLE]
  | cons x l ih =>
   intro hx
   have h1 := hx x (by simp)
   have h2 := ih fun y hy => hx y (by simp [hy])
   have h3 : totalLE (x :: l) = (x.s.size + x.b.size + 1) + totalLE l := by simp [totalLE]
   rw [h3, List.length_cons]
   omega
 have h1 := key ls h.1
 have h2 := h.2
 omega

set_option maxRecDepth 100000 in
set_option maxHeartbeats 1000000 in
theorem walk (A0 : Option Addr) (n0 c0 : Nat) (a0 a1 : Addr) (w : World) (hc0 : n0 ≤ c0) (hm0 : c0 ≤ maxLen) (hr0 : RdB w w.heap.size A0 n0) (GE : GlE w a0 a1) :
  Calls Tryd.prog 7 #[.slice A0 n0 c0] w fun e w' => e = .returned (.bool true) ∧ Below w.heap.size w w' := by
 by_cases hbig : 1048576 < n0
 ·
  have hbi : (1048576 : Int) < (n0 : Int) := by omega
  go_enter Tryd.func7, Tryd.ntmps7
  go_wp2
  go_ret
  exact ⟨rfl, Below.refl _ _⟩
 have hbi : ¬ ((1048576 : Int) < (n0 : Int)) := by omega
 have HG := Lib.hid GE
 clear GE
 go_enter Tryd.func7, Tryd.ntmps7
 go_wp2_with fail
 refine (dDrawLettersText A0 n0 c0 w hc0 hm0 hr0).mono ?_
 rintro e w1 ⟨v, ls, rfl, o1, hbd, hw1⟩
 obtain ⟨A, c, rfl, hlc, hcm, hrr⟩ := o1.read
 have HB := Lib.hid hbd
 have O1 := Lib.hid o1
 have HR := Lib.hid hrr
 have hl9 : ls.length ≤ 9 := hbd.2
 have HF := Lib.hid (show FitLEs ls from fun l hl => by have := hbd.1 l hl; exact ⟨by unfold maxLen; omega, by unfold maxLen; omega⟩)
 have HTT := Lib.hid (show totalLE ls ≤ 2097152 from bd_total hbd)
 obtain ⟨x, HX⟩ : ∃ x, Hid (bo (textsL ls) = x) := ⟨_, Lib.hid rfl⟩
 clear o1 hbd hrr
 cases ha : ls.all okB
 ·
  have HN := Lib.hid (show textsL ls = [] from by unfold textsL; rw [ha]; rfl)
  have hx0 : x = ⟨#[]⟩ := by rw [← HX.out, HN.out]; rfl
  subst hx0
  have HA := Lib.hid ha
  clear ha
  go_wp2_with fail
  refine (implTexts A c ls w1 HF.out HTT.out (by omega) HR.out).mono ?_
  rw [HX.out]
  rintro e w2 ⟨rfl, hb2⟩
  have O2 := Lib.hid (O1.out.next hb2)
  have hw2 := below_next hw1 hb2
  have hr2 := Lib.hid (O2.out.rd').2.2.2
  go_wp2_with fail
  refine (specTexts A c ls w2 HF.out HTT.out (by omega) hr2.out).mono ?_
  rw [HX.out]
  rintro e w3 ⟨rfl, hb3⟩
  have O3 := Lib.hid (O2.out.next hb3)
  have hw3 := Lib.hid (below_next hw2 hb3)
  have hr3 := Lib.hid (O3.out.rd').2.2.2
  clear O2 hr2 hb2 hb3 hw2
  go_wp2
  go_loopw [5, 6] (fun v i W => ∃ k : Nat, i = .int .i64 k ∧ v = .bool ((ls.take k).all okB) ∧ k ≤ ls.length ∧ Below w3.heap.size w3 W) (fun _ i _ => ls.length - (intOf i).toNat)
  case atStart => exact ⟨0, rfl, by simp, Nat.zero_le _, Below.refl _ _⟩
  case round =>
   obtain ⟨k, rfl, rfl, hk, hb⟩ := hrel
   by_cases hkl : k < ls.length
   ·
    have hi : (k : Int) < (ls.length : Int) := by omega
    have HS := Lib.hid (show (ls.take (k + 1)).all okB = ((ls.take k).all okB && okB ls[k]) from by rw [List.take_succ_eq_append_getElem hkl, List.all_append]; simp)
    obtain ⟨p, Hp⟩ : ∃ p, Hid ((ls.take k).all okB = p) := ⟨_, Lib.hid rfl⟩
    rw [Hp.out] at HS ⊢
    obtain ⟨b, o, rfl, hbB, hc0, hc1⟩ := (hr3.out.below hb).atLE hkl
    have HFk := Lib.hid (HB.out.fit hkl)
    have HB1 := Lib.hid hb
    clear hb
    cases p
    ·
     go_wp2
     go_roundw
     case rel => exact ⟨k + 1, by go_num, by rw [HS.out]; rfl, by omega, HB1.out⟩
     case measure => simp [intOf]; omega
    ·
     go_wp2_with fail
     refine (implLOk ls[k] _ HFk.out).mono ?_
     rintro e w4 ⟨rfl, hb4⟩
     obtain ⟨u, Hu⟩ : ∃ u, Hid (okB ls[k] = u) := ⟨_, Lib.hid rfl⟩
     rw [Hu.out] at HS ⊢
     go_wp2
     go_roundw
     case rel => exact ⟨k + 1, by go_num, by rw [HS.out]; rfl, by omega, below_next HB1.out hb4⟩
     case measure => simp [intOf]; omega
   ·
    have hi : ¬ (k : Int) < (ls.length : Int) := by omega
    have hke : k = ls.length := by omega
    have HAA := HA.out
    subst hke
    rw [List.take_length, HAA]
    clear hkl HAA
    go_wp2
    go_ret
    exact ⟨rfl, below_next hw3.out hb⟩
 ·
  have HN := Lib.hid (show textsL ls = catL ls from textsL_ok (fun l hl => by rw [List.all_eq_true] at ha; exact ha l hl))
  have HOK := Lib.hid (show ∀ l ∈ ls, okB l = true from fun l hl => by rw [List.all_eq_true] at ha; exact ha l hl)
  have HBX := Lib.hid (show bs x = catL ls from by rw [← HX.out, bs_bo, HN.out])
  have HA := Lib.hid ha
  clear ha
  go_wp2_with fail
  refine (implTexts A c ls w1 HF.out HTT.out (by omega) HR.out).mono ?_
  rw [HX.out]
  rintro e w2 ⟨rfl, hb2⟩
  have O2 := Lib.hid (O1.out.next hb2)
  have hw2 := below_next hw1 hb2
  have hr2 := Lib.hid (O2.out.rd').2.2.2
  go_wp2_with fail
  refine (specTexts A c ls w2 HF.out HTT.out (by omega) hr2.out).mono ?_
  rw [HX.out]
  rintro e w3 ⟨rfl, hb3⟩
  have O3 := Lib.hid (O2.out.next hb3)
  have hw3 := Lib.hid (below_next hw2 hb3)
  have hr3 := Lib.hid (O3.out.rd').2.2.2
  clear O2 hr2 hb2 hb3 hw2
  go_wp2
  go_loopw [5, 6] (fun v i W => ∃ k : Nat, i = .int .i64 k ∧ v = .bool ((ls.take k).all okB) ∧ k ≤ ls.length ∧ Below w3.heap.size w3 W) (fun _ i _ => ls.length - (intOf i).toNat)
  case atStart => exact ⟨0, rfl, by simp, Nat.zero_le _, Below.refl _ _⟩
  case round =>
   obtain ⟨k, rfl, rfl, hk, hb⟩ := hrel
   by_cases hkl : k < ls.length
   ·
    have hi : (k : Int) < (ls.length : Int) := by omega
    have HS := Lib.hid (show (ls.take (k + 1)).all okB = ((ls.take k).all okB && okB ls[k]) from by rw [List.take_succ_eq_append_getElem hkl, List.all_append]; simp)
    obtain ⟨p, Hp⟩ : ∃ p, Hid ((ls.take k).all okB = p) := ⟨_, Lib.hid rfl⟩
    rw [Hp.out] at HS ⊢
    obtain ⟨b, o, rfl, hbB, hc0, hc1⟩ := (hr3.out.below hb).atLE hkl
    have HFk := Lib.hid (HB.out.fit hkl)
    have HB1 := Lib.hid hb
    clear hb
    cases p
    ·
     go_wp2
     go_roundw
     case rel => exact ⟨k + 1, by go_num, by rw [HS.out]; rfl, by omega, HB1.out⟩
     case measure => simp [intOf]; omega
    ·
     go_wp2_with fail
     refine (implLOk ls[k] _ HFk.out).mono ?_
     rintro e w4 ⟨rfl, hb4⟩
     obtain ⟨u, Hu⟩ : ∃ u, Hid (okB ls[k] = u) := ⟨_, Lib.hid rfl⟩
     rw [Hu.out] at HS ⊢
     go_wp2
     go_roundw
     case rel => exact ⟨k + 1, by go_num, by rw [HS.out]; rfl, by omega, below_next HB1.out hb4⟩
     case measure => simp [intOf]; omega
   ·
    have hi : ¬ (k : Int) < (ls.length : Int) := by omega
    have hke : k = ls.length := by omega
    have HAA := HA.out
    subst hke
    rw [List.take_length, HAA]
    clear hkl HAA
    by_cases hx4 : 400 < x.size
    ·
     have hx5 : (400 : Int) < (x.size : Int) := by omega
     go_wp2
     go_ret
     exact ⟨rfl, below_next hw3.out hb⟩
    ·
     have hx5 : ¬ (400 : Int) < (x.size : Int) := by omega
     have hxm : x.size ≤ maxLen := by unfold maxLen; omega
     have hwr := below_next hw3.out hb
     have Or := Lib.hid (O3.out.next hb)
     have HGr := Lib.hid (HG.out.below hwr HG.out.low HG.out.lt.1 HG.out.lt.2)
     have HWr := Lib.hid hwr
     clear hwr hb
     go_wp2_with fail
     refine (implAll x a0 a1 _ hxm HGr.out).mono ?_
     rintro e w5 ⟨v5, ls5, t5, cd5, rfl, o5, hP5, hw5⟩
     have hP : AllP (bs x) ls [] 0 := ⟨fun h => by have : (bs x).length = x.size := rfl; omega, fun _ => by rw [HBX.out]; exact AllR.cat HOK.out⟩
     obtain ⟨hls, ht5, rfl⟩ := hP5.unique hP
     subst hls
     obtain rfl : t5 = ⟨#[]⟩ := bs_inj ht5
     have O5 := Lib.hid o5
     have Or5 := Lib.hid (Or.out.next hw5)
     have hw6 := below_next HWr.out hw5
     clear o5 hP5 hP ht5
     go_wp2_with fail
     refine (wpLetOwn_c _ _ _ _ _ _ O5.out Or5.out (by omega)).mono ?_
     rintro e w7 ⟨rfl, hb7⟩
     have hw7 := below_next hw6 hb7
     go_wp2
     go_ret
     exact ⟨rfl, hw7⟩

set_option maxRecDepth 100000 in
theorem lifted (os : Os) (started : os.Started) (H : Type) (enc : TypeId × Value → H) :
  ReturnsInHanded {} Tryd.checked os 7 .any (fun w args => (Rows.fnLettersTextSpec.pre enc Tryd.prog Tryd.f7 [] false w args ∧ laidMetH Tryd.prog laidE w) ∧ sizedMet enc Tryd.prog Tryd.f7 (OpenSpec.ofChange Rows.fnLettersTextSpec) false w args)
   (Rows.fnLettersTextSpec.post enc Tryd.prog Tryd.f7 false true false false) := by
 refine returnsInHanded_of_change_and (C := Tryd.checked) (X := fun w _ => laidMetH Tryd.prog laidE w) (fun _ _ _ hh h => h.of_heap hh) Whole.own started (by kernel_rfl) Tryd.func7
  (ChangeSpec.witness_shaped (enc := enc) (C := Tryd.checked) (os := os) (X := fun w _ => laidMetH Tryd.prog laidE w) false (World.doorLaid Tryd.prog 47 os) #[.slice none 0 0] 8 rfl (World.shaped_of_RefB (by kernel_rfl) (by kernel_rfl)) (by kernel_rfl) (by kernel_rfl) (by kernel_rfl) (e_door os _)) ?_
 intro W base args ds gs before hval0 hW _ _ hL _
 have hval : ∀ (j : Nat) t v, Tryd.f7.params[j]? = some t → args[j]? = some v → Value.okWide Tryd.prog W .any base t v := hval0
 have hW' := hW
 obtain ⟨p, q, hA0, hV0, rfl, hfz, hnd⟩ := hW
 have hA : DataW.TrodAll enc Tryd.prog W 0 (fun _ => true) true Tryd.f7.params.toList args.toList ds p := hA0
 have hV : DataW.TrodVars enc Tryd.prog W (fun _ => true) [n0, n1] gs q := hV0
 rw [Tryd.params7] at hA hval
 obtain ⟨v0, vs0, d0, ds0, p0, q0, hargs, rfl, rfl, h0, r0⟩ := trodAll_cons hA
 obtain ⟨rfl, rfl, rfl⟩ := trodAll_nil r0
 obtain rfl : args = #[v0] := by cases args; simp_all
 obtain ⟨a0, a1, hv0, hv1, GE⟩ := e_open (e_plain hL)
 obtain ⟨rfl, rfl⟩ := hV.unique (e_read enc hv0 hv1 trivial trivial _)
 have k0 := h0
 have lt0 : ∀ x ∈ p0, x.block < W.heap.size := by obtain ⟨m, hm⟩ := k0; exact DataW.trod_lt m _ _ _ hm
 obtain ⟨A0, n0, c0, rfl, hc0, hm0, hr0⟩ := openBytes (hval 0 22 v0 rfl rfl) h0
 clear hA0 hval0 hV0
 refine (walk A0 n0 c0 a0 a1 W hc0 hm0 hr0 GE).mono fun e W' ⟨he, bel⟩ => ?_
 subst he
 exact ⟨_, rfl, _, _, _, [], _, [.cell 0 0, .cell 1 0], hW', trodAll_mk1 (shut_bool Tryd.underlying4 _), (trodAll_cons_mk (Below.trod Whole.laidOut (by kernel_rfl) (of_decide_eq_true (by kernel_rfl)) k0 bel lt0) trodAll_mk0), e_read enc (var_below e_g0 bel hv0) (var_below e_g1 bel hv1) trivial trivial _, bel.frame _, fun h => by cases h⟩

theorem named : Tryd.prog.funcNamed Rows.fnLettersTextRow.func = some 7 := by kernel_rfl
theorem closed : Whole.lawFacts Tryd.prog 7 Tryd.f7 Rows.fnLettersTextSpec Rows.fnLettersTextRow = true := by kernel_rfl
theorem inst : Tryd.f7.isInstance Tryd.prog Rows.fnLettersTextRow.origin Rows.fnLettersTextRow.targs := of_decide_eq_true (by kernel_rfl)
theorem wrap : Tryd.f7.isWrapper Tryd.prog Rows.fnLettersTextRow.wrapper Rows.fnLettersTextRow.mainSum := by
 unfold Func.isWrapper; first | (rw [if_pos (by decide +kernel)]; kernel_rfl) | (rw [if_neg (by decide +kernel)]; exact ⟨rfl, rfl⟩)
theorem over : Rows.fnLettersTextRow.holds Tryd.pinned (OpenSpec.ofChange Rows.fnLettersTextSpec) :=
 OpenClaim.holds_of_wide 7 Tryd.f7 rfl rfl rfl rfl rfl rfl rfl ⟨rfl, rfl, rfl, rfl, rfl⟩ rfl rfl rfl rfl rfl named Tryd.func7 (Whole.facts_of closed)
  inst wrap (fun os started H enc _ => lifted os started H enc)

theorem proved : Rows.FnLettersTextCardSaid :=
 Claim7.holds_tied_plain_at .later [] [.sentinel, .sentinel] true (true, "f355c901a8b8506d89c9f4b274f0813ef8c12415e439c0c7a2efd621187a51cb") true
  over (fun _ h => by cases h) (by kernel_rfl) (fun _ h => by cases h) fnLettersText_row_tie rfl ⟨rfl, rfl⟩ (by kernel_rfl) rfl
  (fun f fn hf hfn => by
   obtain rfl : f = 7 := Option.some.inj (named.symm.trans hf) |>.symm
   obtain rfl : fn = Tryd.f7 := (Option.some.inj (Tryd.func7.symm.trans hfn)).symm
   exact ⟨by kernel_rfl, fun j t ht => by
    rw [Tryd.params7] at ht
    have hm : t ∈ [22] := by have := Array.mem_of_getElem? ht; simp at this ⊢; omega
    have hall : ([22].all fun u => !Tryd.prog.wantsStandIn u) = true := by kernel_rfl
    exact (show Tryd.prog.wantsStandIn t = false by simpa using List.all_eq_true.1 hall t hm)⟩)
  (by kernel_rfl)
#print axioms proved
end Go.Proofs.YtilcncnhkidndaaDoor.fnLettersText
