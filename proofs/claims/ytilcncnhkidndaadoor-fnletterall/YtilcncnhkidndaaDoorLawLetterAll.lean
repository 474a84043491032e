/- The law FnLetterAll: for every code that is drawn from, all letters and the rest are the text, as the model: for every input the call returns true, and the argument reads afterwards as before. No conditions. -/
import Derived.Test.YtilcncnhkidndaaDoorRows
import Derived.Test.YtilcncnhkidndaaDoorCards
import Derived.Test.YtilcncnhkidndaaDoorTie
import Derived.Test.YtilcncnhkidndaaDoorWhole
import Derived.Test.YtilcncnhkidndaaDoorGlO
import Derived.Test.YtilcncnhkidndaaDoorFlLetter
import Derived.Test.YtilcncnhkidndaaDoorL5j
import Derived.Test.YtilcncnhkidndaaDoorL5k
import Derived.Test.YtilcncnhkidndaaDoorD5d
import Derived.WalkKit
import Derived.ProofKit
import Derived.OpenShut
import Derived.ShutString
import Derived.ChangeOld
import Derived.Below
import Derived.LaidMore
import Derived.SevenTiedAt
import Derived.Stop.Joined
namespace Go.Proofs.YtilcncnhkidndaaDoor.fnLetterAll
open Go.ChangeShapes Go.WideShapes Go.ChangeAt Go.RowKit
open Go.ChangeMaps (open_string shut_string)
set_option linter.unusedVariables false

theorem ok_total {ls : List LE} (h : ∀ l ∈ ls, okB l = true) : totalLE ls ≤ 42 * ls.length := by
 induction ls with
 | nil => simp [totalLE]
 | cons x l ih =>
  have h1 : x.s.size = 1 ∧ x.b.size ≤ 40 := by have := h x (by simp); unfold okB at this; simp only [Bool.and_eq_true, decide_eq_true_eq] at this; omega
  have h2 := ih fun y hy => h y (by simp [hy])
  have h3 : totalLE (x :: l) = (x.s.size + x.b.size + 1) + totalLE l := by simp [totalLE]
  rw [h3, List.length_cons]
  omega
theorem ok_fit {ls : List LE} (h : ∀ l ∈ ls, okB l = true) : FitLEs ls := fun l hl => by
 have h1 : l.s.size = 1 ∧ l.b.size ≤ 40 := by have := h l hl; unfold okB at this; simp only [Bool.and_eq_true, decide_eq_true_eq] at this; omega
 exact ⟨by unfold maxLen; omega, by unfold maxLen; omega⟩
theorem all_len {s : ByteArray} {ls : List LE} {r : Bs} {c : Nat} (hP : AllP (bs s) ls r c) : ls.length ≤ 400 := by
 by_cases hx : 400 < (bs s).length
 ·
  rw [(hP.1 hx).1]; simp
 ·
  have h1 := hP.2 (by omega)
  have h2 := catL_length h1.2.1
  have h3 := congrArg List.length h1.1
  rw [List.length_append] at h3
  omega

set_option maxRecDepth 100000 in
set_option maxHeartbeats 1000000 in
theorem walk (A0 : Option Addr) (n0 c0 : Nat) (a0 a1 : Addr) (w : World) (hc0 : n0 ≤ c0) (hm0 : c0 ≤ maxLen) (hr0 : RdB w w.heap.size A0 n0) (GE : GlE w a0 a1) :
  Calls Tryd.prog 5 #[.slice A0 n0 c0] w fun e w' => e = .returned (.bool true) ∧ Below w.heap.size w w' := by
 by_cases hbig : 1048576 < n0
 ·
  have hbi : (1048576 : Int) < (n0 : Int) := by omega
  go_enter Tryd.func5, Tryd.ntmps5
  go_wp2
  go_ret
  exact ⟨rfl, Below.refl _ _⟩
 have hbi : ¬ ((1048576 : Int) < (n0 : Int)) := by omega
 have HG := Lib.hid GE
 clear GE
 go_enter Tryd.func5, Tryd.ntmps5
 go_wp2_with fail
 refine (dDrawLetterAll A0 n0 c0 w hc0 hm0 hr0).mono ?_
 rintro e w1 ⟨s, rfl, hs, hw1⟩
 have hsm : s.size ≤ maxLen := by unfold maxLen; omega
 have HG1 := Lib.hid (HG.out.next hw1)
 clear HG
 go_wp2_with fail
 refine (implAll s a0 a1 w1 hsm HG1.out).mono ?_
 rintro e w2 ⟨v, ls, t, cd, rfl, o2, hP, hb2⟩
 obtain ⟨A, c, rfl, hlc, hcm, -⟩ := o2.read
 have O2 := Lib.hid o2
 have HP := Lib.hid hP
 have hlen := all_len hP
 have hw2 := below_next hw1 hb2
 clear hP o2 hb2
 go_wp2_with fail
 refine (specAll s w2 hsm).mono ?_
 rintro e w3 ⟨v', ls', t', cd', rfl, o3, hP', hb3⟩
 obtain ⟨rfl, ht, rfl⟩ := HP.out.unique hP'
 obtain rfl := bs_inj ht
 have O3 := Lib.hid o3
 have O23 := Lib.hid (O2.out.next hb3)
 have hw3 := below_next hw2 hb3
 clear hP' ht o3 hb3 O2
 go_wp2_with fail
 refine (wpLetOwn_c _ _ _ _ _ _ O23.out O3.out (by omega)).mono ?_
 rintro e w4 ⟨rfl, hb4⟩
 have O4 := Lib.hid (O23.out.next hb4)
 have hw4 := below_next hw3 hb4
 clear hb4 O23 O3
 by_cases h4 : 400 < s.size
 ·
  have h5 : (400 : Int) < (s.size : Int) := by omega
  obtain ⟨rfl, ht, rfl⟩ := HP.out.1 h4
  obtain rfl : t = ⟨#[]⟩ := bs_inj ht
  clear ht
  go_wp2
  go_ret
  exact ⟨rfl, hw4⟩
 ·
  have h5 : ¬ (400 : Int) < (s.size : Int) := by omega
  have hR := HP.out.2 (by have : (bs s).length = s.size := rfl; omega)
  have HR := Lib.hid hR
  have HOK := Lib.hid hR.2.1
  have hcat : bs (bo (textsL ls)) = catL ls := by rw [bs_bo, textsL_ok hR.2.1]
  obtain ⟨x, HX⟩ : ∃ x, Hid (bo (textsL ls) = x) := ⟨_, Lib.hid rfl⟩
  rw [HX.out] at hcat
  have hxt : x ++ t = s := bs_inj (by rw [bs_append, hcat]; exact hR.1.symm)
  have hsz : x.size + t.size = s.size := by rw [← hxt, ByteArray.size_append]
  have y1 : ¬ (9223372036854775807 < x.size + t.size) := by omega
  have HTT := Lib.hid (show totalLE ls ≤ 2097152 from by have := ok_total HOK.out; omega)
  have HF := Lib.hid (ok_fit HOK.out)
  have hr4 := Lib.hid (O4.out.rd').2.2.2
  have HRR := Lib.hid hR.rest
  have HXT := Lib.hid hxt
  clear hR hcat hsz hxt
  go_wp2_with fail
  refine (implTexts A c ls w4 HF.out HTT.out hlc hr4.out).mono ?_
  rw [HX.out]
  rintro e w5 ⟨rfl, hb5⟩
  have hw5 := below_next hw4 hb5
  have hxt := HXT.out
  by_cases hz : t.size = 0
  ·
   have hz1 := (str_e5 hz).1
   have hz2 := (str_e5 hz).2
   have hc0 : cd = 0 := HRR.out.2 (List.eq_nil_of_length_eq_zero hz)
   subst hc0
   clear hz
   go_wp2
   go_ret
   exact ⟨rfl, hw5⟩
  ·
   have hz1 := (str_ne5 (Nat.pos_of_ne_zero hz)).1
   have hz2 := (str_ne5 (Nat.pos_of_ne_zero hz)).2
   have hc0 : cd ≠ 0 := fun h => hz (by have := congrArg List.length (HRR.out.1 h); exact this)
   have hc1 : ((cd : Int) == 0) = false := beq_eq_false_iff_ne.2 (by omega)
   clear hz
   go_wp2
   go_ret
   exact ⟨rfl, hw5⟩

set_option maxRecDepth 100000 in
theorem lifted (os : Os) (started : os.Started) (H : Type) (enc : TypeId × Value → H) :
  ReturnsInHanded {} Tryd.checked os 5 .any (fun w args => (Rows.fnLetterAllSpec.pre enc Tryd.prog Tryd.f5 [] false w args ∧ laidMetH Tryd.prog laidE w) ∧ sizedMet enc Tryd.prog Tryd.f5 (OpenSpec.ofChange Rows.fnLetterAllSpec) false w args)
   (Rows.fnLetterAllSpec.post enc Tryd.prog Tryd.f5 false true false false) := by
 refine returnsInHanded_of_change_and (C := Tryd.checked) (X := fun w _ => laidMetH Tryd.prog laidE w) (fun _ _ _ hh h => h.of_heap hh) Whole.own started (by kernel_rfl) Tryd.func5
  (ChangeSpec.witness_shaped (enc := enc) (C := Tryd.checked) (os := os) (X := fun w _ => laidMetH Tryd.prog laidE w) false (World.doorLaid Tryd.prog 47 os) #[.slice none 0 0] 8 rfl (World.shaped_of_RefB (by kernel_rfl) (by kernel_rfl)) (by kernel_rfl) (by kernel_rfl) (by kernel_rfl) (e_door os _)) ?_
 intro W base args ds gs before hval0 hW _ _ hL _
 have hval : ∀ (j : Nat) t v, Tryd.f5.params[j]? = some t → args[j]? = some v → Value.okWide Tryd.prog W .any base t v := hval0
 have hW' := hW
 obtain ⟨p, q, hA0, hV0, rfl, hfz, hnd⟩ := hW
 have hA : DataW.TrodAll enc Tryd.prog W 0 (fun _ => true) true Tryd.f5.params.toList args.toList ds p := hA0
 have hV : DataW.TrodVars enc Tryd.prog W (fun _ => true) [n0, n1] gs q := hV0
 rw [Tryd.params5] at hA hval
 obtain ⟨v0, vs0, d0, ds0, p0, q0, hargs, rfl, rfl, h0, r0⟩ := trodAll_cons hA
 obtain ⟨rfl, rfl, rfl⟩ := trodAll_nil r0
 obtain rfl : args = #[v0] := by cases args; simp_all
 obtain ⟨a0, a1, hv0, hv1, GE⟩ := e_open (e_plain hL)
 obtain ⟨rfl, rfl⟩ := hV.unique (e_read enc hv0 hv1 trivial trivial _)
 have k0 := h0
 have lt0 : ∀ x ∈ p0, x.block < W.heap.size := by obtain ⟨m, hm⟩ := k0; exact DataW.trod_lt m _ _ _ hm
 obtain ⟨A0, n0, c0, rfl, hc0, hm0, hr0⟩ := openBytes (hval 0 22 v0 rfl rfl) h0
 clear hA0 hval0 hV0
 refine (walk A0 n0 c0 a0 a1 W hc0 hm0 hr0 GE).mono fun e W' ⟨he, bel⟩ => ?_
 subst he
 exact ⟨_, rfl, _, _, _, [], _, [.cell 0 0, .cell 1 0], hW', trodAll_mk1 (shut_bool Tryd.underlying4 _), (trodAll_cons_mk (Below.trod Whole.laidOut (by kernel_rfl) (of_decide_eq_true (by kernel_rfl)) k0 bel lt0) trodAll_mk0), e_read enc (var_below e_g0 bel hv0) (var_below e_g1 bel hv1) trivial trivial _, bel.frame _, fun h => by cases h⟩

theorem named : Tryd.prog.funcNamed Rows.fnLetterAllRow.func = some 5 := by kernel_rfl
theorem closed : Whole.lawFacts Tryd.prog 5 Tryd.f5 Rows.fnLetterAllSpec Rows.fnLetterAllRow = true := by kernel_rfl
theorem inst : Tryd.f5.isInstance Tryd.prog Rows.fnLetterAllRow.origin Rows.fnLetterAllRow.targs := of_decide_eq_true (by kernel_rfl)
theorem wrap : Tryd.f5.isWrapper Tryd.prog Rows.fnLetterAllRow.wrapper Rows.fnLetterAllRow.mainSum := by
 unfold Func.isWrapper; first | (rw [if_pos (by decide +kernel)]; kernel_rfl) | (rw [if_neg (by decide +kernel)]; exact ⟨rfl, rfl⟩)
theorem over : Rows.fnLetterAllRow.holds Tryd.pinned (OpenSpec.ofChange Rows.fnLetterAllSpec) :=
 OpenClaim.holds_of_wide 5 Tryd.f5 rfl rfl rfl rfl rfl rfl rfl ⟨rfl, rfl, rfl, rfl, rfl⟩ rfl rfl rfl rfl rfl named Tryd.func5 (Whole.facts_of closed)
  inst wrap (fun os started H enc _ => lifted os started H enc)

theorem proved : Rows.FnLetterAllCardSaid :=
 Claim7.holds_tied_plain_at .later [] [.sentinel, .sentinel] true (true, "f355c901a8b8506d89c9f4b274f0813ef8c12415e439c0c7a2efd621187a51cb") true
  over (fun _ h => by cases h) (by kernel_rfl) (fun _ h => by cases h) fnLetterAll_row_tie rfl ⟨rfl, rfl⟩ (by kernel_rfl) rfl
  (fun f fn hf hfn => by
   obtain rfl : f = 5 := Option.some.inj (named.symm.trans hf) |>.symm
   obtain rfl : fn = Tryd.f5 := (Option.some.inj (Tryd.func5.symm.trans hfn)).symm
   exact ⟨by kernel_rfl, fun j t ht => by
    rw [Tryd.params5] at ht
    have hm : t ∈ [22] := by have := Array.mem_of_getElem? ht; simp at this ⊢; omega
    have hall : ([22].all fun u => !Tryd.prog.wantsStandIn u) = true := by kernel_rfl
    exact (show Tryd.prog.wantsStandIn t = false by simpa using List.all_eq_true.1 hall t hm)⟩)
  (by kernel_rfl)
#print axioms proved
end Go.Proofs.YtilcncnhkidndaaDoor.fnLetterAll
