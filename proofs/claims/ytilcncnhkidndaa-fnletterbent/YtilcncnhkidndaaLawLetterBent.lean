/- The law FnLetterBent: for every code that is drawn from, a letter that is none has no bytes, and with one that is none letters have none, as in the model: for every input the call returns true, and the argument reads afterwards as before. No conditions. -/
import Derived.Test.YtilcncnhkidndaaRows
import Derived.Test.YtilcncnhkidndaaWhole
import Derived.Test.YtilcncnhkidndaaA1
import Derived.Test.YtilcncnhkidndaaD5b
import Derived.WalkKit
import Derived.ProofKit
import Derived.OpenShut
import Derived.ShutString
import Derived.ChangeOld
import Derived.Below
namespace Go.Proofs.Ytilcncnhkidndaa.fnLetterBent
open Go.ChangeShapes Go.WideShapes Go.ChangeAt Go.RowKit
open Go.ChangeMaps (open_string shut_string)
set_option linter.unusedVariables false

set_option maxRecDepth 100000 in
set_option maxHeartbeats 1000000 in
theorem walk (A0 : Option Addr) (n0 c0 : Nat) (w : World) (hc0 : n0 ≤ c0) (hm0 : c0 ≤ maxLen) (hr0 : RdB w w.heap.size A0 n0) :
  Calls Try.prog 3 #[.slice A0 n0 c0] w fun e w' => e = .returned (.bool true) ∧ Below w.heap.size w w' := by
 by_cases hbig : 1048576 < n0
 ·
  have hbi : (1048576 : Int) < (n0 : Int) := by omega
  go_enter Try.func3, Try.ntmps3
  go_wp2
  go_ret
  exact ⟨rfl, Below.refl _ _⟩
 have hbi : ¬ ((1048576 : Int) < (n0 : Int)) := by omega
 go_enter Try.func3, Try.ntmps3
 go_wp2_with fail
 refine (dDrawLetterText A0 n0 c0 w hc0 hm0 hr0).mono ?_
 rintro e w1 ⟨l, rfl, hls, hlb, hb1⟩
 have hw_1 := hb1
 have hfl : FitLE l := ⟨by unfold maxLen; omega, by unfold maxLen; omega⟩
 obtain ⟨V2, eV2, -, Bl_n, hV2⟩ := al1 w1 rfl #[.string l.s, .string l.b] 24
 have hw_2 := below_next hw_1 hV2
 have qBl0 : V2.cell? ⟨w1.heap.size, 0, none⟩ = some (.string l.s) := Bl_n.cell 0
 have qBl1 : V2.cell? ⟨w1.heap.size, 1, none⟩ = some (.string l.b) := Bl_n.cell 1
 cases hok : okB l
 ·
  have HO := Lib.hid hok
  have HT := Lib.hid (show bo (textL l) = ⟨#[]⟩ from by unfold textL; rw [hok]; rfl)
  have HA := Lib.hid (show bo (textsL [⟨⟨#[83]⟩, ⟨#[]⟩⟩, l, ⟨⟨#[83]⟩, ⟨#[]⟩⟩]) = ⟨#[]⟩ from by rw [textsL_no (k := 1) (by simp) (by simpa using hok)]; rfl)
  have HN := Lib.hid (show bo (textsL ([] : List LE)) = ⟨#[]⟩ from rfl)
  clear hok
  go_wp2_with fail
  clear qBl0 qBl1
  refine (implLOk l _ hfl).mono ?_
  rw [HO.out]
  rintro e w3 ⟨rfl, hb3⟩
  have Bl_3 := Bl_n.next hb3
  clear Bl_n
  have hw_3 := below_next hw_2 hb3
  have qBl0 : w3.cell? ⟨w1.heap.size, 0, none⟩ = some (.string l.s) := Bl_3.cell 0
  have qBl1 : w3.cell? ⟨w1.heap.size, 1, none⟩ = some (.string l.b) := Bl_3.cell 1
  go_wp2_with fail
  clear qBl0 qBl1
  refine (specLOk l _ hfl).mono ?_
  rw [HO.out]
  rintro e w4 ⟨rfl, hb4⟩
  have Bl_4 := Bl_3.next hb4
  clear Bl_3
  have hw_4 := below_next hw_3 hb4
  have qBl0 : w4.cell? ⟨w1.heap.size, 0, none⟩ = some (.string l.s) := Bl_4.cell 0
  have qBl1 : w4.cell? ⟨w1.heap.size, 1, none⟩ = some (.string l.b) := Bl_4.cell 1
  have lt4 := Bl_4.lt
  clear qBl0 qBl1
  obtain ⟨V5, eV5, -, Bg_n, hV5⟩ := al1 w4 rfl #[.string ⟨#[83]⟩, .string ⟨#[]⟩] 24
  have Bl_5 := Bl_4.next hV5
  clear Bl_4
  have hw_5 := below_next hw_4 hV5
  have qBl0 : V5.cell? ⟨w1.heap.size, 0, none⟩ = some (.string l.s) := Bl_5.cell 0
  have qBl1 : V5.cell? ⟨w1.heap.size, 1, none⟩ = some (.string l.b) := Bl_5.cell 1
  have qBg0 : V5.cell? ⟨w4.heap.size, 0, none⟩ = some (.string ⟨#[83]⟩) := Bg_n.cell 0
  have qBg1 : V5.cell? ⟨w4.heap.size, 1, none⟩ = some (.string ⟨#[]⟩) := Bg_n.cell 1
  have vB0 : V5.cell? ⟨w4.heap.size, 0, none⟩ = some (.string ⟨#[83]⟩) := Bg_n.cell 0
  have vB1 : V5.cell? ⟨w4.heap.size, 1, none⟩ = some (.string ⟨#[]⟩) := Bg_n.cell 1
  have fg0 : V5.frozen? ⟨w4.heap.size, 0, none⟩ = false := Bg_n.free 0
  have fg1 : V5.frozen? ⟨w4.heap.size, 1, none⟩ = false := Bg_n.free 1
  have lt0 := Bl_5.lt
  have lt1 := hV5.size
  obtain ⟨U5, eU5, BgU, BlU, hU5⟩ : ∃ U, V5.setCell ⟨w4.heap.size, 1, none⟩ (.string ⟨#[]⟩) = U ∧ Blk U (w4.heap.size) 24 #[.string ⟨#[83]⟩, .string ⟨#[]⟩] ∧ Blk U (w1.heap.size) 24 #[.string l.s, .string l.b] ∧ Below w4.heap.size w4 U := ⟨_, rfl, Bg_n.set_ 1 _, Bl_5.setOther (by show w1.heap.size ≠ w4.heap.size; omega) _, hV5.setCell (by show w4.heap.size ≤ w4.heap.size; omega) _⟩
  clear qBl0 qBl1
  clear qBg0 qBg1
  have hw_5u := below_next hw_4 hU5
  have qBl0 : U5.cell? ⟨w1.heap.size, 0, none⟩ = some (.string l.s) := BlU.cell 0
  have qBl1 : U5.cell? ⟨w1.heap.size, 1, none⟩ = some (.string l.b) := BlU.cell 1
  have qBg0 : U5.cell? ⟨w4.heap.size, 0, none⟩ = some (.string ⟨#[83]⟩) := BgU.cell 0
  have qBg1 : U5.cell? ⟨w4.heap.size, 1, none⟩ = some (.string ⟨#[]⟩) := BgU.cell 1
  go_wp2_with fail
  clear qBl0 qBl1
  clear qBg0 qBg1
  refine (implText l _ hfl (by omega)).mono ?_
  rw [HT.out]
  rintro e w6 ⟨rfl, hb6⟩
  have Bl_6 := BlU.next hb6
  clear BlU
  have Bg_6 := BgU.next hb6
  clear BgU
  have hw_6 := below_next hw_5u hb6
  have qBl0 : w6.cell? ⟨w1.heap.size, 0, none⟩ = some (.string l.s) := Bl_6.cell 0
  have qBl1 : w6.cell? ⟨w1.heap.size, 1, none⟩ = some (.string l.b) := Bl_6.cell 1
  have qBg0 : w6.cell? ⟨w4.heap.size, 0, none⟩ = some (.string ⟨#[83]⟩) := Bg_6.cell 0
  have qBg1 : w6.cell? ⟨w4.heap.size, 1, none⟩ = some (.string ⟨#[]⟩) := Bg_6.cell 1
  clear qBl0 qBl1
  clear qBg0 qBg1
  obtain ⟨V7, eV7, -, BA, hV7⟩ := al1 w6 rfl #[.string ⟨#[83]⟩, .string ⟨#[]⟩, .string l.s, .string l.b, .string ⟨#[83]⟩, .string ⟨#[]⟩] 24
  have RA := Lib.hid (OwnG.of_blk (base := 0) (l := [(⟨⟨#[83]⟩, ⟨#[]⟩⟩ : LE), l, ⟨⟨#[83]⟩, ⟨#[]⟩⟩]) (Nat.zero_le _) BA (by unfold maxLen; simp)).rd'.2.2.2
  have qBl0 : w6.cell? ⟨w1.heap.size, 0, none⟩ = some (.string l.s) := Bl_6.cell 0
  have qBl1 : w6.cell? ⟨w1.heap.size, 1, none⟩ = some (.string l.b) := Bl_6.cell 1
  have qBg0 : w6.cell? ⟨w4.heap.size, 0, none⟩ = some (.string ⟨#[83]⟩) := Bg_6.cell 0
  have qBg1 : w6.cell? ⟨w4.heap.size, 1, none⟩ = some (.string ⟨#[]⟩) := Bg_6.cell 1
  have hfs : FitLEs [(⟨⟨#[83]⟩, ⟨#[]⟩⟩ : LE), l, ⟨⟨#[83]⟩, ⟨#[]⟩⟩] := fun r hr => by simp only [List.mem_cons, List.not_mem_nil, or_false] at hr; rcases hr with rfl | rfl | rfl <;> first | exact hfl | exact ⟨by unfold maxLen; decide, by unfold maxLen; decide⟩
  have htt : totalLE [(⟨⟨#[83]⟩, ⟨#[]⟩⟩ : LE), l, ⟨⟨#[83]⟩, ⟨#[]⟩⟩] ≤ 2097152 := by have e1 : (⟨#[83]⟩ : ByteArray).size = 1 := rfl; have e2 : (⟨#[]⟩ : ByteArray).size = 0 := rfl; simp only [totalLE, List.map_cons, List.map_nil, List.sum_cons, List.sum_nil, e1, e2]; omega
  have HI := Lib.hid (implTexts _ 3 _ _ hfs htt (Nat.le_refl _) RA.out)
  rw [HA.out] at HI
  clear hfs htt
  go_wp2_with fail
  clear qBl0 qBl1
  clear qBg0 qBg1
  refine HI.out.mono ?_
  rintro e w7 ⟨rfl, hb7⟩
  have hw_7 := below_next (below_next hw_6 hV7) hb7
  go_wp2_with fail
  refine (implTexts none 0 [] _ (fun r hr => by simp at hr) (by simp [totalLE]) (Nat.le_refl _) RdG.nil).mono ?_
  rw [HN.out]
  rintro e w8 ⟨rfl, hb8⟩
  have hw_8 := below_next hw_7 hb8
  go_wp2
  go_ret
  exact ⟨rfl, hw_8⟩
 ·
  have HO := Lib.hid hok
  clear hok
  go_wp2_with fail
  clear qBl0 qBl1
  refine (implLOk l _ hfl).mono ?_
  rw [HO.out]
  rintro e w3 ⟨rfl, hb3⟩
  have Bl_3 := Bl_n.next hb3
  clear Bl_n
  have hw_3 := below_next hw_2 hb3
  have qBl0 : w3.cell? ⟨w1.heap.size, 0, none⟩ = some (.string l.s) := Bl_3.cell 0
  have qBl1 : w3.cell? ⟨w1.heap.size, 1, none⟩ = some (.string l.b) := Bl_3.cell 1
  go_wp2_with fail
  clear qBl0 qBl1
  refine (specLOk l _ hfl).mono ?_
  rw [HO.out]
  rintro e w4 ⟨rfl, hb4⟩
  have Bl_4 := Bl_3.next hb4
  clear Bl_3
  have hw_4 := below_next hw_3 hb4
  have qBl0 : w4.cell? ⟨w1.heap.size, 0, none⟩ = some (.string l.s) := Bl_4.cell 0
  have qBl1 : w4.cell? ⟨w1.heap.size, 1, none⟩ = some (.string l.b) := Bl_4.cell 1
  go_wp2_with fail
  clear qBl0 qBl1
  refine (specLOk l _ hfl).mono ?_
  rw [HO.out]
  rintro e w5 ⟨rfl, hb5⟩
  have Bl_5 := Bl_4.next hb5
  clear Bl_4
  have hw_5 := below_next hw_4 hb5
  have qBl0 : w5.cell? ⟨w1.heap.size, 0, none⟩ = some (.string l.s) := Bl_5.cell 0
  have qBl1 : w5.cell? ⟨w1.heap.size, 1, none⟩ = some (.string l.b) := Bl_5.cell 1
  go_wp2
  go_ret
  exact ⟨rfl, hw_5⟩

set_option maxRecDepth 100000 in
theorem lifted (os : Os) (started : os.Started) (H : Type) (enc : TypeId × Value → H) :
  ReturnsInHanded {} Try.checked os 3 .any (Rows.fnLetterBentSpec.pre6 enc Try.prog Try.f3 Rows.fnLetterBentRow.domain false) (Rows.fnLetterBentSpec.post enc Try.prog Try.f3 false true false false) := by
 refine returnsInHanded_of_change (C := Try.checked) Whole.own started (by kernel_rfl) Try.func3
  (ChangeSpec.witness6 (enc := enc) (C := Try.checked) false ⟨#[], #[.slice none 0 0], []⟩ 8 (by kernel_rfl) (by kernel_rfl) (by kernel_rfl) (by kernel_rfl)) ?_
 intro W base args ds gs before hval0 hW hcnd _
 have hval : ∀ (j : Nat) t v, Try.f3.params[j]? = some t → args[j]? = some v → Value.okWide Try.prog W .any base t v := hval0
 have hW' := hW
 obtain ⟨p, q, hA0, hV, rfl, hfz, hnd⟩ := hW
 have hA : DataW.TrodAll enc Try.prog W 0 (fun _ => true) true Try.f3.params.toList args.toList ds p := hA0
 rw [Try.params3] at hA hval
 obtain ⟨v0, vs0, d0, ds0, p0, q0, hargs, rfl, rfl, h0, r0⟩ := trodAll_cons hA
 obtain ⟨rfl, rfl, rfl⟩ := trodAll_nil r0
 obtain rfl : args = #[v0] := by cases args; simp_all
 obtain ⟨rfl, rfl⟩ := trodVars_none hV
 have k0 := h0
 have lt0 : ∀ x ∈ p0, x.block < W.heap.size := by obtain ⟨m, hm⟩ := k0; exact DataW.trod_lt m _ _ _ hm
 obtain ⟨A0, n0, c0, rfl, hc0, hm0, hr0⟩ := openBytes (hval 0 22 v0 rfl rfl) h0
 clear hA0 hval0
 refine (walk A0 n0 c0 W hc0 hm0 hr0).mono fun e W' ⟨he, bel⟩ => ?_
 subst he
 exact ⟨_, rfl, _, _, _, [], _, [], hW', trodAll_mk1 (shut_bool Try.underlying4 _), (trodAll_cons_mk (Below.trod Whole.laidOut (by kernel_rfl) (of_decide_eq_true (by kernel_rfl)) k0 bel lt0) trodAll_mk0), rfl, bel.frame _, fun h => by cases h⟩

theorem named : Try.prog.funcNamed Rows.fnLetterBentRow.func = some 3 := by kernel_rfl
theorem closed : Whole.lawFacts Try.prog 3 Try.f3 Rows.fnLetterBentSpec Rows.fnLetterBentRow = true := by kernel_rfl
theorem inst : Try.f3.isInstance Try.prog Rows.fnLetterBentRow.origin Rows.fnLetterBentRow.targs := of_decide_eq_true (by kernel_rfl)
theorem wrap : Try.f3.isWrapper Try.prog Rows.fnLetterBentRow.wrapper Rows.fnLetterBentRow.mainSum := by
 unfold Func.isWrapper; first | (rw [if_pos (by decide +kernel)]; kernel_rfl) | (rw [if_neg (by decide +kernel)]; exact ⟨rfl, rfl⟩)
theorem over : Rows.fnLetterBentRow.holds Try.pinned (OpenSpec.ofChange Rows.fnLetterBentSpec) :=
 OpenClaim.holds_of_wide 3 Try.f3 rfl rfl rfl rfl rfl rfl rfl ⟨rfl, rfl, rfl, rfl, rfl⟩ rfl rfl rfl rfl rfl named Try.func3 (Whole.facts_of closed)
  inst wrap (fun os started H enc _ => lifted os started H enc)

theorem proved : Rows.FnLetterBentSaid := over
#print axioms proved
end Go.Proofs.Ytilcncnhkidndaa.fnLetterBent
