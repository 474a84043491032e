/- The law FnLetterHead: for every code that is drawn from, a letter's beginning is waited for, as the model: for every input the call returns true, and the argument reads afterwards as before. No conditions. -/
import Derived.Test.YtilcncnhkidndaaDoorRows
import Derived.Test.YtilcncnhkidndaaDoorCards
import Derived.Test.YtilcncnhkidndaaDoorTie
import Derived.Test.YtilcncnhkidndaaDoorWhole
import Derived.Test.YtilcncnhkidndaaDoorGlO
import Derived.Test.YtilcncnhkidndaaDoorFlLetter
import Derived.Test.YtilcncnhkidndaaDoorL5f
import Derived.Test.YtilcncnhkidndaaDoorL5h
import Derived.Test.YtilcncnhkidndaaDoorD5d
import Derived.BigQuiet
import Derived.WalkKit
import Derived.ProofKit
import Derived.OpenShut
import Derived.ShutString
import Derived.ChangeOld
import Derived.Below
import Derived.LaidMore
import Derived.SevenTiedAt
import Derived.Stop.Joined
namespace Go.Proofs.YtilcncnhkidndaaDoor.fnLetterHead
open Go.ChangeShapes Go.WideShapes Go.ChangeAt Go.RowKit
open Go.ChangeMaps (open_string shut_string)
set_option linter.unusedVariables false

set_option maxRecDepth 100000 in
set_option maxHeartbeats 1000000 in
theorem walk (A0 : Option Addr) (n0 c0 : Nat) (a0 a1 : Addr) (w : World) (hc0 : n0 ≤ c0) (hm0 : c0 ≤ maxLen) (hr0 : RdB w w.heap.size A0 n0) (GE : GlE w a0 a1) :
  Calls Tryd.prog 9 #[.slice A0 n0 c0] w fun e w' => e = .returned (.bool true) ∧ Below w.heap.size w w' := by
 by_cases hbig : 1048576 < n0
 ·
  have hbi : (1048576 : Int) < (n0 : Int) := by omega
  go_enter Tryd.func9, Tryd.ntmps9
  go_wp2
  go_ret
  exact ⟨rfl, Below.refl _ _⟩
 have hbi : ¬ ((1048576 : Int) < (n0 : Int)) := by omega
 have HG := Lib.hid GE
 clear GE
 go_enter Tryd.func9, Tryd.ntmps9
 go_wp2_with fail
 refine (dDrawLetterTake A0 n0 c0 w hc0 hm0 hr0).mono ?_
 rintro e w1 ⟨s, rfl, hs, hw1⟩
 have hsm : s.size ≤ maxLen := by unfold maxLen; omega
 have HG1 := Lib.hid (HG.out.next hw1)
 clear HG
 have HI := Lib.hid (implTake s a0 a1 w1 hsm HG1.out)
 have HS := Lib.hid (fun W => specTake s W hsm)
 rcases code_cases (bs s) with ⟨hc, h3, hgd⟩ | hc
 ·
  obtain ⟨hl40, hnd, hndl⟩ := len_le hc
  have hn3 : 3 ≤ s.size := by have : (bs s).length = s.size := rfl; omega
  have d1 := hgd 1 (by omega)
  have d2 := hgd 2 (by omega)
  have hq1 : 1 < s.size := by omega
  have hq2 : 2 < s.size := by omega
  clear hndl
  have hll : lenL (bs s) = 10 * dg s[1] + dg s[2] := by unfold lenL; rw [bt_s (s := s) (k := 1) (by omega), bt_s (s := s) (k := 2) (by omega)]
  unfold okAt at d1 d2
  rw [if_neg (by omega), if_pos rfl, bt_s (s := s) (k := 1) (by omega)] at d1
  rw [if_neg (by omega), if_neg (by omega), if_pos rfl, bt_s (s := s) (k := 2) (by omega)] at d2
  unfold digB at d1 d2
  simp only [Bool.and_eq_true, decide_eq_true_eq] at d1 d2
  have hcn : cntL (bs s) = needL (bs s) := if_pos hc
  obtain ⟨m, hm⟩ : ∃ m, cntL (bs s) = m := ⟨_, rfl⟩
  obtain ⟨b, hb⟩ : ∃ b, (tookL (bs s)).b = b := ⟨_, rfl⟩
  have hts := ext_sign s hc
  have HT := Lib.hid (And.intro hts hb)
  have HM := Lib.hid hm
  have HC := Lib.hid hc
  unfold dg at hll
  obtain ⟨u, hu⟩ : ∃ u : Nat, s[1].toNat = 48 + u := ⟨s[1].toNat - 48, by omega⟩
  obtain ⟨v, hv⟩ : ∃ v : Nat, s[2].toNat = 48 + v := ⟨s[2].toNat - 48, by omega⟩
  have y1 : (s[1].toNat : Int) = 48 + (u : Int) := by omega
  have y2 : (s[2].toNat : Int) = 48 + (v : Int) := by omega
  have u9 : u ≤ 9 := by omega
  have v9 : v ≤ 9 := by omega
  have w1s : IntKind.u8.wrap (48 + (u : Int) - 48) = (u : Int) := by rw [IntKind.wrap_u8]; omega
  have w2s : IntKind.u8.wrap (48 + (v : Int) - 48) = (v : Int) := by rw [IntKind.wrap_u8]; omega
  have m1 : decide ((3 : Int) ≤ (m : Int)) = true := decide_eq_true (by omega)
  have m2 : decide ((m : Int) ≤ 43) = true := decide_eq_true (by omega)
  have m3 : (u : Int) * 10 + (v : Int) = (m : Int) - 3 := by omega
  have n1 : (1 : Int) < (s.size : Int) := by omega
  have n2 : (2 : Int) < (s.size : Int) := by omega
  have n3 : (1 : Int) ≤ (s.size : Int) := by omega
  clear hu hv hl40 hnd hll d1 d2 hcn hm hb hts hc hgd h3
  go_wp2_with fail
  refine HI.out.mono ?_
  unfold RetTake
  rw [HT.out.1, HT.out.2, HM.out, HC.out]
  rintro e w2 ⟨rfl, hb2⟩
  have hw2 := below_next hw1 hb2
  obtain ⟨V3, eV3, -, B3, hV3⟩ := al1 w2 rfl #[.string (s.extract 0 1), .string b] 24
  have hw3 := below_next hw2 hV3
  have q0 : V3.cell? ⟨w2.heap.size, 0, none⟩ = some (.string (s.extract 0 1)) := B3.cell 0
  have q1 : V3.cell? ⟨w2.heap.size, 1, none⟩ = some (.string b) := B3.cell 1
  go_wp2_with fail
  clear q0 q1
  refine (HS.out _).mono ?_
  unfold RetTake
  rw [HT.out.1, HT.out.2, HM.out, HC.out]
  rintro e w4 ⟨rfl, hb4⟩
  have hw4 := below_next hw3 hb4
  have B4 := B3.next hb4
  obtain ⟨V5, eV5, -, C5, hV5⟩ := al1 w4 rfl #[.string (s.extract 0 1), .string b] 24
  have hw5 := below_next hw4 hV5
  have B5 := B4.next hV5
  clear B3 B4
  have q0 : V5.cell? ⟨w2.heap.size, 0, none⟩ = some (.string (s.extract 0 1)) := B5.cell 0
  have q1 : V5.cell? ⟨w2.heap.size, 1, none⟩ = some (.string b) := B5.cell 1
  have r0 : V5.cell? ⟨w4.heap.size, 0, none⟩ = some (.string (s.extract 0 1)) := C5.cell 0
  have r1 : V5.cell? ⟨w4.heap.size, 1, none⟩ = some (.string b) := C5.cell 1
  go_wp2
  go_quiet (fail)
  go_wp2
  go_ret
  exact ⟨rfl, below_drewN hw5 _⟩
 ·
  obtain ⟨cd, hcd, hcd0⟩ : ∃ cd, codeL (bs s) = cd ∧ cd ≠ 0 := by
   rcases hc with ⟨h, -⟩ | ⟨h, -⟩ <;> exact ⟨_, h, by decide⟩
  have HT := Lib.hid (And.intro (took_none (x := bs s) (by omega)) (cnt_none (x := bs s) (by omega)))
  have HC := Lib.hid hcd
  have k1 : ¬ ((cd : Int) = 0) := by omega
  clear hc hcd
  go_wp2_with fail
  refine HI.out.mono ?_
  unfold RetTake
  rw [HT.out.1, HT.out.2, HC.out]
  rintro e w2 ⟨rfl, hb2⟩
  have hw2 := below_next hw1 hb2
  obtain ⟨V3, eV3, -, B3z, hV3⟩ := al1 w2 rfl #[.string ⟨#[]⟩, .string ⟨#[]⟩] 24
  have ay0 : V3.cell? ⟨w2.heap.size, 0, none⟩ = some (.string ⟨#[]⟩) := B3z.cell 0
  have ay1 : V3.cell? ⟨w2.heap.size, 1, none⟩ = some (.string ⟨#[]⟩) := B3z.cell 1
  have az0 : V3.frozen? ⟨w2.heap.size, 0, none⟩ = false := B3z.free 0
  have az1 : V3.frozen? ⟨w2.heap.size, 1, none⟩ = false := B3z.free 1
  obtain ⟨U3, eU3, B3, hU3⟩ : ∃ U, (V3.setCell ⟨w2.heap.size, 0, none⟩ (.string ⟨#[]⟩)).setCell ⟨w2.heap.size, 1, none⟩ (.string ⟨#[]⟩) = U ∧ Blk U w2.heap.size 24 #[.string ⟨#[]⟩, .string ⟨#[]⟩] ∧ Below w2.heap.size w2 U := ⟨_, rfl, B3z.s2 _ _, (hV3.setCell (by show w2.heap.size ≤ w2.heap.size; omega) _).setCell (by show w2.heap.size ≤ w2.heap.size; omega) _⟩
  have hw3 := below_next hw2 hU3
  have q0 : U3.cell? ⟨w2.heap.size, 0, none⟩ = some (.string ⟨#[]⟩) := B3.cell 0
  have q1 : U3.cell? ⟨w2.heap.size, 1, none⟩ = some (.string ⟨#[]⟩) := B3.cell 1
  go_wp2_with fail
  clear q0 q1 ay0 ay1 az0 az1
  refine (HS.out _).mono ?_
  unfold RetTake
  rw [HT.out.1, HT.out.2, HC.out]
  rintro e w4 ⟨rfl, hb4⟩
  have hw4 := below_next hw3 hb4
  have B4 := B3.next hb4
  obtain ⟨V5, eV5, -, C5z, hV5⟩ := al1 w4 rfl #[.string ⟨#[]⟩, .string ⟨#[]⟩] 24
  have by0 : V5.cell? ⟨w4.heap.size, 0, none⟩ = some (.string ⟨#[]⟩) := C5z.cell 0
  have by1 : V5.cell? ⟨w4.heap.size, 1, none⟩ = some (.string ⟨#[]⟩) := C5z.cell 1
  have bz0 : V5.frozen? ⟨w4.heap.size, 0, none⟩ = false := C5z.free 0
  have bz1 : V5.frozen? ⟨w4.heap.size, 1, none⟩ = false := C5z.free 1
  obtain ⟨U5, eU5, C5, hU5⟩ : ∃ U, (V5.setCell ⟨w4.heap.size, 0, none⟩ (.string ⟨#[]⟩)).setCell ⟨w4.heap.size, 1, none⟩ (.string ⟨#[]⟩) = U ∧ Blk U w4.heap.size 24 #[.string ⟨#[]⟩, .string ⟨#[]⟩] ∧ Below w4.heap.size w4 U := ⟨_, rfl, C5z.s2 _ _, (hV5.setCell (by show w4.heap.size ≤ w4.heap.size; omega) _).setCell (by show w4.heap.size ≤ w4.heap.size; omega) _⟩
  have hw5 := below_next hw4 hU5
  have B5 := B4.next hU5
  clear B3 B4
  have q0 : U5.cell? ⟨w2.heap.size, 0, none⟩ = some (.string ⟨#[]⟩) := B5.cell 0
  have q1 : U5.cell? ⟨w2.heap.size, 1, none⟩ = some (.string ⟨#[]⟩) := B5.cell 1
  have r0 : U5.cell? ⟨w4.heap.size, 0, none⟩ = some (.string ⟨#[]⟩) := C5.cell 0
  have r1 : U5.cell? ⟨w4.heap.size, 1, none⟩ = some (.string ⟨#[]⟩) := C5.cell 1
  go_wp2
  go_ret
  exact ⟨rfl, hw5⟩

set_option maxRecDepth 100000 in
theorem lifted (os : Os) (started : os.Started) (H : Type) (enc : TypeId × Value → H) :
  ReturnsInHanded {} Tryd.checked os 9 .any (fun w args => (Rows.fnLetterHeadSpec.pre enc Tryd.prog Tryd.f9 [] false w args ∧ laidMetH Tryd.prog laidE w) ∧ sizedMet enc Tryd.prog Tryd.f9 (OpenSpec.ofChange Rows.fnLetterHeadSpec) false w args)
   (Rows.fnLetterHeadSpec.post enc Tryd.prog Tryd.f9 false true false false) := by
 refine returnsInHanded_of_change_and (C := Tryd.checked) (X := fun w _ => laidMetH Tryd.prog laidE w) (fun _ _ _ hh h => h.of_heap hh) Whole.own started (by kernel_rfl) Tryd.func9
  (ChangeSpec.witness_shaped (enc := enc) (C := Tryd.checked) (os := os) (X := fun w _ => laidMetH Tryd.prog laidE w) false (World.doorLaid Tryd.prog 47 os) #[.slice none 0 0] 8 rfl (World.shaped_of_RefB (by kernel_rfl) (by kernel_rfl)) (by kernel_rfl) (by kernel_rfl) (by kernel_rfl) (e_door os _)) ?_
 intro W base args ds gs before hval0 hW _ _ hL _
 have hval : ∀ (j : Nat) t v, Tryd.f9.params[j]? = some t → args[j]? = some v → Value.okWide Tryd.prog W .any base t v := hval0
 have hW' := hW
 obtain ⟨p, q, hA0, hV0, rfl, hfz, hnd⟩ := hW
 have hA : DataW.TrodAll enc Tryd.prog W 0 (fun _ => true) true Tryd.f9.params.toList args.toList ds p := hA0
 have hV : DataW.TrodVars enc Tryd.prog W (fun _ => true) [n0, n1] gs q := hV0
 rw [Tryd.params9] at hA hval
 obtain ⟨v0, vs0, d0, ds0, p0, q0, hargs, rfl, rfl, h0, r0⟩ := trodAll_cons hA
 obtain ⟨rfl, rfl, rfl⟩ := trodAll_nil r0
 obtain rfl : args = #[v0] := by cases args; simp_all
 obtain ⟨a0, a1, hv0, hv1, GE⟩ := e_open (e_plain hL)
 obtain ⟨rfl, rfl⟩ := hV.unique (e_read enc hv0 hv1 trivial trivial _)
 have k0 := h0
 have lt0 : ∀ x ∈ p0, x.block < W.heap.size := by obtain ⟨m, hm⟩ := k0; exact DataW.trod_lt m _ _ _ hm
 obtain ⟨A0, n0, c0, rfl, hc0, hm0, hr0⟩ := openBytes (hval 0 22 v0 rfl rfl) h0
 clear hA0 hval0 hV0
 refine (walk A0 n0 c0 a0 a1 W hc0 hm0 hr0 GE).mono fun e W' ⟨he, bel⟩ => ?_
 subst he
 exact ⟨_, rfl, _, _, _, [], _, [.cell 0 0, .cell 1 0], hW', trodAll_mk1 (shut_bool Tryd.underlying4 _), (trodAll_cons_mk (Below.trod Whole.laidOut (by kernel_rfl) (of_decide_eq_true (by kernel_rfl)) k0 bel lt0) trodAll_mk0), e_read enc (var_below e_g0 bel hv0) (var_below e_g1 bel hv1) trivial trivial _, bel.frame _, fun h => by cases h⟩

theorem named : Tryd.prog.funcNamed Rows.fnLetterHeadRow.func = some 9 := by kernel_rfl
theorem closed : Whole.lawFacts Tryd.prog 9 Tryd.f9 Rows.fnLetterHeadSpec Rows.fnLetterHeadRow = true := by kernel_rfl
theorem inst : Tryd.f9.isInstance Tryd.prog Rows.fnLetterHeadRow.origin Rows.fnLetterHeadRow.targs := of_decide_eq_true (by kernel_rfl)
theorem wrap : Tryd.f9.isWrapper Tryd.prog Rows.fnLetterHeadRow.wrapper Rows.fnLetterHeadRow.mainSum := by
 unfold Func.isWrapper; first | (rw [if_pos (by decide +kernel)]; kernel_rfl) | (rw [if_neg (by decide +kernel)]; exact ⟨rfl, rfl⟩)
theorem over : Rows.fnLetterHeadRow.holds Tryd.pinned (OpenSpec.ofChange Rows.fnLetterHeadSpec) :=
 OpenClaim.holds_of_wide 9 Tryd.f9 rfl rfl rfl rfl rfl rfl rfl ⟨rfl, rfl, rfl, rfl, rfl⟩ rfl rfl rfl rfl rfl named Tryd.func9 (Whole.facts_of closed)
  inst wrap (fun os started H enc _ => lifted os started H enc)

theorem proved : Rows.FnLetterHeadCardSaid :=
 Claim7.holds_tied_plain_at .later [] [.sentinel, .sentinel] true (true, "f355c901a8b8506d89c9f4b274f0813ef8c12415e439c0c7a2efd621187a51cb") true
  over (fun _ h => by cases h) (by kernel_rfl) (fun _ h => by cases h) fnLetterHead_row_tie rfl ⟨rfl, rfl⟩ (by kernel_rfl) rfl
  (fun f fn hf hfn => by
   obtain rfl : f = 9 := Option.some.inj (named.symm.trans hf) |>.symm
   obtain rfl : fn = Tryd.f9 := (Option.some.inj (Tryd.func9.symm.trans hfn)).symm
   exact ⟨by kernel_rfl, fun j t ht => by
    rw [Tryd.params9] at ht
    have hm : t ∈ [22] := by have := Array.mem_of_getElem? ht; simp at this ⊢; omega
    have hall : ([22].all fun u => !Tryd.prog.wantsStandIn u) = true := by kernel_rfl
    exact (show Tryd.prog.wantsStandIn t = false by simpa using List.all_eq_true.1 hall t hm)⟩)
  (by kernel_rfl)
#print axioms proved
end Go.Proofs.YtilcncnhkidndaaDoor.fnLetterHead
