/- The program decodes the first letter of bytes. -/
import Derived.Test.YtilcncnhkidndaaDoorL5d
import Derived.Deep.DeepCutAuto
import Derived.StillTailTactics
namespace Go.Proofs.YtilcncnhkidndaaDoor
open Go.RowKit
set_option linter.unusedVariables false
set_option maxRecDepth 100000

theorem len40 {x : Bs} {k : Nat} (h : goodTo x k) (hk : 3 ≤ k) : lenL x ≤ 40 := by
 have h4 := h 2 (by omega)
 unfold okAt at h4
 simp at h4
 exact h4.2
theorem stV_fn {x : Bs} {g k : Nat} (h : k < needL x) : ∃ f, stV g x k = fnV g f := by
 unfold stV
 by_cases h0 : k = 0
 ·
  exact ⟨_, if_pos h0⟩
 ·
  rw [if_neg h0]
  by_cases h1 : k = 1
  ·
   exact ⟨_, if_pos h1⟩
  ·
   rw [if_neg h1]
   by_cases h2 : k = 2
   ·
    exact ⟨_, if_pos h2⟩
   ·
    rw [if_neg h2, if_pos h]; exact ⟨_, rfl⟩
theorem stV_nil {x : Bs} {g k : Nat} (h : k = needL x) : stV g x k = .nilFunc := by
 have := need_ge x
 unfold stV
 rw [if_neg (by omega), if_neg (by omega), if_neg (by omega), if_neg (by omega)]
theorem eql_fn (g : Nat) (f : FuncId) (w : World) : (binOp .eql 67 (fnV g f) .nilFunc).run Tryd.prog w = .ok (.bool false) w := by kernel_rfl
theorem eql_nil (w : World) : (binOp .eql 67 .nilFunc .nilFunc).run Tryd.prog w = .ok (.bool true) w := by kernel_rfl
theorem oneB (c : UInt8) (W : World) : (convert 22 9 (.slice (some ⟨W.heap.size, 0, none⟩) 1 1)).run Tryd.prog (W.alloc (.cells #[.int .u8 c.toNat] 5)) = .ok (.string (bo [c])) (W.alloc (.cells #[.int .u8 c.toNat] 5)) :=
 convU (x := [c]) (base := 0) (OwnG.of_blk (l := [c]) (Nat.zero_le _) (blkA W _ _) (by unfold maxLen; simp))
theorem bt_s {s : ByteArray} {k : Nat} (h : k < s.size) : bt (bs s) k = s[k] := by rw [bt_eq (show k < (bs s).length from h)]; rfl
/-- what decode answers -/
def RetDec (w : World) (x : Bs) (a0 a1 : Addr) (e : Ending) (w' : World) : Prop :=
 e = .returned (.tuple #[.agg #[.string (tookL x).s, .string (tookL x).b], .int .i64 (cntL x), if codeL x = 0 then .nilIface else if codeL x = 2 then erV a0 else erV a1]) ∧ Below w.heap.size w w'
theorem RetDec.bad {w w' : World} {x : Bs} {a0 a1 : Addr} (h : codeL x = 2) (hb : Below w.heap.size w w') : RetDec w x a0 a1 (.returned (.tuple #[.agg #[.string ⟨#[]⟩, .string ⟨#[]⟩], .int .i64 0, erV a0])) w' := by
 refine ⟨?_, hb⟩
 unfold tookL cntL
 rw [h]; rfl
theorem RetDec.wait {w w' : World} {x : Bs} {a0 a1 : Addr} (h : codeL x = 1) (hb : Below w.heap.size w w') : RetDec w x a0 a1 (.returned (.tuple #[.agg #[.string ⟨#[]⟩, .string ⟨#[]⟩], .int .i64 0, erV a1])) w' := by
 refine ⟨?_, hb⟩
 unfold tookL cntL
 rw [h]; rfl
theorem RetDec.fine {w w' : World} {x : Bs} {a0 a1 : Addr} {s b : ByteArray} {n : Int} (h : codeL x = 0) (hs : s = bo (x.take 1)) (hbb : b = bo ((x.take (needL x)).drop 3)) (hn : n = (needL x : Nat)) (hb : Below w.heap.size w w') : RetDec w x a0 a1 (.returned (.tuple #[.agg #[.string s, .string b], .int .i64 n, .nilIface])) w' := by
 refine ⟨?_, hb⟩
 unfold tookL cntL
 rw [h, hs, hbb, hn]; rfl
set_option maxHeartbeats 8000000 in
theorem decode_c (s : ByteArray) (a0 a1 : Addr) (w : World) (hs : s.size ≤ maxLen) (GE : GlE w a0 a1) :
  Calls Tryd.prog 43 #[.string s] w (RetDec w (bs s) a0 a1) := by
 unfold maxLen at hs
 obtain ⟨W1, e1, -, B1, h1⟩ := al1 w rfl #[.string ⟨#[]⟩, .string ⟨#[]⟩] 24
 have ltr := B1.lt
 obtain ⟨g, HG⟩ : ∃ g, Hid (W1.heap.size = g) := ⟨_, Lib.hid rfl⟩
 have hgr : w.heap.size < g := by rw [← HG.out]; exact ltr
 obtain ⟨x, HX⟩ : ∃ x, Hid (bs s = x) := ⟨_, Lib.hid rfl⟩
 have hxl : x.length = s.size := by rw [← HX.out]; rfl
 have HXL := Lib.hid hxl
 clear hxl
 rw [HX.out]
 have G1 := GE.next h1
 have n0a : ¬ (0 = w.heap.size) := by have := GE.low; change 2 ≤ _ at this; omega
 have n1a : ¬ (1 = w.heap.size) := by have := GE.low; change 2 ≤ _ at this; omega
 clear GE
 go_enter Tryd.func43, Tryd.ntmps43
 go_wp2_with fail
 refine (newDecoder_c (g + 1) x W1).mono ?_
 rw [HG.out]
 rintro e w2 ⟨rfl, hD, h2⟩
 have G2 := G1.next (by rw [HG.out]; exact h2)
 have B2 := B1.below h2 hgr
 have hw2 : Below w.heap.size w w2 := h1.trans (h2.mono (by omega))
 have hg2 : g < w2.heap.size := by obtain ⟨bv, B, -⟩ := hD; exact B.lt
 have l2 : a0.block < g ∧ a1.block < g := by rw [← HG.out]; exact G1.lt
 have lng : 2 ≤ g := by rw [← HG.out]; exact G1.low
 have HD2 := Lib.hid hD
 have HB2 := Lib.hid B2
 have HG2 := Lib.hid G2
 have HL2 := Lib.hid l2
 clear hD B2 G2 G1 B1 h1 h2 l2 ltr
 go_wp2
 go_loopw [11] (fun i W => ∃ k : Nat, k ≤ s.size ∧ i = .int .i64 k ∧ DecP W g (g + 1) x k ∧ goodTo x k ∧ k < needL x ∧ Blk W w.heap.size 24 #[.string ⟨#[]⟩, .string ⟨#[]⟩] ∧ GlE W a0 a1 ∧ Below w.heap.size w W) (fun i _ => s.size - (intOf i).toNat)
 case atStart => exact ⟨0, Nat.zero_le _, rfl, HD2.out, goodTo.zero _, by have := need_ge x; omega, HB2.out, HG2.out, hw2⟩
 case round =>
  obtain ⟨k, hk, rfl, hD, hgood, hkn, hR, hG, hbw⟩ := hrel
  have HGD := Lib.hid hgood
  have HR := Lib.hid hR
  have HGG := Lib.hid hG
  have HD := Lib.hid hD
  have HKN := Lib.hid hkn
  clear hgood hR hG hD hkn
  by_cases hlt : k < s.size
  ·
   have hlx : k < x.length := by have := HXL.out; omega
   have hb0 : bt x k = s[k] := by rw [← HX.out]; exact bt_s hlt
   have HB0 := Lib.hid hb0
   clear hb0
   have hbig : g + 1 ≤ wr.heap.size := by obtain ⟨bv, B, -⟩ := HD.out; exact B.lt
   go_wp2
   go_cut [7] (fun ev V => ev = (if okAt x k then .nilIface else erV a0) ∧ (okAt x k = true → DecP V g (g + 1) x (k + 1)) ∧ Chg (fun j => j = g ∨ g + 1 ≤ j) wr V)
   case first =>
    have hc0 := HGG.out.c0
    have hbT : Below wr.heap.size wr wr.drew := (Below.refl _ _).drew
    have hce : wr.drew.cell? ⟨0, 0, none⟩ = some (erV a0) := hc0
    have hDd : Hid (DecP wr.drew g (g + 1) x k) := Lib.hid (HD.out.chg hbT)
    have fin : Hid (∀ e W', StepR wr.drew g (g + 1) x k a0 e W' → (∃ v, e = .returned v ∧ v = (if okAt x k then .nilIface else erV a0) ∧ (okAt x k = true → DecP W' g (g + 1) x (k + 1)) ∧ Chg (fun j => j = g ∨ g + 1 ≤ j) wr W')) := Lib.hid (by
     intro e W' hS
     obtain ⟨h1, h2⟩ := hS
     have hC : Chg (fun j => j = g ∨ g + 1 ≤ j) wr W' := ⟨h2.os, h2.tape, h2.output, h2.size, h2.block⟩
     cases ho : okAt x k
     ·
      rw [ho] at h1; exact ⟨_, h1, rfl, (fun h => by cases h), hC⟩
     ·
      rw [ho] at h1; exact ⟨_, h1.1, rfl, (fun _ => h1.2), hC⟩)
    by_cases k0 : k = 0
    ·
     subst k0
     have hq : wr.cell? ⟨g, 0, none⟩ = some (fnV g 56) := by obtain ⟨bv, B, -⟩ := HD.out; have := B.cell 0; rw [this]; rfl
     have hst := takeSign_c hDd.out hlx hce
     rw [HB0.out] at hst
     have HST := Lib.hid (hst.mono fin.out)
     clear hst
     go_still_tail 7, (by kernel_rfl)
     change wpList _ _ _ _ _ wr.drew
     go_wp2_with fail
     refine HST.out.mono ?_
     rintro e W' ⟨v, rfl, hv⟩
     have HV := Lib.hid hv
     clear hv
     go_wp2
     go_meet
     exact ⟨HV.out.1, HV.out.2.1, HV.out.2.2⟩
    by_cases k1 : k = 1
    ·
     subst k1
     have hi1 : (1 : Int) < (s.size : Int) := by omega
     have hq : wr.cell? ⟨g, 0, none⟩ = some (fnV g 57) := by obtain ⟨bv, B, -⟩ := HD.out; have := B.cell 0; rw [this]; rfl
     have hst := takeTens_c hDd.out hlx hce
     rw [HB0.out] at hst
     have HST := Lib.hid (hst.mono fin.out)
     clear hst
     go_still_tail 7, (by kernel_rfl)
     change wpList _ _ _ _ _ wr.drew
     go_wp2_with fail
     refine HST.out.mono ?_
     rintro e W' ⟨v, rfl, hv⟩
     have HV := Lib.hid hv
     clear hv
     go_wp2
     go_meet
     exact ⟨HV.out.1, HV.out.2.1, HV.out.2.2⟩
    by_cases k2 : k = 2
    ·
     subst k2
     have hi1 : (2 : Int) < (s.size : Int) := by omega
     have hq : wr.cell? ⟨g, 0, none⟩ = some (fnV g 58) := by obtain ⟨bv, B, -⟩ := HD.out; have := B.cell 0; rw [this]; rfl
     have hst := takeOnes_c hDd.out hlx HGD.out hce
     rw [HB0.out] at hst
     have HST := Lib.hid (hst.mono fin.out)
     clear hst
     go_still_tail 7, (by kernel_rfl)
     change wpList _ _ _ _ _ wr.drew
     go_wp2_with fail
     refine HST.out.mono ?_
     rintro e W' ⟨v, rfl, hv⟩
     have HV := Lib.hid hv
     clear hv
     go_wp2
     go_meet
     exact ⟨HV.out.1, HV.out.2.1, HV.out.2.2⟩
    ·
     have hk3 : 3 ≤ k := by omega
     have h40 := len40 HGD.out hk3
     have hn40 := need_of (x := x) (by omega)
     have hk50 : k ≤ 50 := by have := HKN.out; omega
     clear h40 hn40
     have hq : wr.cell? ⟨g, 0, none⟩ = some (fnV g 60) := by obtain ⟨bv, B, -⟩ := HD.out; have := B.cell 0; rw [this]; show some (stV g x k) = _; unfold stV; rw [if_neg k0, if_neg k1, if_neg k2, if_pos HKN.out]
     have hst := takeBody_c hDd.out hk3 hlx hk50 HKN.out hbig hce
     rw [HB0.out] at hst
     have HST := Lib.hid (hst.mono fin.out)
     clear hst
     go_still_tail 7, (by kernel_rfl)
     change wpList _ _ _ _ _ wr.drew
     go_wp2_with fail
     refine HST.out.mono ?_
     rintro e W' ⟨v, rfl, hv⟩
     have HV := Lib.hid hv
     clear hv
     go_wp2
     go_meet
     exact ⟨HV.out.1, HV.out.2.1, HV.out.2.2⟩
   case rest =>
    obtain ⟨he, hD2, hC⟩ := hcut
    have hbc : Below w.heap.size w wc := hbw.trans (hC.toBelow hbw.size (fun j hj => by rcases hj with h | h <;> omega))
    have hRc := HR.out.chg hC (fun h => by rcases h with h | h <;> omega)
    have hGc := HGG.out.below (hC.toBelow (B := g) (by omega) (fun j hj => by rcases hj with h | h <;> omega)) lng HL2.out.1 HL2.out.2
    have y0 : wc.cell? ⟨w.heap.size, 0, none⟩ = some (.string ⟨#[]⟩) := hRc.cell 0
    have y1 : wc.cell? ⟨w.heap.size, 1, none⟩ = some (.string ⟨#[]⟩) := hRc.cell 1
    have z0 := hRc.free 0
    have z1 := hRc.free 1
    have hszc := hC.size
    cases ho : okAt x k
    ·
     have HC := Lib.hid (code_bad hlx HKN.out ho)
     rw [ho] at he
     simp only [Bool.false_eq_true, if_false] at he
     subst he
     clear hD2 ho
     go_wp2
     refine bodyPost_ret (v := .tuple #[.agg #[.string ⟨#[]⟩, .string ⟨#[]⟩], .int .i64 0, erV a0]) (by simp [results, Tryd.results43, go_sem, y0, y1]) rfl (RetDec.bad HC.out ?_)
     exact (by (repeat (first | exact hbc | (refine Below.setCell ?_ (by simp <;> omega) _) | (refine Below.drew ?_))))
    ·
     have HDD := Lib.hid (hD2 ho)
     rw [ho] at he
     simp only [if_true] at he
     subst he
     have HGO := Lib.hid (HGD.out.succ ho)
     clear hD2 ho
     by_cases hnx : k + 1 < needL x
     ·
      obtain ⟨f, hf⟩ := stV_fn (g := g) hnx
      have q0 : wc.cell? ⟨g, 0, none⟩ = some (fnV g f) := by obtain ⟨bv, B, -⟩ := HDD.out; rw [← hf]; exact B.cell 0
      have HNX := Lib.hid hnx
      have HRC := Lib.hid hRc
      have HGC := Lib.hid hGc
      clear hnx hf hRc hGc
      have eqf := eql_fn g f
      go_wp2
      go_roundw
      case rel => exact ⟨k + 1, by omega, by go_num, HDD.out, HGO.out, HNX.out, HRC.out, HGC.out, hbc⟩
      case measure => simp [intOf]; omega
     ·
      have q0 : wc.cell? ⟨g, 0, none⟩ = some .nilFunc := by obtain ⟨bv, B, -⟩ := HDD.out; rw [← stV_nil (g := g) (x := x) (k := k + 1) (by have := HKN.out; omega)]; exact B.cell 0
      have eqn := eql_nil
      have hkn : k + 1 = needL x := by have := HKN.out; omega
      have HC := Lib.hid (show codeL x = 0 from code_fine (by omega) (hkn ▸ HGO.out))
      have HKE := Lib.hid hkn
      obtain ⟨bv, B, O⟩ := HDD.out
      obtain ⟨vb, vn, vc, rfl⟩ := O.slice
      rw [show sgN x (k + 1) = (bt x 0).toNat from if_neg (by omega)] at B
      obtain ⟨BD, HBD⟩ : ∃ y, Hid (bo ((x.take (k + 1)).drop 3) = y) := ⟨_, Lib.hid rfl⟩
      have Bd : Blk wc.drew g 69 _ := B
      have Od : OwnG wc.drew (g + 1) (.slice vb vn vc) ((x.take (k + 1)).drop 3) := O.next ((Below.refl _ _).drew)
      obtain ⟨U, eU, -, BU, hbU⟩ := al1 wc.drew rfl #[.int .u8 (bt x 0).toNat] 5
      have c1 : wc.cell? ⟨g, 1, none⟩ = some (.int .u8 (bt x 0).toNat) := B.cell 1
      have c3 : wc.cell? ⟨g, 3, none⟩ = some (.slice vb vn vc) := B.cell 3
      have cv := convU Od
      rw [HBD.out] at cv
      have ou := Od.next hbU
      have bu := Bd.next hbU
      have ru : Blk U w.heap.size 24 _ := (show Blk wc.drew w.heap.size 24 _ from hRc).next hbU
      have u1 : U.cell? ⟨g, 1, none⟩ = some (.int .u8 (bt x 0).toNat) := bu.cell 1
      have u3 : U.cell? ⟨g, 3, none⟩ = some (.slice vb vn vc) := bu.cell 3
      have ucv := convU ou
      rw [HBD.out] at ucv
      have one : (convert 22 9 (.slice (some ⟨wc.heap.size, 0, none⟩) 1 1)).run Tryd.prog U = .ok (.string (bo [bt x 0])) U := by rw [← eU]; exact oneB (bt x 0) wc.drew
      have hwk : IntKind.i64.wrap ((k : Int) + 1) = (k : Int) + 1 := IntWalk.i64_in _ (by omega)
      have ur0 : U.cell? ⟨w.heap.size, 0, none⟩ = some (.string ⟨#[]⟩) := ru.cell 0
      have ur1 : U.cell? ⟨w.heap.size, 1, none⟩ = some (.string ⟨#[]⟩) := ru.cell 1
      have uz0 := ru.free 0
      have uz1 := ru.free 1
      obtain ⟨V, eV, RV, BV, OV, hbV⟩ : ∃ V, (U.setCell ⟨w.heap.size, 0, none⟩ (.string (bo [bt x 0]))).setCell ⟨w.heap.size, 1, none⟩ (.string BD) = V ∧ Blk V w.heap.size 24 #[.string (bo [bt x 0]), .string BD] ∧ Blk V g 69 _ ∧ OwnG V (g + 1) (.slice vb vn vc) ((x.take (k + 1)).drop 3) ∧ Below w.heap.size w V :=
       ⟨_, rfl, ru.s2 _ _, (bu.setOther (by show g ≠ w.heap.size; omega) _).setOther (by show g ≠ w.heap.size; omega) _, (ou.setCell (fun j hj => by have := (ou.block_lt hj).1; show j ≠ w.heap.size; omega) _).setCell (fun j hj => by have := (ou.block_lt hj).1; show j ≠ w.heap.size; omega) _, ((hbc.drew.trans (hbU.mono (by have := hbc.size; simp; omega))).setCell (by show w.heap.size ≤ w.heap.size; omega) _).setCell (by show w.heap.size ≤ w.heap.size; omega) _⟩
      have v1 : V.cell? ⟨g, 1, none⟩ = some (.int .u8 (bt x 0).toNat) := BV.cell 1
      have v3 : V.cell? ⟨g, 3, none⟩ = some (.slice vb vn vc) := BV.cell 3
      have vcv := convU OV
      rw [HBD.out] at vcv
      have d0 : V.cell? ⟨w.heap.size, 0, none⟩ = some (.string (bo [bt x 0])) := RV.cell 0
      have d1 : V.cell? ⟨w.heap.size, 1, none⟩ = some (.string BD) := RV.cell 1
      have HFIN := Lib.hid (RetDec.fine (a0 := a0) (a1 := a1) (s := bo [bt x 0]) (b := BD) (n := (k : Int) + 1) HC.out (by
       have : x.take 1 = [bt x 0] := by rw [bt_eq (by omega)]; exact List.take_succ_eq_append_getElem (i := 0) (by omega)
       rw [this]) (by rw [← HBD.out, HKE.out]) (by rw [← HKE.out]; omega) hbV)
      clear B O Bd Od BU hbU ou bu ru RV BV OV hRc hGc
      go_wp2
      refine wp_region_held_drew (S := (fun Z => Z.cell? ⟨g, 1, none⟩ = some (.int .u8 (bt x 0).toNat) ∧ Z.cell? ⟨g, 3, none⟩ = some (.slice vb vn vc) ∧ (convert 22 9 (.slice vb vn vc)).run Tryd.prog Z = .ok (.string BD) Z)) (by kernel_rfl) ?_ (fun hHeld => ?_)
      focus ((try dsimp only); (exact ⟨c1, c3, cv⟩))
      refine tk 0 ?_
      refine tk 1 ?_
      refine tk 2 ?_
      refine tk 3 ?_
      refine tk 6 ?_
      refine tk 7 ?_
      refine tk 8 ?_
      refine tk 9 ?_
      refine tk 10 ?_
      refine tk 12 ?_
      refine tk 13 ?_
      refine rd1 4 (fun K hK => ?_)
      go_simp
      refine hK.out _ _ ?_ (fun hHeld => ?_)
      focus ((try dsimp only); (exact ⟨u1, u3, ucv⟩))
      clear hK K
      try simp only [Act.put, pa, pb, pc]
      refine rd1 5 (fun K hK => ?_)
      go_simp
      refine hK.out _ _ ?_ (fun hHeld => ?_)
      focus ((try dsimp only); (exact ⟨u1, u3, ucv⟩))
      clear hK K
      try simp only [Act.put, pa, pb, pc]
      refine tk 11 ?_
      refine rd1 14 (fun K hK => ?_)
      go_simp
      refine hK.out _ _ ?_ (fun hHeld => ?_)
      focus ((try dsimp only); (exact ⟨v1, v3, vcv⟩))
      clear hK K
      try simp only [Act.put, pa, pb, pc]
      refine tk 15 ?_
      refine tk 16 ?_
      refine wpAnyH_done (by kernel_rfl) ?_ _
      go_wp2
      exact bodyPost_ret (v := .tuple #[.agg #[.string (bo [bt x 0]), .string BD], .int .i64 ((k : Int) + 1), .nilIface]) (by simp [results, Tryd.results43, go_sem, d0, d1]) rfl HFIN.out
  ·
   have HC := Lib.hid (show codeL x = 1 from code_wait (by have := HKN.out; have := HXL.out; omega) (HGD.out.less (by have := HXL.out; omega)))
   have r0 := HR.out.cell 0
   have r1 := HR.out.cell 1
   have y0 : wr.cell? ⟨w.heap.size, 0, none⟩ = some (.string ⟨#[]⟩) := r0
   have y1 : wr.cell? ⟨w.heap.size, 1, none⟩ = some (.string ⟨#[]⟩) := r1
   have z0 := HR.out.free 0
   have z1 := HR.out.free 1
   have ge := HGG.out.c1
   clear r0 r1
   go_wp2
   go_region
   all_goals (go_wp2; refine bodyPost_ret (v := .tuple #[.agg #[.string ⟨#[]⟩, .string ⟨#[]⟩], .int .i64 0, erV a1]) (by simp [results, Tryd.results43, go_sem, y0, y1]) rfl (RetDec.wait HC.out ?_))
   all_goals exact (by (repeat (first | exact hbw | (refine Below.setCell ?_ (by simp <;> omega) _) | (refine Below.drew ?_))))
end Go.Proofs.YtilcncnhkidndaaDoor
