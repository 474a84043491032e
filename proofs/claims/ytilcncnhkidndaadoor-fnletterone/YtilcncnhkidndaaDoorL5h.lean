/- The first letter is taken: the model's LetterTake. -/
import Derived.Test.YtilcncnhkidndaaDoorL5g
namespace Go.Proofs.YtilcncnhkidndaaDoor
open Go.RowKit
set_option linter.unusedVariables false
set_option maxRecDepth 100000

theorem head_cases (x : Bs) : (headC x = 0 ∧ 3 ≤ x.length ∧ goodTo x 3) ∨ (headC x = 1 ∧ codeL x = 1) ∨ (headC x = 2 ∧ codeL x = 2) := by
 unfold headC
 by_cases h : goodTo x (min x.length 3)
 ·
  rw [if_pos h]
  by_cases h3 : x.length < 3
  ·
   rw [if_pos h3]
   exact .inr (.inl ⟨rfl, code_wait (by rw [need_short h3]; exact h3) (h.less (by omega))⟩)
  ·
   rw [if_neg h3]
   exact .inl ⟨rfl, by omega, h.less (by omega)⟩
 ·
  rw [if_neg h]
  refine .inr (.inr ⟨rfl, ?_⟩)
  unfold goodTo at h
  obtain ⟨j, hj⟩ := Classical.not_forall.1 h
  obtain ⟨h1, h2⟩ := Classical.not_imp.1 hj
  have := need_ge x
  exact code_bad (j := j) (by omega) (by omega) (by simpa using h2)
theorem ok_body {x : Bs} {k : Nat} (h : 3 ≤ k) : okAt x k = bdB (bt x k) := by unfold okAt; rw [if_neg (by omega), if_neg (by omega), if_neg (by omega)]
theorem ext_sign (s : ByteArray) (h : codeL (bs s) = 0) : (tookL (bs s)).s = s.extract 0 1 := by
 apply bs_inj
 unfold tookL
 rw [if_pos h, bs_bo, bs_extract, List.drop_zero]
theorem ext_body (s : ByteArray) (h : codeL (bs s) = 0) : (tookL (bs s)).b = s.extract 3 (needL (bs s)) := by
 apply bs_inj
 unfold tookL
 rw [if_pos h, bs_bo, bs_extract]
set_option maxHeartbeats 4000000 in
theorem specTake (s : ByteArray) (w : World) (hs : s.size ≤ maxLen) : Calls Tryd.prog 20 #[.string s] w (RetTake w (bs s)) := by
 have hhd := fun W => specHead s W hs
 unfold maxLen at hs
 obtain ⟨W1, e1, -, B1, h1⟩ := al1 w rfl #[.string ⟨#[]⟩, .string ⟨#[]⟩] 24
 have hxl : (bs s).length = s.size := rfl
 obtain ⟨n, HN⟩ : ∃ n, Hid (headN (bs s) = n) := ⟨_, Lib.hid rfl⟩
 rcases head_cases (bs s) with ⟨hc, h3, hg3⟩ | ⟨hc, hcd⟩ | ⟨hc, hcd⟩
 ·
  have HNL := Lib.hid (show n = lenL (bs s) from by rw [← HN.out]; unfold headN; rw [if_pos hc])
  have hl40 : lenL (bs s) ≤ 40 := len40 hg3 (Nat.le_refl _)
  have hnd := need_of (x := bs s) h3
  have hn40 : n ≤ 40 := by rw [HNL.out]; exact hl40
  have HND := Lib.hid (show needL (bs s) = 3 + n from by rw [hnd, HNL.out])
  have HG3 := Lib.hid hg3
  have hs3 : 3 ≤ s.size := h3
  have HH := Lib.hid hhd
  have HC := Lib.hid hc
  clear hl40 hnd hg3 h3 hxl hhd hc
  go_enter Tryd.func20, Tryd.ntmps20
  go_wp2_with fail
  refine (HH.out W1).mono ?_
  unfold RetHead
  rw [HN.out, HC.out]
  rintro e w2 ⟨rfl, h2⟩
  have hw2 := below_next h1 h2
  have B2 := B1.next h2
  have y0 : w2.cell? ⟨w.heap.size, 0, none⟩ = some (.string ⟨#[]⟩) := B2.cell 0
  have y1 : w2.cell? ⟨w.heap.size, 1, none⟩ = some (.string ⟨#[]⟩) := B2.cell 1
  have z0 := B2.free 0
  have z1 := B2.free 1
  have HB2 := Lib.hid B2
  clear B2
  go_wp2
  go_loop [7] (fun i => ∃ k : Nat, 3 ≤ k ∧ k ≤ s.size ∧ k ≤ 3 + n ∧ i = .int .i64 k ∧ goodTo (bs s) k) (fun i => s.size - (intOf i).toNat)
  case atStart => exact ⟨3, Nat.le_refl _, hs3, by omega, rfl, HG3.out⟩
  case round =>
   obtain ⟨k, hk3, hks, hkn, rfl, hgd⟩ := hrel
   have HGD := Lib.hid hgd
   clear hgd
   by_cases hlt : k < s.size
   ·
    have hq1 : decide ((k : Int) < (s.size : Int)) = true := by simp; omega
    by_cases hln : k < 3 + n
    ·
     have hq2 : decide ((k : Int) < 3 + (n : Int)) = true := by simp; omega
     have SB := fun W => specBd s[k] W
     cases hb : bdB s[k]
     ·
      have HC2 := Lib.hid (show codeL (bs s) = 2 from code_bad (j := k) hlt (by rw [HND.out]; exact hln) (by rw [ok_body hk3, bt_s hlt]; exact hb))
      simp only [hb] at SB
      clear hb
      go_wp2_with fail
      refine (SB _).mono ?_
      rintro e w3 ⟨rfl, hw⟩
      subst hw
      go_wp2
      refine bodyPost_ret (v := .tuple #[.agg #[.string ⟨#[]⟩, .string ⟨#[]⟩], .int .i64 0, .int .i64 (2 : Nat)]) (by simp [results, Tryd.results20, go_sem, y0, y1]) rfl (RetTake.no HC2.out (by decide) ?_)
      exact (by (repeat (first | exact hw2 | (refine Below.setCell ?_ (by simp <;> omega) _) | (refine Below.drew ?_))))
     ·
      have HO := Lib.hid (show okAt (bs s) k = true from by rw [ok_body hk3, bt_s hlt]; exact hb)
      simp only [hb] at SB
      clear hb
      go_wp2_with fail
      refine (SB _).mono ?_
      rintro e w3 ⟨rfl, hw⟩
      subst hw
      go_wp2
      go_round
      case rel => exact ⟨k + 1, by omega, by omega, by omega, by go_num, HGD.out.succ HO.out⟩
      case measure => simp [intOf]; omega
    ·
     have hq2 : decide ((k : Int) < 3 + (n : Int)) = false := by simp; omega
     have hke : k = 3 + n := by omega
     have HC0 := Lib.hid (show codeL (bs s) = 0 from code_fine (by rw [HND.out]; show 3 + n ≤ s.size; omega) (by rw [HND.out, ← hke]; exact HGD.out))
     clear hke
     have i1 : (3 : Int) + (n : Int) ≤ (s.size : Int) := by omega
     have i2 : ¬ ((s.size : Int) < 3 + (n : Int)) := by omega
     have i3 : (1 : Int) ≤ (s.size : Int) := by omega
     have i4 : (3 : Int) ≤ 3 + (n : Int) := by omega
     go_wp2
     go_region
     all_goals go_wp2
     have R := HB2.out.s2 (.string (s.extract 0 1)) (.string (s.extract 3 (3 + n)))
     obtain ⟨V, eV⟩ : ∃ V, (w2.setCell ⟨w.heap.size, 0, none⟩ (.string (s.extract 0 1))).setCell ⟨w.heap.size, 1, none⟩ (.string (s.extract 3 (3 + n))) = V := ⟨_, rfl⟩
     rw [eV] at R
     have hbV : Below w.heap.size w V := eV ▸ (hw2.setCell (by show w.heap.size ≤ w.heap.size; omega) _).setCell (by show w.heap.size ≤ w.heap.size; omega) _
     have d0 : V.drew.cell? ⟨w.heap.size, 0, none⟩ = some (.string (s.extract 0 1)) := R.cell 0
     have d1 : V.drew.cell? ⟨w.heap.size, 1, none⟩ = some (.string (s.extract 3 (3 + n))) := R.cell 1
     rw [eV]
     have hcn : cntL (bs s) = 3 + n := by unfold cntL; rw [if_pos HC0.out, HND.out]
     exact bodyPost_ret (v := .tuple #[.agg #[.string (s.extract 0 1), .string (s.extract 3 (3 + n))], .int .i64 ((3 + n : Nat) : Int), .int .i64 0]) (by simp [results, Tryd.results20, go_sem, d0, d1]) rfl (RetTake.fine (ext_sign s HC0.out) (by rw [ext_body s HC0.out, HND.out]) hcn HC0.out hbV.drew)
   ·
    have hq1 : decide ((k : Int) < (s.size : Int)) = false := by simp; omega
    have hke : k = s.size := by omega
    by_cases hsn : s.size < 3 + n
    ·
     have HC1 := Lib.hid (show codeL (bs s) = 1 from code_wait (by rw [HND.out]; exact hsn) (by show goodTo (bs s) s.size; rw [← hke]; exact HGD.out))
     have i2 : (s.size : Int) < 3 + (n : Int) := by omega
     clear hke
     go_wp2
     refine bodyPost_ret (v := .tuple #[.agg #[.string ⟨#[]⟩, .string ⟨#[]⟩], .int .i64 0, .int .i64 (1 : Nat)]) (by simp [results, Tryd.results20, go_sem, y0, y1]) rfl (RetTake.no HC1.out (by decide) ?_)
     exact (by (repeat (first | exact hw2 | (refine Below.setCell ?_ (by simp <;> omega) _) | (refine Below.drew ?_))))
    ·
     have HC0 := Lib.hid (show codeL (bs s) = 0 from code_fine (by rw [HND.out]; show 3 + n ≤ s.size; omega) (by rw [HND.out]; have : 3 + n = k := (by omega); rw [this]; exact HGD.out))
     clear hke
     have i1 : (3 : Int) + (n : Int) ≤ (s.size : Int) := by omega
     have i2 : ¬ ((s.size : Int) < 3 + (n : Int)) := by omega
     have i3 : (1 : Int) ≤ (s.size : Int) := by omega
     have i4 : (3 : Int) ≤ 3 + (n : Int) := by omega
     go_wp2
     go_region
     all_goals go_wp2
     have R := HB2.out.s2 (.string (s.extract 0 1)) (.string (s.extract 3 (3 + n)))
     obtain ⟨V, eV⟩ : ∃ V, (w2.setCell ⟨w.heap.size, 0, none⟩ (.string (s.extract 0 1))).setCell ⟨w.heap.size, 1, none⟩ (.string (s.extract 3 (3 + n))) = V := ⟨_, rfl⟩
     rw [eV] at R
     have hbV : Below w.heap.size w V := eV ▸ (hw2.setCell (by show w.heap.size ≤ w.heap.size; omega) _).setCell (by show w.heap.size ≤ w.heap.size; omega) _
     have d0 : V.drew.cell? ⟨w.heap.size, 0, none⟩ = some (.string (s.extract 0 1)) := R.cell 0
     have d1 : V.drew.cell? ⟨w.heap.size, 1, none⟩ = some (.string (s.extract 3 (3 + n))) := R.cell 1
     rw [eV]
     have hcn : cntL (bs s) = 3 + n := by unfold cntL; rw [if_pos HC0.out, HND.out]
     exact bodyPost_ret (v := .tuple #[.agg #[.string (s.extract 0 1), .string (s.extract 3 (3 + n))], .int .i64 ((3 + n : Nat) : Int), .int .i64 0]) (by simp [results, Tryd.results20, go_sem, d0, d1]) rfl (RetTake.fine (ext_sign s HC0.out) (by rw [ext_body s HC0.out, HND.out]) hcn HC0.out hbV.drew)
 ·
  have HC := Lib.hid hc
  have HCD := Lib.hid hcd
  have HH := Lib.hid hhd
  have HN0 := Lib.hid (show n = 0 from by rw [← HN.out]; unfold headN; rw [hc]; rfl)
  clear hc hcd hxl hhd
  go_enter Tryd.func20, Tryd.ntmps20
  go_wp2_with fail
  refine (HH.out W1).mono ?_
  unfold RetHead
  rw [HN.out, HC.out]
  rintro e w2 ⟨rfl, h2⟩
  have hw2 := below_next h1 h2
  have B2 := B1.next h2
  have y0 : w2.cell? ⟨w.heap.size, 0, none⟩ = some (.string ⟨#[]⟩) := B2.cell 0
  have y1 : w2.cell? ⟨w.heap.size, 1, none⟩ = some (.string ⟨#[]⟩) := B2.cell 1
  have z0 := B2.free 0
  have z1 := B2.free 1
  go_wp2
  refine bodyPost_ret (v := .tuple #[.agg #[.string ⟨#[]⟩, .string ⟨#[]⟩], .int .i64 0, .int .i64 (1 : Nat)]) (by simp [results, Tryd.results20, go_sem, y0, y1]) rfl (RetTake.no HCD.out (by decide) ?_)
  exact (by (repeat (first | exact hw2 | (refine Below.setCell ?_ (by simp <;> omega) _) | (refine Below.drew ?_))))
 ·
  have HC := Lib.hid hc
  have HCD := Lib.hid hcd
  have HH := Lib.hid hhd
  clear hc hcd hxl hhd
  go_enter Tryd.func20, Tryd.ntmps20
  go_wp2_with fail
  refine (HH.out W1).mono ?_
  unfold RetHead
  rw [HN.out, HC.out]
  rintro e w2 ⟨rfl, h2⟩
  have hw2 := below_next h1 h2
  have B2 := B1.next h2
  have y0 : w2.cell? ⟨w.heap.size, 0, none⟩ = some (.string ⟨#[]⟩) := B2.cell 0
  have y1 : w2.cell? ⟨w.heap.size, 1, none⟩ = some (.string ⟨#[]⟩) := B2.cell 1
  have z0 := B2.free 0
  have z1 := B2.free 1
  go_wp2
  refine bodyPost_ret (v := .tuple #[.agg #[.string ⟨#[]⟩, .string ⟨#[]⟩], .int .i64 0, .int .i64 (2 : Nat)]) (by simp [results, Tryd.results20, go_sem, y0, y1]) rfl (RetTake.no HCD.out (by decide) ?_)
  exact (by (repeat (first | exact hw2 | (refine Below.setCell ?_ (by simp <;> omega) _) | (refine Below.drew ?_))))
end Go.Proofs.YtilcncnhkidndaaDoor
