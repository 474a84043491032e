/- The program: what one asks, read off a text. -/
import Derived.Test.YtjgfbcmgnjgapaaDoorAkP
import Derived.Test.YtjgfbcmgnjgapaaDoorAkI
import Derived.Lib.AtoiErrMem
import Derived.Lib.AtoiAllCases
import Derived.Deep.DeepCutAuto
namespace Go.Proofs.YtjgfbcmgnjgapaaDoor
open Go.RowKit
set_option linter.unusedVariables false
set_option maxRecDepth 100000

abbrev agQ (q : Q4) : Value := .agg #[.int .i64 q.kind, .string q.key, .string q.hi, .int .i64 q.num]
def RetRead (w : World) (t : ByteArray) (e : Ending) (w' : World) : Prop := e = .returned (.tuple #[agQ (readV t), .bool (readB t)]) ∧ Below w.heap.size w w'
theorem Glf.at9 {W : World} (h : Glf W) {k : Nat} (h9 : k ≤ 9) : W.cell? ⟨0, k * 4, none⟩ = some (.string (wordK k)) ∧ W.cell? ⟨0, k * 4 + 1, none⟩ = some (.bool (keyK k)) ∧
  W.cell? ⟨0, k * 4 + 2, none⟩ = some (.bool (hiK k)) ∧ W.cell? ⟨0, k * 4 + 3, none⟩ = some (.bool (numK k)) := by
 by_cases h0 : k = 0
 ·
  subst h0
  exact ⟨h 0 _ rfl 0 _ rfl, h 0 _ rfl 1 _ rfl, h 0 _ rfl 2 _ rfl, h 0 _ rfl 3 _ rfl⟩
 ·
  exact h.at_ (by omega) h9
section
variable {W W' : World} {g : Nat} {t : TypeId} {a b c d : Value}
theorem zs3 (B : Blk W g t #[a, b, c, d]) : ∃ U, ((W.setCell ⟨g, 1, none⟩ b).setCell ⟨g, 2, none⟩ c).setCell ⟨g, 3, none⟩ d = U ∧ Blk U g t #[a, b, c, d] ∧ Chg (fun k => k = g) W U :=
 ⟨_, rfl, ((B.set_ 1 b).set_ 2 c).set_ 3 d, (((Chg.refl _ _).st _ b).st _ c).st _ d⟩
theorem s4 (B : Blk W g t #[a, b, c, d]) (x y z u : Value) : ∃ U, (((W.setCell ⟨g, 0, none⟩ x).setCell ⟨g, 1, none⟩ y).setCell ⟨g, 2, none⟩ z).setCell ⟨g, 3, none⟩ u = U ∧ Blk U g t #[x, y, z, u] ∧ Chg (fun k => k = g) W U :=
 ⟨_, rfl, B.s4 x y z u, chg_s4 W g x y z u⟩
theorem s1 (B : Blk W g t #[a, b, c, d]) (x : Value) : ∃ U, W.setCell ⟨g, 1, none⟩ x = U ∧ Blk U g t #[a, x, c, d] ∧ Chg (fun k => k = g) W U := ⟨_, rfl, B.set_ 1 x, (Chg.refl _ _).st _ x⟩
theorem s2 (B : Blk W g t #[a, b, c, d]) (x : Value) : ∃ U, W.setCell ⟨g, 2, none⟩ x = U ∧ Blk U g t #[a, b, x, d] ∧ Chg (fun k => k = g) W U := ⟨_, rfl, B.set_ 2 x, (Chg.refl _ _).st _ x⟩
theorem s3 (B : Blk W g t #[a, b, c, d]) (x : Value) : ∃ U, W.setCell ⟨g, 3, none⟩ x = U ∧ Blk U g t #[a, b, c, x] ∧ Chg (fun k => k = g) W U := ⟨_, rfl, B.set_ 3 x, (Chg.refl _ _).st _ x⟩
end
theorem belChg {w W W' : World} {g : Nat} (h : Below w.heap.size w W) (k : Chg (fun k => k = g) W W') (hg : w.heap.size ≤ g) : Below w.heap.size w W' :=
 h.trans (k.toBelow h.size fun i hi => by rw [hi]; exact hg)
theorem cutF_list (s : ByteArray) : (cutF s).data.toList = fstW s.data.toList := by simp
theorem cutR_list (s : ByteArray) : (cutR s).data.toList = rstW s.data.toList := by simp
theorem ES_g : Tryd.prog.globalNamed "strconv.ErrSyntax" = some 1 := by kernel_rfl
theorem ER_g : Tryd.prog.globalNamed "strconv.ErrRange" = some 2 := by kernel_rfl
theorem var_next {W W' : World} {n : String} {cs : Array Value} {g : Nat} (hg : Tryd.prog.globalNamed n = some g) (hb : Below W.heap.size W W') (h : W.var? Tryd.prog n = some cs) : W'.var? Tryd.prog n = some cs := by
 unfold World.var? at h ⊢
 simp only [hg, Option.bind_some] at h ⊢
 have hlt : g < W.heap.size := by
  rcases Nat.lt_or_ge g W.heap.size with h' | h'
  ·
   exact h'
  ·
   simp [Array.getElem?_eq_none h'] at h
 rw [hb.block g hlt]
 exact h
theorem emp_le : (⟨#[]⟩ : ByteArray).size ≤ 1048576 := by decide
theorem fit_mk {k : Nat} {x y : ByteArray} {n : Int} (hk : k ≤ 9) (hx : x.size ≤ 1048576) (hy : y.size ≤ 1048576) (hn : -9223372036854775808 ≤ n ∧ n ≤ 9223372036854775807) : FitQ ⟨k, x, y, n⟩ := by
 unfold FitQ FitI maxLen
 dsimp only
 omega
set_option maxHeartbeats 16000000 in
theorem implAskRead (t : ByteArray) (w : World) (ht : t.size ≤ 1048576) (G : Glf w) (T : TabP w) (p0 p1 : TypeId) (v0 v1 : Value) (ES : w.var? Tryd.prog "strconv.ErrSyntax" = some #[.iface p0 v0]) (ER : w.var? Tryd.prog "strconv.ErrRange" = some #[.iface p1 v1]) :
  Calls Tryd.prog 9 #[.string t] w (RetRead w t) := by
 obtain ⟨u1, e1, -, R1, hb1⟩ := al1 w rfl #[.int .i64 0, .string ⟨#[]⟩, .string ⟨#[]⟩, .int .i64 0] 24
 obtain ⟨r, hr⟩ : ∃ r, w.heap.size = r := ⟨_, rfl⟩
 have hrl := R1.lt
 rw [hr] at R1 hrl
 have HG := Lib.hid G
 have HT := Lib.hid T
 have HV := Lib.hid (And.intro ES ER)
 clear G T ES ER
 have htm : t.size ≤ maxLen := by unfold maxLen; omega
 obtain ⟨a0, b0, H0⟩ : ∃ x y, Hid (cutF t = x ∧ cutR t = y) := ⟨_, _, Lib.hid ⟨rfl, rfl⟩⟩
 obtain ⟨a1, b1, H1⟩ : ∃ x y, Hid (cutF b0 = x ∧ cutR b0 = y) := ⟨_, _, Lib.hid ⟨rfl, rfl⟩⟩
 obtain ⟨a2, b2, H2⟩ : ∃ x y, Hid (cutF b1 = x ∧ cutR b1 = y) := ⟨_, _, Lib.hid ⟨rfl, rfl⟩⟩
 have sb0 : b0.size ≤ t.size := by rw [← H0.out.2]; exact cutR_le _
 have sb1 : b1.size ≤ b0.size := by rw [← H1.out.2]; exact cutR_le _
 have sa1 : a1.size ≤ b0.size := by rw [← H1.out.1]; exact cutF_le _
 have sa2 : a2.size ≤ b1.size := by rw [← H2.out.1]; exact cutF_le _
 have HW0 := Lib.hid (show a0.data.toList = w0 t from by rw [← H0.out.1, cutF_list]; rfl)
 have HW1 := Lib.hid (show a1.data.toList = w1 t from by rw [← H1.out.1, ← H0.out.2, cutF_list, cutR_list]; rfl)
 have HW2 := Lib.hid (show a2.data.toList = w2 t from by rw [← H2.out.1, ← H1.out.2, ← H0.out.2, cutF_list, cutR_list, cutR_list]; rfl)
 obtain ⟨k, HK, hk9⟩ : ∃ k : Nat, Hid (kindOf (w0 t) = (k : Int)) ∧ k ≤ 9 := ⟨(kindOf (w0 t)).toNat, Lib.hid (by have := kind_le (w0 t); omega), by have := kind_le (w0 t); omega⟩
 obtain ⟨KK, HK_, NK, W, HKS⟩ : ∃ a b c d, Hid (keyK (k : Int) = a ∧ hiK (k : Int) = b ∧ numK (k : Int) = c) ∧ Hid (wordK (k : Int) = d) := ⟨_, _, _, _, Lib.hid ⟨rfl, rfl, rfl⟩, Lib.hid rfl⟩
 obtain ⟨HKS, HWK⟩ := HKS
 have HC := Lib.hid (show ∀ n, candQ t n = ⟨(k : Int), if KK then a1 else ⟨#[]⟩, if HK_ then a2 else ⟨#[]⟩, if NK then n else 0⟩ from fun n => by
  unfold candQ
  rw [HK.out, HKS.out.1, HKS.out.2.1, HKS.out.2.2, ← HW1.out, ← HW2.out])
 have hki0 : (0 : Int) ≤ (k : Int) := by omega
 have hki1 : (k : Int) < 10 := by omega
 go_enter Tryd.func9, Tryd.ntmps9
 go_wp2_with fail
 refine (scan_new t u1).mono ?_
 rintro e u2 ⟨rfl, S2, hb2⟩
 obtain ⟨g, hg⟩ : ∃ g, u1.heap.size = g := ⟨_, rfl⟩
 have hgl := S2.lt
 rw [hg] at S2 hgl hrl ⊢
 have R2 := R1.next hb2
 have hw2 := below_next hb1 hb2
 clear e1 R1
 have HNX := Lib.hid (scan_next g t u2 S2 htm)
 rw [H0.out.1, H0.out.2] at HNX
 go_wp2_with fail
 refine HNX.out.mono ?_
 rintro e u3 ⟨rfl, S3, hc3⟩
 have R3 := R2.chg1 hc3 (by omega)
 have hw3 := belChg hw2 hc3 (by omega)
 have hg3 : g < u3.heap.size := S3.lt
 have HKC := Lib.hid (kind_c a0 u3 (HG.out.next hw3))
 rw [HW0.out, HK.out] at HKC
 clear HNX R2 S2 hg hb1 hb2
 go_wp2_with fail
 refine HKC.out.mono ?_
 rintro e u3' ⟨rfl, rfl⟩
 clear HKC
 obtain ⟨a, ha⟩ : ∃ a, u3.heap.size = a := ⟨_, rfl⟩
 obtain ⟨u4, e4, hs4, A4, hb4⟩ := al1 u3 ha #[.int .i64 k, .string ⟨#[]⟩, .string ⟨#[]⟩, .int .i64 0] 24
 obtain ⟨u5, e5, A5, hc5⟩ := zs3 A4
 have R4 := R3.next hb4
 have S4 := S3.next hb4
 have hw4 := below_next hw3 hb4
 have hga : g < a := by omega
 have R5 := R4.chg1 hc5 (by omega)
 have S5 := S4.chg1 hc5 (by omega)
 have hw5 := belChg hw4 hc5 (by omega)
 have c4 := A4.c4
 have c4f := A4.fz
 have c4a := c4f 1
 have c4b := c4f 2
 have c4c := c4f 3
 have c5 := A5.c4
 have g5 := (HG.out.next hw5).at9 hk9
 rw [HKS.out.1, HKS.out.2.1, HKS.out.2.2, HWK.out] at g5
 obtain ⟨f, hf⟩ : ∃ f, u5.heap.size = f := ⟨_, rfl⟩
 obtain ⟨u6, e6, -, F6, hb6⟩ := al1 u5 hf #[.string W, .bool KK, .bool HK_, .bool NK] 39
 have haf : a < f := by have := A5.lt; omega
 have R6 := R5.next hb6
 have S6 := S5.next hb6
 have A6 := A5.next hb6
 have hw6 := below_next hw5 hb6
 clear c4f hs4 R3 R4 R5 S3 S4 S5
 go_upto_region 4 with fail
 clear c4 c4a c4b c4c c5 g5 e4 e5 e6 ha hf A4 A5
 cases NK
 ·
  cases HK_
  ·
   cases KK
   ·
    have f6 := F6.c4
    have HQ := Lib.hid (show candQ t 0 = ⟨(k : Int), ⟨#[]⟩, ⟨#[]⟩, 0⟩ from by rw [HC.out]; rfl)
    have HF := Lib.hid (show FitQ ⟨(k : Int), ⟨#[]⟩, ⟨#[]⟩, 0⟩ from fit_mk hk9 emp_le emp_le (by omega))
    have HNA := Lib.hid (show numK (kindOf (w0 t)) = true → Lib.atoiAll (w2 t) = .ok 0 from (by intro h; rw [HK.out, HKS.out.2.2] at h; cases h))
    obtain ⟨p, Hp⟩ : ∃ p, Hid (askB ⟨(k : Int), ⟨#[]⟩, ⟨#[]⟩, 0⟩ = p) := ⟨_, Lib.hid rfl⟩
    obtain ⟨Y, HY⟩ : ∃ y, Hid (askT ⟨(k : Int), ⟨#[]⟩, ⟨#[]⟩, 0⟩ = y) := ⟨_, Lib.hid rfl⟩
    have HO := Lib.hid (implAskOk ⟨(k : Int), ⟨#[]⟩, ⟨#[]⟩, 0⟩ u6 HF.out (HG.out.next hw6))
    rw [Hp.out] at HO
    have q6 := A6.c4
    go_wp2_with fail
    clear q6
    refine HO.out.mono ?_
    rintro e u7 ⟨rfl, hb7⟩
    have R7 := R6.next hb7
    have A7 := A6.next hb7
    have hw7 := below_next hw6 hb7
    clear HO
    cases p
    ·
     clear A6 A7 R6
     have HB := Lib.hid (read_not HNA.out (by rw [HQ.out, Hp.out]; intro h; cases h.1))
     obtain ⟨U, eU, RU, hcU⟩ := s4 R7 (.int .i64 0) (.string ⟨#[]⟩) (.string ⟨#[]⟩) (.int .i64 0)
     have z := R7.c4
     have zf := R7.fz
     have z0 := zf 0
     have z1 := zf 1
     have z2 := zf 2
     have z3 := zf 3
     have zU := RU.c4
     have hwU := belChg hw7 hcU (by omega)
     clear zf
     go_wp2
     exact bodyPost_ret (v := .tuple #[.agg #[.int .i64 0, .string ⟨#[]⟩, .string ⟨#[]⟩, .int .i64 0], .bool false]) (by simp [results, Tryd.results9, go_sem, zU]) rfl ⟨by rw [read_no HB.out, HB.out]; rfl, hwU⟩
    ·
     have HX := Lib.hid (implAskText ⟨(k : Int), ⟨#[]⟩, ⟨#[]⟩, 0⟩ u7 HF.out (HG.out.next hw7) (HT.out.next hw7))
     rw [HY.out] at HX
     have q7 := A7.c4
     go_wp2_with fail
     clear q7
     refine HX.out.mono ?_
     rintro e u8 ⟨rfl, hb8⟩
     have R8 := R7.next hb8
     have A8 := A7.next hb8
     have hw8 := below_next hw7 hb8
     clear HX A6 A7 R6 R7
     by_cases hy : Y = t
     ·
      have HRD := Lib.hid (read_iff.2 ⟨Hp.out, HY.out.trans hy⟩)
      subst hy
      obtain ⟨U, eU, RU, hcU⟩ := s4 R8 (.int .i64 k) (.string ⟨#[]⟩) (.string ⟨#[]⟩) (.int .i64 0)
      have z := R8.c4
      have zf := R8.fz
      have z0 := zf 0
      have z1 := zf 1
      have z2 := zf 2
      have z3 := zf 3
      have zU := RU.c4
      have qA := A8.c4
      have hwU := belChg hw8 hcU (by omega)
      clear zf
      go_wp2
      exact bodyPost_ret (v := .tuple #[.agg #[.int .i64 k, .string ⟨#[]⟩, .string ⟨#[]⟩, .int .i64 0], .bool true]) (by simp [results, Tryd.results9, go_sem, zU]) rfl ⟨by rw [HRD.out.1, HRD.out.2], hwU⟩
     ·
      have b1 := str_ne hy
      have HNE := Lib.hid hy
      clear hy A8
      have HB := Lib.hid (read_not HNA.out (by rw [HQ.out]; intro h; exact HNE.out (HY.out.symm.trans h.2)))
      obtain ⟨U, eU, RU, hcU⟩ := s4 R8 (.int .i64 0) (.string ⟨#[]⟩) (.string ⟨#[]⟩) (.int .i64 0)
      have z := R8.c4
      have zf := R8.fz
      have z0 := zf 0
      have z1 := zf 1
      have z2 := zf 2
      have z3 := zf 3
      have zU := RU.c4
      have hwU := belChg hw8 hcU (by omega)
      clear zf
      go_wp2
      exact bodyPost_ret (v := .tuple #[.agg #[.int .i64 0, .string ⟨#[]⟩, .string ⟨#[]⟩, .int .i64 0], .bool false]) (by simp [results, Tryd.results9, go_sem, zU]) rfl ⟨by rw [read_no HB.out, HB.out]; rfl, hwU⟩
   ·
    have HKS1 := Lib.hid HKS.out
    have HNX := Lib.hid (scan_next g b0 u6 S6 (by unfold maxLen; omega))
    rw [H1.out.1, H1.out.2] at HNX
    have f6 := F6.c4
    have a6_ := A6.c4
    go_wp2_with fail
    clear f6 a6_
    refine HNX.out.mono ?_
    rintro e u7 ⟨rfl, S7, hc7⟩
    have R7 := R6.chg1 hc7 (by omega)
    have A7 := A6.chg1 hc7 (by omega)
    have F7 := F6.chg1 hc7 (by omega)
    have hw7 := belChg hw6 hc7 (by omega)
    clear HNX R6 A6 F6 S6
    obtain ⟨u8, e8, A8, hc8⟩ := s1 A7 (.string a1)
    have R8 := R7.chg1 hc8 (by omega)
    have S8 := S7.chg1 hc8 (by omega)
    have F8 := F7.chg1 hc8 (by omega)
    have hw8 := belChg hw7 hc8 (by omega)
    have a7 := A7.c4
    have af7 := A7.free 1
    have f7 := F8.c4
    have HQ := Lib.hid (show candQ t 0 = ⟨(k : Int), a1, ⟨#[]⟩, 0⟩ from by rw [HC.out]; rfl)
    have HF := Lib.hid (show FitQ ⟨(k : Int), a1, ⟨#[]⟩, 0⟩ from fit_mk hk9 (by omega) emp_le (by omega))
    have HNA := Lib.hid (show numK (kindOf (w0 t)) = true → Lib.atoiAll (w2 t) = .ok 0 from (by intro h; rw [HK.out, HKS.out.2.2] at h; cases h))
    obtain ⟨p, Hp⟩ : ∃ p, Hid (askB ⟨(k : Int), a1, ⟨#[]⟩, 0⟩ = p) := ⟨_, Lib.hid rfl⟩
    obtain ⟨Y, HY⟩ : ∃ y, Hid (askT ⟨(k : Int), a1, ⟨#[]⟩, 0⟩ = y) := ⟨_, Lib.hid rfl⟩
    have HO := Lib.hid (implAskOk ⟨(k : Int), a1, ⟨#[]⟩, 0⟩ u8 HF.out (HG.out.next hw8))
    rw [Hp.out] at HO
    have q8 := A8.c4
    go_wp2_with fail
    clear q8 e8
    clear a7 af7 f7 A7 R7 S7 F7
    refine HO.out.mono ?_
    rintro e u9 ⟨rfl, hb9⟩
    have R9 := R8.next hb9
    have A9 := A8.next hb9
    have hw9 := below_next hw8 hb9
    clear HO
    cases p
    ·
     clear A8 A9 R8
     have HB := Lib.hid (read_not HNA.out (by rw [HQ.out, Hp.out]; intro h; cases h.1))
     obtain ⟨U, eU, RU, hcU⟩ := s4 R9 (.int .i64 0) (.string ⟨#[]⟩) (.string ⟨#[]⟩) (.int .i64 0)
     have z := R9.c4
     have zf := R9.fz
     have z0 := zf 0
     have z1 := zf 1
     have z2 := zf 2
     have z3 := zf 3
     have zU := RU.c4
     have hwU := belChg hw9 hcU (by omega)
     clear zf
     go_wp2
     exact bodyPost_ret (v := .tuple #[.agg #[.int .i64 0, .string ⟨#[]⟩, .string ⟨#[]⟩, .int .i64 0], .bool false]) (by simp [results, Tryd.results9, go_sem, zU]) rfl ⟨by rw [read_no HB.out, HB.out]; rfl, hwU⟩
    ·
     have HX := Lib.hid (implAskText ⟨(k : Int), a1, ⟨#[]⟩, 0⟩ u9 HF.out (HG.out.next hw9) (HT.out.next hw9))
     rw [HY.out] at HX
     have q9 := A9.c4
     go_wp2_with fail
     clear q9
     refine HX.out.mono ?_
     rintro e u10 ⟨rfl, hb10⟩
     have R10 := R9.next hb10
     have A10 := A9.next hb10
     have hw10 := below_next hw9 hb10
     clear HX A8 A9 R8 R9
     by_cases hy : Y = t
     ·
      have HRD := Lib.hid (read_iff.2 ⟨Hp.out, HY.out.trans hy⟩)
      subst hy
      obtain ⟨U, eU, RU, hcU⟩ := s4 R10 (.int .i64 k) (.string a1) (.string ⟨#[]⟩) (.int .i64 0)
      have z := R10.c4
      have zf := R10.fz
      have z0 := zf 0
      have z1 := zf 1
      have z2 := zf 2
      have z3 := zf 3
      have zU := RU.c4
      have qA := A10.c4
      have hwU := belChg hw10 hcU (by omega)
      clear zf
      go_wp2
      exact bodyPost_ret (v := .tuple #[.agg #[.int .i64 k, .string a1, .string ⟨#[]⟩, .int .i64 0], .bool true]) (by simp [results, Tryd.results9, go_sem, zU]) rfl ⟨by rw [HRD.out.1, HRD.out.2], hwU⟩
     ·
      have b1 := str_ne hy
      have HNE := Lib.hid hy
      clear hy A10
      have HB := Lib.hid (read_not HNA.out (by rw [HQ.out]; intro h; exact HNE.out (HY.out.symm.trans h.2)))
      obtain ⟨U, eU, RU, hcU⟩ := s4 R10 (.int .i64 0) (.string ⟨#[]⟩) (.string ⟨#[]⟩) (.int .i64 0)
      have z := R10.c4
      have zf := R10.fz
      have z0 := zf 0
      have z1 := zf 1
      have z2 := zf 2
      have z3 := zf 3
      have zU := RU.c4
      have hwU := belChg hw10 hcU (by omega)
      clear zf
      go_wp2
      exact bodyPost_ret (v := .tuple #[.agg #[.int .i64 0, .string ⟨#[]⟩, .string ⟨#[]⟩, .int .i64 0], .bool false]) (by simp [results, Tryd.results9, go_sem, zU]) rfl ⟨by rw [read_no HB.out, HB.out]; rfl, hwU⟩
  ·
   cases KK
   ·
    exact absurd (hi_key HKS.out.2.1).1 (by rw [HKS.out.1]; simp)
   ·
    have HKS1 := Lib.hid HKS.out
    have HNX := Lib.hid (scan_next g b0 u6 S6 (by unfold maxLen; omega))
    rw [H1.out.1, H1.out.2] at HNX
    have f6 := F6.c4
    have a6_ := A6.c4
    go_wp2_with fail
    clear f6 a6_
    refine HNX.out.mono ?_
    rintro e u7 ⟨rfl, S7, hc7⟩
    have R7 := R6.chg1 hc7 (by omega)
    have A7 := A6.chg1 hc7 (by omega)
    have F7 := F6.chg1 hc7 (by omega)
    have hw7 := belChg hw6 hc7 (by omega)
    clear HNX R6 A6 F6 S6
    obtain ⟨u8, e8, A8, hc8⟩ := s1 A7 (.string a1)
    have R8 := R7.chg1 hc8 (by omega)
    have S8 := S7.chg1 hc8 (by omega)
    have F8 := F7.chg1 hc8 (by omega)
    have hw8 := belChg hw7 hc8 (by omega)
    have a7 := A7.c4
    have af7 := A7.free 1
    have f7 := F8.c4
    have HNX := Lib.hid (scan_next g b1 u8 S8 (by unfold maxLen; omega))
    rw [H2.out.1, H2.out.2] at HNX
    have f8 := F8.c4
    have a8_ := A8.c4
    go_wp2_with fail
    clear f8 a8_ e8
    clear a7 af7 f7 A7 R7 S7 F7
    refine HNX.out.mono ?_
    rintro e u9 ⟨rfl, S9, hc9⟩
    have R9 := R8.chg1 hc9 (by omega)
    have A9 := A8.chg1 hc9 (by omega)
    have F9 := F8.chg1 hc9 (by omega)
    have hw9 := belChg hw8 hc9 (by omega)
    clear HNX R8 A8 F8 S8
    obtain ⟨u10, e10, A10, hc10⟩ := s2 A9 (.string a2)
    have R10 := R9.chg1 hc10 (by omega)
    have S10 := S9.chg1 hc10 (by omega)
    have F10 := F9.chg1 hc10 (by omega)
    have hw10 := belChg hw9 hc10 (by omega)
    have a9 := A9.c4
    have af9 := A9.free 2
    have f9 := F10.c4
    have HQ := Lib.hid (show candQ t 0 = ⟨(k : Int), a1, a2, 0⟩ from by rw [HC.out]; rfl)
    have HF := Lib.hid (show FitQ ⟨(k : Int), a1, a2, 0⟩ from fit_mk hk9 (by omega) (by omega) (by omega))
    have HNA := Lib.hid (show numK (kindOf (w0 t)) = true → Lib.atoiAll (w2 t) = .ok 0 from (by intro h; rw [HK.out, HKS.out.2.2] at h; cases h))
    obtain ⟨p, Hp⟩ : ∃ p, Hid (askB ⟨(k : Int), a1, a2, 0⟩ = p) := ⟨_, Lib.hid rfl⟩
    obtain ⟨Y, HY⟩ : ∃ y, Hid (askT ⟨(k : Int), a1, a2, 0⟩ = y) := ⟨_, Lib.hid rfl⟩
    have HO := Lib.hid (implAskOk ⟨(k : Int), a1, a2, 0⟩ u10 HF.out (HG.out.next hw10))
    rw [Hp.out] at HO
    have q10 := A10.c4
    go_wp2_with fail
    clear q10 e10
    clear a9 af9 f9 A9 R9 S9 F9
    refine HO.out.mono ?_
    rintro e u11 ⟨rfl, hb11⟩
    have R11 := R10.next hb11
    have A11 := A10.next hb11
    have hw11 := below_next hw10 hb11
    clear HO
    cases p
    ·
     clear A10 A11 R10
     have HB := Lib.hid (read_not HNA.out (by rw [HQ.out, Hp.out]; intro h; cases h.1))
     obtain ⟨U, eU, RU, hcU⟩ := s4 R11 (.int .i64 0) (.string ⟨#[]⟩) (.string ⟨#[]⟩) (.int .i64 0)
     have z := R11.c4
     have zf := R11.fz
     have z0 := zf 0
     have z1 := zf 1
     have z2 := zf 2
     have z3 := zf 3
     have zU := RU.c4
     have hwU := belChg hw11 hcU (by omega)
     clear zf
     go_wp2
     exact bodyPost_ret (v := .tuple #[.agg #[.int .i64 0, .string ⟨#[]⟩, .string ⟨#[]⟩, .int .i64 0], .bool false]) (by simp [results, Tryd.results9, go_sem, zU]) rfl ⟨by rw [read_no HB.out, HB.out]; rfl, hwU⟩
    ·
     have HX := Lib.hid (implAskText ⟨(k : Int), a1, a2, 0⟩ u11 HF.out (HG.out.next hw11) (HT.out.next hw11))
     rw [HY.out] at HX
     have q11 := A11.c4
     go_wp2_with fail
     clear q11
     refine HX.out.mono ?_
     rintro e u12 ⟨rfl, hb12⟩
     have R12 := R11.next hb12
     have A12 := A11.next hb12
     have hw12 := below_next hw11 hb12
     clear HX A10 A11 R10 R11
     by_cases hy : Y = t
     ·
      have HRD := Lib.hid (read_iff.2 ⟨Hp.out, HY.out.trans hy⟩)
      subst hy
      obtain ⟨U, eU, RU, hcU⟩ := s4 R12 (.int .i64 k) (.string a1) (.string a2) (.int .i64 0)
      have z := R12.c4
      have zf := R12.fz
      have z0 := zf 0
      have z1 := zf 1
      have z2 := zf 2
      have z3 := zf 3
      have zU := RU.c4
      have qA := A12.c4
      have hwU := belChg hw12 hcU (by omega)
      clear zf
      go_wp2
      exact bodyPost_ret (v := .tuple #[.agg #[.int .i64 k, .string a1, .string a2, .int .i64 0], .bool true]) (by simp [results, Tryd.results9, go_sem, zU]) rfl ⟨by rw [HRD.out.1, HRD.out.2], hwU⟩
     ·
      have b1 := str_ne hy
      have HNE := Lib.hid hy
      clear hy A12
      have HB := Lib.hid (read_not HNA.out (by rw [HQ.out]; intro h; exact HNE.out (HY.out.symm.trans h.2)))
      obtain ⟨U, eU, RU, hcU⟩ := s4 R12 (.int .i64 0) (.string ⟨#[]⟩) (.string ⟨#[]⟩) (.int .i64 0)
      have z := R12.c4
      have zf := R12.fz
      have z0 := zf 0
      have z1 := zf 1
      have z2 := zf 2
      have z3 := zf 3
      have zU := RU.c4
      have hwU := belChg hw12 hcU (by omega)
      clear zf
      go_wp2
      exact bodyPost_ret (v := .tuple #[.agg #[.int .i64 0, .string ⟨#[]⟩, .string ⟨#[]⟩, .int .i64 0], .bool false]) (by simp [results, Tryd.results9, go_sem, zU]) rfl ⟨by rw [read_no HB.out, HB.out]; rfl, hwU⟩
 ·
  cases KK
  ·
   exact absurd (num_key HKS.out.2.2).1 (by rw [HKS.out.1]; simp)
  cases HK_
  case true => exact absurd (num_key HKS.out.2.2).2 (by rw [HKS.out.2.1]; simp)
  have HKS1 := Lib.hid HKS.out
  have HNX := Lib.hid (scan_next g b0 u6 S6 (by unfold maxLen; omega))
  rw [H1.out.1, H1.out.2] at HNX
  have f6 := F6.c4
  have a6_ := A6.c4
  go_wp2_with fail
  clear f6 a6_
  refine HNX.out.mono ?_
  rintro e u7 ⟨rfl, S7, hc7⟩
  have R7 := R6.chg1 hc7 (by omega)
  have A7 := A6.chg1 hc7 (by omega)
  have F7 := F6.chg1 hc7 (by omega)
  have hw7 := belChg hw6 hc7 (by omega)
  clear HNX R6 A6 F6 S6
  obtain ⟨u8, e8, A8, hc8⟩ := s1 A7 (.string a1)
  have R8 := R7.chg1 hc8 (by omega)
  have S8 := S7.chg1 hc8 (by omega)
  have F8 := F7.chg1 hc8 (by omega)
  have hw8 := belChg hw7 hc8 (by omega)
  have a7 := A7.c4
  have af7 := A7.free 1
  have f7 := F8.c4
  have HNX := Lib.hid (scan_next g b1 u8 S8 (by unfold maxLen; omega))
  rw [H2.out.1, H2.out.2] at HNX
  have f8 := F8.c4
  have a8_ := A8.c4
  go_wp2_with fail
  clear f8 a8_ e8
  clear a7 af7 f7 A7 R7 S7 F7
  refine HNX.out.mono ?_
  rintro e u9 ⟨rfl, S9, hc9⟩
  have R9 := R8.chg1 hc9 (by omega)
  have A9 := A8.chg1 hc9 (by omega)
  have F9 := F8.chg1 hc9 (by omega)
  have hw9 := belChg hw8 hc9 (by omega)
  clear HNX R8 A8 F8 S8
  have hv9 := HV.out.1
  have HV0 := Lib.hid (var_next ES_g hw9 HV.out.1)
  have HV1 := Lib.hid (var_next ER_g hw9 HV.out.2)
  clear hv9
  have HNK : Hid (numK (kindOf (w0 t)) = true) := Lib.hid (by rw [HK.out]; exact HKS.out.2.2)
  cases hA : Lib.atoiAll (w2 t) with
  | ok n =>
   have HA := Lib.hid hA
   have HAT := Lib.hid (Tryd.strconv_Atoi_ok a2 (by omega) n (by rw [HW2.out]; exact hA) u9)
   have hnb := Lib.atoiAll_bounds hA
   clear hA
   go_wp2_with fail
   refine HAT.out.mono ?_
   rintro e u10 ⟨rfl, hu⟩
   have hb10 : Below u9.heap.size u9 u10 := by rcases hu with rfl | ⟨tt, rfl⟩ <;> first | exact Below.refl _ _ | exact Lib.bytesWorld_below _ _ _
   have R10 := R9.next hb10
   have S10 := S9.next hb10
   have F10 := F9.next hb10
   have A10 := A9.next hb10
   have hw10 := below_next hw9 hb10
   clear HAT R9 A9 F9 S9 hu
   obtain ⟨u11, e11, A11, hc11⟩ := s3 A10 (.int .i64 n)
   have R11 := R10.chg1 hc11 (by omega)
   have S11 := S10.chg1 hc11 (by omega)
   have F11 := F10.chg1 hc11 (by omega)
   have hw11 := belChg hw10 hc11 (by omega)
   have a10 := A10.c4
   have af10 := A10.free 3
   have f10 := F11.c4
   have HQ := Lib.hid (show candQ t n = ⟨(k : Int), a1, ⟨#[]⟩, n⟩ from by rw [HC.out]; rfl)
   have HF := Lib.hid (show FitQ ⟨(k : Int), a1, ⟨#[]⟩, n⟩ from fit_mk hk9 (by omega) emp_le hnb)
   have HNA := Lib.hid (show numK (kindOf (w0 t)) = true → Lib.atoiAll (w2 t) = .ok n from fun _ => HA.out)
   obtain ⟨p, Hp⟩ : ∃ p, Hid (askB ⟨(k : Int), a1, ⟨#[]⟩, n⟩ = p) := ⟨_, Lib.hid rfl⟩
   obtain ⟨Y, HY⟩ : ∃ y, Hid (askT ⟨(k : Int), a1, ⟨#[]⟩, n⟩ = y) := ⟨_, Lib.hid rfl⟩
   have HO := Lib.hid (implAskOk ⟨(k : Int), a1, ⟨#[]⟩, n⟩ u11 HF.out (HG.out.next hw11))
   rw [Hp.out] at HO
   have q11 := A11.c4
   go_wp2_with fail
   clear q11 e11
   clear a10 af10 f10 A10 R10 S10 F10
   refine HO.out.mono ?_
   rintro e u12 ⟨rfl, hb12⟩
   have R12 := R11.next hb12
   have A12 := A11.next hb12
   have hw12 := below_next hw11 hb12
   clear HO
   cases p
   ·
    clear A11 A12 R11
    have HB := Lib.hid (read_not HNA.out (by rw [HQ.out, Hp.out]; intro h; cases h.1))
    obtain ⟨U, eU, RU, hcU⟩ := s4 R12 (.int .i64 0) (.string ⟨#[]⟩) (.string ⟨#[]⟩) (.int .i64 0)
    have z := R12.c4
    have zf := R12.fz
    have z0 := zf 0
    have z1 := zf 1
    have z2 := zf 2
    have z3 := zf 3
    have zU := RU.c4
    have hwU := belChg hw12 hcU (by omega)
    clear zf
    go_wp2
    exact bodyPost_ret (v := .tuple #[.agg #[.int .i64 0, .string ⟨#[]⟩, .string ⟨#[]⟩, .int .i64 0], .bool false]) (by simp [results, Tryd.results9, go_sem, zU]) rfl ⟨by rw [read_no HB.out, HB.out]; rfl, hwU⟩
   ·
    have HX := Lib.hid (implAskText ⟨(k : Int), a1, ⟨#[]⟩, n⟩ u12 HF.out (HG.out.next hw12) (HT.out.next hw12))
    rw [HY.out] at HX
    have q12 := A12.c4
    go_wp2_with fail
    clear q12
    refine HX.out.mono ?_
    rintro e u13 ⟨rfl, hb13⟩
    have R13 := R12.next hb13
    have A13 := A12.next hb13
    have hw13 := below_next hw12 hb13
    clear HX A11 A12 R11 R12
    by_cases hy : Y = t
    ·
     have HRD := Lib.hid (read_iff.2 ⟨Hp.out, HY.out.trans hy⟩)
     subst hy
     obtain ⟨U, eU, RU, hcU⟩ := s4 R13 (.int .i64 k) (.string a1) (.string ⟨#[]⟩) (.int .i64 n)
     have z := R13.c4
     have zf := R13.fz
     have z0 := zf 0
     have z1 := zf 1
     have z2 := zf 2
     have z3 := zf 3
     have zU := RU.c4
     have qA := A13.c4
     have hwU := belChg hw13 hcU (by omega)
     clear zf
     go_wp2
     exact bodyPost_ret (v := .tuple #[.agg #[.int .i64 k, .string a1, .string ⟨#[]⟩, .int .i64 n], .bool true]) (by simp [results, Tryd.results9, go_sem, zU]) rfl ⟨by rw [HRD.out.1, HRD.out.2], hwU⟩
    ·
     have b1 := str_ne hy
     have HNE := Lib.hid hy
     clear hy A13
     have HB := Lib.hid (read_not HNA.out (by rw [HQ.out]; intro h; exact HNE.out (HY.out.symm.trans h.2)))
     obtain ⟨U, eU, RU, hcU⟩ := s4 R13 (.int .i64 0) (.string ⟨#[]⟩) (.string ⟨#[]⟩) (.int .i64 0)
     have z := R13.c4
     have zf := R13.fz
     have z0 := zf 0
     have z1 := zf 1
     have z2 := zf 2
     have z3 := zf 3
     have zU := RU.c4
     have hwU := belChg hw13 hcU (by omega)
     clear zf
     go_wp2
     exact bodyPost_ret (v := .tuple #[.agg #[.int .i64 0, .string ⟨#[]⟩, .string ⟨#[]⟩, .int .i64 0], .bool false]) (by simp [results, Tryd.results9, go_sem, zU]) rfl ⟨by rw [read_no HB.out, HB.out]; rfl, hwU⟩
  | «syntax» =>
   have HBAD := Lib.hid (show ∀ n, Lib.atoiAll (w2 t) ≠ .ok n from fun n h => by rw [hA] at h; cases h)
   have HAT := Lib.hid (Tryd.strconv_Atoi_syntax_var a2 (by omega) (by rw [HW2.out]; exact hA) p0 v0 u9 HV0.out)
   clear hA
   go_wp2_with fail
   refine HAT.out.mono ?_
   rintro e u10 ⟨N, rfl, -, -, hb10⟩
   have R10 := R9.next hb10
   have hw10 := below_next hw9 hb10
   clear HAT R9 A9 F9 S9
   have HB := Lib.hid (read_bad HNK.out HBAD.out)
   obtain ⟨U, eU, RU, hcU⟩ := s4 R10 (.int .i64 0) (.string ⟨#[]⟩) (.string ⟨#[]⟩) (.int .i64 0)
   have z := R10.c4
   have zf := R10.fz
   have z0 := zf 0
   have z1 := zf 1
   have z2 := zf 2
   have z3 := zf 3
   have zU := RU.c4
   have hwU := belChg hw10 hcU (by omega)
   clear zf
   go_wp2
   exact bodyPost_ret (v := .tuple #[.agg #[.int .i64 0, .string ⟨#[]⟩, .string ⟨#[]⟩, .int .i64 0], .bool false]) (by simp [results, Tryd.results9, go_sem, zU]) rfl ⟨by rw [read_no HB.out, HB.out]; rfl, hwU⟩
  | range =>
   have HBAD := Lib.hid (show ∀ n, Lib.atoiAll (w2 t) ≠ .ok n from fun n h => by rw [hA] at h; cases h)
   have HAT := Lib.hid (Tryd.strconv_Atoi_range_var a2 (by omega) (by rw [HW2.out]; exact hA) p1 v1 u9 HV1.out)
   clear hA
   go_wp2_with fail
   refine HAT.out.mono ?_
   rintro e u10 ⟨N, rfl, -, -, hb10⟩
   have R10 := R9.next hb10
   have hw10 := below_next hw9 hb10
   clear HAT R9 A9 F9 S9
   have HB := Lib.hid (read_bad HNK.out HBAD.out)
   obtain ⟨U, eU, RU, hcU⟩ := s4 R10 (.int .i64 0) (.string ⟨#[]⟩) (.string ⟨#[]⟩) (.int .i64 0)
   have z := R10.c4
   have zf := R10.fz
   have z0 := zf 0
   have z1 := zf 1
   have z2 := zf 2
   have z3 := zf 3
   have zU := RU.c4
   have hwU := belChg hw10 hcU (by omega)
   clear zf
   go_wp2
   exact bodyPost_ret (v := .tuple #[.agg #[.int .i64 0, .string ⟨#[]⟩, .string ⟨#[]⟩, .int .i64 0], .bool false]) (by simp [results, Tryd.results9, go_sem, zU]) rfl ⟨by rw [read_no HB.out, HB.out]; rfl, hwU⟩
end Go.Proofs.YtjgfbcmgnjgapaaDoor
