/- The program: what one asks as a text. -/
import Derived.Test.YtjgfbcmgnjgapaaDoorAkO
import Derived.Test.YtjgfbcmgnjgapaaDoorAkS
import Derived.Test.YtjgfbcmgnjgapaaDoorSh
import Derived.Lib.LaidTab
import Derived.Deep.DeepCutAuto
namespace Go.Proofs.YtjgfbcmgnjgapaaDoor
open Go.RowKit
set_option linter.unusedVariables false
set_option maxRecDepth 100000

theorem lib_dec : (n : Nat) → n ≤ 999 → Lib.decDigits n = dec3 n := by
 have one : ∀ n, n < 10 → Lib.decDigits n = dec3 n := fun n h => by rw [Lib.decDigits_one h, dec3_small h]; rfl
 have step : ∀ n, 10 ≤ n → n ≤ 999 → Lib.decDigits (n / 10) = dec3 (n / 10) → Lib.decDigits n = dec3 n := fun n h h9 e => by
  rw [Lib.decDigits, dif_neg (by omega), e, dec3_step h h9]; rfl
 have two : ∀ n, n < 100 → Lib.decDigits n = dec3 n := fun n h => by
  by_cases h1 : n < 10
  ·
   exact one n h1
  ·
   exact step n (by omega) (by omega) (one _ (by omega))
 intro n h
 by_cases h1 : n < 10
 ·
  exact one n h1
 ·
  exact step n (by omega) h (two _ (by omega))
theorem lib_itoa {n : Int} (h0 : -999 ≤ n) (h1 : n ≤ 999) : Lib.itoa n = decT n := by
 unfold Lib.itoa decT
 split
 ·
  rw [lib_dec _ (by omega), show n.natAbs = (-n).toNat from by omega]
 ·
  rw [lib_dec _ (by omega)]
abbrev TabP (w : World) : Prop := Lib.TabIs Tryd.prog w "internal/strconv.uint64pow10" .u64 Lib.pow10Tab
theorem p_g : Tryd.prog.globalNamed "internal/strconv.uint64pow10" = some 3 := by kernel_rfl
theorem TabP.next {w w' : World} (h : TabP w) (hb : Below w.heap.size w w') : TabP w' := by
 unfold TabP Lib.TabIs World.var? at h ⊢
 simp only [p_g, Option.bind_some] at h ⊢
 have hlt : 3 < w.heap.size := by
  rcases Nat.lt_or_ge 3 w.heap.size with h' | h'
  ·
   exact h'
  ·
   simp [Array.getElem?_eq_none h'] at h
 rw [hb.block _ hlt]
 exact h
theorem below_grow (w : World) (k : Nat) (os : Array Obj) : Below w.heap.size w (Sort.grow (w.drewN k) os) := by
 have hd := below_drewN (Below.refl w.heap.size w) k
 refine ⟨hd.os, hd.tape, hd.output, ?_, fun i hi => ?_⟩
 ·
  have := hd.size
  show w.heap.size ≤ ((w.drewN k).heap ++ os).size
  rw [Array.size_append]
  omega
 ·
  show ((w.drewN k).heap ++ os)[i]? = _
  rw [Array.getElem?_append_left (Nat.lt_of_lt_of_le hi hd.size)]
  exact hd.block i hi
theorem implItoa (n : Int) (w : World) (h0 : -999 ≤ n) (h1 : n ≤ 999) (T : TabP w) : Calls Tryd.prog 19 #[.int .i64 n] w fun e w' => e = .returned (.string (decB n)) ∧ Below w.heap.size w w' := by
 refine (Tryd.strconv_Itoa n (by omega) (by omega) w T).mono ?_
 rintro e w' ⟨rfl, k, os, rfl⟩
 refine ⟨?_, below_grow w k os⟩
 rw [lib_itoa h0 h1]
 rfl
set_option maxHeartbeats 4000000 in
theorem implAskText (q : Q4) (w : World) (hq : FitQ q) (G : Glf w) (T : TabP w) :
  Calls Tryd.prog 8 #[.agg #[.int .i64 q.kind, .string q.key, .string q.hi, .int .i64 q.num]] w fun e w' => e = .returned (.string (askT q)) ∧ Below w.heap.size w w' := by
 obtain ⟨w1, e1, -, B1, hb1⟩ := al1 w rfl #[.int .i64 q.kind, .string q.key, .string q.hi, .int .i64 q.num] 24
 obtain ⟨g, hg⟩ : ∃ g, w.heap.size = g := ⟨_, rfl⟩
 rw [hg] at B1
 obtain ⟨p, HP⟩ : ∃ p, Hid (askB q = p) := ⟨_, Lib.hid rfl⟩
 obtain ⟨x, HX⟩ : ∃ x, Hid (askT q = x) := ⟨_, Lib.hid rfl⟩
 rw [HX.out]
 have HG := Lib.hid G
 have HT := Lib.hid T
 clear G T
 have q1 := B1.c4
 go_enter Tryd.func8, Tryd.ntmps8
 go_wp2_with fail
 refine (implAskOk q w1 hq (HG.out.next hb1)).mono ?_
 rw [HP.out]
 rintro e w2 ⟨rfl, hb2⟩
 clear e1 q1
 have hw2 := below_next hb1 hb2
 have B2 := B1.next hb2
 cases p
 ·
  have hx0 : x = ⟨#[]⟩ := by rw [← HX.out]; unfold askT; rw [HP.out]; rfl
  subst hx0
  go_wp2
  go_ret
  exact ⟨rfl, hw2⟩
 ·
  obtain ⟨k1, k9, hk, hh, hn⟩ := askB_iff.1 HP.out
  have HXX := Lib.hid (show x = text3 q from by rw [← HX.out]; unfold askT; rw [HP.out]; rfl)
  have s1 := keyQ_size hk
  have s2 := hiQ_size hh
  unfold numQ at hn
  obtain ⟨kind, key, hi, num⟩ := q
  dsimp only at *
  obtain ⟨k, rfl⟩ : ∃ k : Nat, kind = k := ⟨kind.toNat, by omega⟩
  unfold text3 text2 text1 spB at HXX
  dsimp only at HXX
  have g0 := (HG.out.next hw2).at_ (k := k) (by omega) (by omega)
  obtain ⟨KK, HK, NK, W, HH⟩ : ∃ a b c d, Hid (keyK (k : Int) = a ∧ hiK (k : Int) = b ∧ numK (k : Int) = c ∧ wordK (k : Int) = d) := ⟨_, _, _, _, Lib.hid ⟨rfl, rfl, rfl, rfl⟩⟩
  have hws : W.size ≤ 5 := by rw [← HH.out.2.2.2]; exact word_size _
  rw [HH.out.1, HH.out.2.1, HH.out.2.2.1, HH.out.2.2.2] at HXX g0
  rw [HH.out.2.2.1] at hn
  have HN := Lib.hid hn
  obtain ⟨w3, e3, -, Bf, hb3⟩ := al1 w2 rfl #[.string W, .bool KK, .bool HK, .bool NK] 39
  obtain ⟨g', hg'⟩ : ∃ g, w2.heap.size = g := ⟨_, rfl⟩
  rw [hg'] at Bf
  have B3 := B2.next hb3
  have hw3 := below_next hw2 hb3
  have q2 := B2.c4
  have q3 := B3.c4
  have f3 := Bf.c4
  have hi0 : (0 : Int) ≤ (k : Int) := by omega
  have hi1 : (k : Int) < 10 := by omega
  have HT3 := Lib.hid (HT.out.next hw3)
  clear hk hh hn B1 HG HT
  have y1 : ¬ (9223372036854775807 < 1 + key.size) := by omega
  have y2 : ¬ (9223372036854775807 < W.size + (1 + key.size)) := by omega
  have y3 : ¬ (9223372036854775807 < 1 + hi.size) := by omega
  have y4 : ¬ (9223372036854775807 < W.size + (1 + hi.size)) := by omega
  have y5 : ¬ (9223372036854775807 < W.size + (1 + key.size) + (1 + hi.size)) := by omega
  have fin : ∀ {V : World} {y : ByteArray}, Hid (x = y) → Below w.heap.size w V → (Ending.returned (.string y) = .returned (.string x) ∧ Below w.heap.size w V) := fun h hb => ⟨by rw [h.out], hb⟩
  go_upto_region 4 with fail
  clear e3 q2
  cases NK
  ·
   cases KK
   ·
    cases HK
    ·
     have HY := Lib.hid (show x = W from by have := HXX.out; simpa using this)
     clear HXX
     go_wp2
     go_ret
     exact fin HY hw3
    ·
     have HY := Lib.hid (show x = W ++ (⟨#[32]⟩ ++ hi) from by have := HXX.out; simpa [ByteArray.append_assoc] using this)
     clear HXX
     go_wp2
     go_ret
     exact fin HY hw3
   ·
    cases HK
    ·
     have HY := Lib.hid (show x = W ++ (⟨#[32]⟩ ++ key) from by have := HXX.out; simpa [ByteArray.append_assoc] using this)
     clear HXX
     go_wp2
     go_ret
     exact fin HY hw3
    ·
     have HY := Lib.hid (show x = W ++ (⟨#[32]⟩ ++ key) ++ (⟨#[32]⟩ ++ hi) from by have := HXX.out; simpa [ByteArray.append_assoc] using this)
     clear HXX
     go_wp2
     go_ret
     exact fin HY hw3
  ·
   have hnb : numB num = true := by have := HN.out; simpa using this
   have hn9 : -999 ≤ num ∧ num ≤ 999 := by unfold numB at hnb; simpa using hnb
   obtain ⟨D, HD, ds⟩ : ∃ D, Hid (decB num = D) ∧ D.size ≤ 4 := ⟨_, Lib.hid rfl, dec_size hnb⟩
   rw [HD.out] at HXX
   have HC := Lib.hid (implItoa num w3 hn9.1 hn9.2 HT3.out)
   rw [HD.out] at HC
   have y6 : ¬ (9223372036854775807 < 1 + D.size) := by omega
   have y7 : ¬ (9223372036854775807 < W.size + (1 + D.size)) := by omega
   have y8 : ¬ (9223372036854775807 < W.size + (1 + hi.size) + (1 + D.size)) := by omega
   have y9 : ¬ (9223372036854775807 < W.size + (1 + key.size) + (1 + D.size)) := by omega
   have ya : ¬ (9223372036854775807 < W.size + (1 + key.size) + (1 + hi.size) + (1 + D.size)) := by omega
   clear hnb hn9
   cases KK
   ·
    cases HK
    ·
     have HY := Lib.hid (show x = W ++ (⟨#[32]⟩ ++ D) from by have := HXX.out; simpa [ByteArray.append_assoc] using this)
     clear HXX
     go_wp2_with fail
     refine HC.out.mono ?_
     rintro e w5 ⟨rfl, hb5⟩
     go_wp2
     go_ret
     exact fin HY (below_next hw3 hb5)
    ·
     have HY := Lib.hid (show x = W ++ (⟨#[32]⟩ ++ hi) ++ (⟨#[32]⟩ ++ D) from by have := HXX.out; simpa [ByteArray.append_assoc] using this)
     clear HXX
     go_wp2_with fail
     refine HC.out.mono ?_
     rintro e w5 ⟨rfl, hb5⟩
     go_wp2
     go_ret
     exact fin HY (below_next hw3 hb5)
   ·
    cases HK
    ·
     have HY := Lib.hid (show x = W ++ (⟨#[32]⟩ ++ key) ++ (⟨#[32]⟩ ++ D) from by have := HXX.out; simpa [ByteArray.append_assoc] using this)
     clear HXX
     go_wp2_with fail
     refine HC.out.mono ?_
     rintro e w5 ⟨rfl, hb5⟩
     go_wp2
     go_ret
     exact fin HY (below_next hw3 hb5)
    ·
     have HY := Lib.hid (show x = W ++ (⟨#[32]⟩ ++ key) ++ (⟨#[32]⟩ ++ hi) ++ (⟨#[32]⟩ ++ D) from by have := HXX.out; simpa [ByteArray.append_assoc] using this)
     clear HXX
     go_wp2_with fail
     refine HC.out.mono ?_
     rintro e w5 ⟨rfl, hb5⟩
     go_wp2
     go_ret
     exact fin HY (below_next hw3 hb5)
end Go.Proofs.YtjgfbcmgnjgapaaDoor
