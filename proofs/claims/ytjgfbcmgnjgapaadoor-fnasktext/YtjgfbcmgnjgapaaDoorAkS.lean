/- The model: numbers in decimals, words, what one asks as a text. -/
import Derived.Test.YtjgfbcmgnjgapaaDoorAkT
namespace Go.Proofs.YtjgfbcmgnjgapaaDoor
open Go.RowKit
set_option linter.unusedVariables false
set_option maxRecDepth 100000

theorem dec3_small {m : Nat} (h : m < 10) : dec3 m = [dg m] := by unfold dec3; rw [if_pos h]
theorem dec3_step {m : Nat} (h : 10 ≤ m) (h9 : m ≤ 999) : dec3 m = dec3 (m / 10) ++ [dg (m % 10)] := by
 unfold dec3
 rw [if_neg (by omega)]
 by_cases h1 : m < 100
 ·
  rw [if_pos h1, if_pos (by omega)]; rfl
 ·
  rw [if_neg h1, if_neg (by omega), if_pos (by omega), show m / 10 / 10 = m / 100 from by omega]; rfl
theorem bb_app (a b : List UInt8) : (⟨a.toArray⟩ : ByteArray) ++ ⟨b.toArray⟩ = ⟨(a ++ b).toArray⟩ := by
 apply ByteArray.ext
 rw [ByteArray.data_append]
 simp
theorem bb_cons (c : UInt8) (T : ByteArray) : (⟨(#[c] : Array UInt8)⟩ : ByteArray) ++ T = ⟨(c :: T.data.toList).toArray⟩ := by
 apply ByteArray.ext
 rw [ByteArray.data_append]
 simp
/-- what is still to be written of n, when t is written -/
def DecAt (n m : Nat) (T : ByteArray) : Prop := dec3 n = dec3 m ++ T.data.toList ∧ T.size ≤ 2 ∧ m ≤ 999 ∧ (T.size = 1 → m ≤ 99) ∧ (T.size = 2 → m ≤ 9)
theorem DecAt.start {n : Nat} (h : n ≤ 999) : DecAt n n ⟨#[]⟩ := ⟨by simp, by decide, h, fun h => absurd h (by decide), fun h => absurd h (by decide)⟩
theorem DecAt.step {n m : Nat} {T : ByteArray} (h : DecAt n m T) (h9 : 9 < m) : DecAt n (m / 10) ((⟨#[48 + UInt8.ofNat (m % 10)]⟩ : ByteArray) ++ T) := by
 obtain ⟨h1, h2, h3, h4, h5⟩ := h
 have hs : ((⟨#[48 + UInt8.ofNat (m % 10)]⟩ : ByteArray) ++ T).size = 1 + T.size := by rw [ByteArray.size_append]; rfl
 have hd : dg (m % 10) = 48 + UInt8.ofNat (m % 10) := by unfold dg; rw [UInt8.ofNat_add]; rfl
 refine ⟨?_, by omega, by omega, fun h => by omega, fun h => by omega⟩
 rw [h1, dec3_step (by omega) h3, hd, List.append_assoc]
 rw [bb_cons]
 simp
theorem DecAt.done {n m : Nat} {T : ByteArray} (h : DecAt n m T) (h9 : ¬ 9 < m) : (⟨#[48 + UInt8.ofNat m]⟩ : ByteArray) ++ T = ⟨(dec3 n).toArray⟩ := by
 have hd : dg m = 48 + UInt8.ofNat m := by unfold dg; rw [UInt8.ofNat_add]; rfl
 rw [h.1, dec3_small (by omega), hd, bb_cons]
 rfl
set_option maxHeartbeats 4000000 in
theorem specDecP (n : Nat) (w : World) (hn : n ≤ 999) : Calls Tryd.prog 25 #[.int .i64 n] w fun e w' => e = .returned (.string ⟨(dec3 n).toArray⟩) ∧ Below w.heap.size w w' := by
 have h1 : ¬ ((n : Int) < -9223372036854775807) := by omega
 have h2 : ¬ ((n : Int) < 0) := by omega
 go_enter Tryd.func25, Tryd.ntmps25
 go_wp2
 go_loopw [0, 3] (fun i o W => ∃ (m : Nat) (T : ByteArray), i = .int .i64 m ∧ o = .string T ∧ DecAt n m T ∧ Below w.heap.size w W) (fun i _ _ => (intOf i).toNat)
 case atStart => exact ⟨n, ⟨#[]⟩, rfl, rfl, DecAt.start hn, Below.refl _ _⟩
 case round =>
  obtain ⟨m, T, rfl, rfl, hD, hb⟩ := hrel
  have hT2 := hD.2.1
  have hT1 : 9 < m → T.size ≤ 1 := fun h => by have := hD.2.2.2.2; omega
  have HD := Lib.hid hD
  have hb2 := hb.size
  clear hD
  by_cases h9 : 9 < m
  ·
   have h9i : (9 : Int) < (m : Int) := by omega
   have hcv := oneByte (48 + m % 10) wr (by omega)
   rw [show ((48 + m % 10 : Nat) : Int) = 48 + (m : Int) % 10 from by omega] at hcv
   have r1 : (m : Int).tmod 10 = (m : Int) % 10 := by rw [← Int.tmod_eq_emod_of_nonneg (by omega)]
   have r2 : (m : Int).tdiv 10 = ((m / 10 : Nat) : Int) := by rw [Int.tdiv_eq_ediv_of_nonneg (by omega)]; omega
   have hm9 := HD.out.2.2.1
   have r3 : RowKit.wrap64 ((m : Int) / 10) = ((m / 10 : Nat) : Int) := by rw [IntWalk.wrap64_in _ (by omega)]; omega
   have r4 : (((m / 10 : Nat) : Int)).toNat < m := by omega
   have hw8 : IntKind.u8.wrap (48 + (m : Int) % 10) = 48 + (m : Int) % 10 := by rw [IntKind.wrap_u8]; omega
   have hT1' := hT1 h9
   have HS := Lib.hid (HD.out.step h9)
   have HB := Lib.hid (hb.alloc (o := .cells #[.int .u8 (48 + (m : Int) % 10)] 5) hb2)
   clear hT1 hb
   go_wp2
   go_roundw
   case rel => exact ⟨m / 10, _, congrArg (Value.int .i64) (by omega), rfl, HS.out, HB.out⟩
   case measure => show ((m : Int) / 10).toNat < (m : Int).toNat; omega
  ·
   have h9i : ¬ (9 : Int) < (m : Int) := by omega
   have hcv := oneByte (48 + m) wr (by omega)
   rw [show ((48 + m : Nat) : Int) = 48 + (m : Int) from by omega] at hcv
   have hw8 : IntKind.u8.wrap (48 + (m : Int)) = 48 + (m : Int) := by rw [IntKind.wrap_u8]; omega
   have HS := Lib.hid (HD.out.done h9)
   clear hT1
   go_wp2
   go_ret
   exact ⟨ret_s HS.out, hb.alloc hb2 _⟩
set_option maxHeartbeats 4000000 in
theorem specDec (n : Int) (w : World) (h0 : -999 ≤ n) (h1 : n ≤ 999) : Calls Tryd.prog 25 #[.int .i64 n] w fun e w' => e = .returned (.string (decB n)) ∧ Below w.heap.size w w' := by
 by_cases hn : n < 0
 ·
  obtain ⟨k, hk, rfl⟩ : ∃ k : Nat, k ≤ 999 ∧ n = -(k : Int) := ⟨n.natAbs, by omega, by omega⟩
  have HD := Lib.hid (show (⟨#[45]⟩ : ByteArray) ++ ⟨(dec3 k).toArray⟩ = decB (-(k : Int)) from by
   unfold decB decT
   rw [if_pos hn, show (- -(k : Int)).toNat = k from by omega, bb_cons])
  obtain ⟨D, HDD, hs⟩ : ∃ D : ByteArray, Hid ((⟨(dec3 k).toArray⟩ : ByteArray) = D) ∧ D.size ≤ 3 := ⟨_, Lib.hid rfl, by
   show (dec3 k).toArray.size ≤ 3
   rw [List.size_toArray]
   unfold dec3
   split
   ·
    simp
   ·
    split <;> simp⟩
  have HC := Lib.hid (fun W => specDecP k W hk)
  rw [HDD.out] at HC HD
  have h2 : ¬ (-(k : Int) < -9223372036854775807) := by omega
  have d1 : decide (-(k : Int) < 0) = true := decide_eq_true hn
  go_enter Tryd.func25, Tryd.ntmps25
  go_wp2_with fail
  refine (HC.out _).mono ?_
  rintro e w' ⟨rfl, hb⟩
  go_wp2
  go_ret
  exact ⟨ret_s HD.out, hb⟩
 ·
  obtain ⟨k, hk, rfl⟩ : ∃ k : Nat, k ≤ 999 ∧ n = (k : Int) := ⟨n.toNat, by omega, by omega⟩
  have he : decB (k : Int) = ⟨(dec3 k).toArray⟩ := by unfold decB decT; rw [if_neg hn]; rfl
  rw [he]
  exact specDecP k w hk
theorem ret_s' {x y : ByteArray} (h : x = y) : Ending.returned (.string x) = Ending.returned (.string y) := by rw [h]
set_option maxHeartbeats 4000000 in
theorem specWord (k : Int) (w : World) (h0 : 0 ≤ k) (h9 : k ≤ 9) : Calls Tryd.prog 24 #[.int .i64 k] w fun e w' => e = .returned (.string (wordK k)) ∧ Below w.heap.size w w' := by
 obtain ⟨V, eV, -, B, hb⟩ := al1 w rfl #[.string ⟨#[]⟩, .string ⟨#[103, 101, 116]⟩, .string ⟨#[97, 108, 108]⟩, .string ⟨#[115, 117, 109]⟩, .string ⟨#[112, 117, 116]⟩, .string ⟨#[97, 100, 100]⟩, .string ⟨#[99, 117, 116]⟩, .string ⟨#[98, 101, 103, 105, 110]⟩, .string ⟨#[101, 110, 100]⟩, .string ⟨#[117, 110, 100, 111]⟩] 9
 obtain ⟨n, rfl⟩ : ∃ n : Nat, k = (n : Int) := ⟨k.toNat, by omega⟩
 have hn : n ≤ 9 := by omega
 have hc : V.cell? ⟨w.heap.size, n, none⟩ = some (.string (wordK n)) := by
  rw [B.cell n]
  have : n = 0 ∨ n = 1 ∨ n = 2 ∨ n = 3 ∨ n = 4 ∨ n = 5 ∨ n = 6 ∨ n = 7 ∨ n = 8 ∨ n = 9 := by omega
  rcases this with rfl | rfl | rfl | rfl | rfl | rfl | rfl | rfl | rfl | rfl <;> rfl
 obtain ⟨x, HX⟩ : ∃ x, Hid (wordK n = x) := ⟨_, Lib.hid rfl⟩
 rw [HX.out] at hc ⊢
 have h10 : (n : Int) < 10 := by omega
 clear B
 go_enter Tryd.func24, Tryd.ntmps24
 go_wp2
 go_ret
 exact ⟨rfl, hb⟩
theorem keyQ_size {q : Q4} (h : keyQ q = true) : q.key.size ≤ 100 := by
 unfold keyQ at h
 split at h
 ·
  unfold keyB at h; simp only [Bool.and_eq_true, decide_eq_true_eq] at h; omega
 ·
  simp only [decide_eq_true_eq] at h; omega
theorem hiQ_size {q : Q4} (h : hiQ q = true) : q.hi.size ≤ 100 := by
 unfold hiQ at h
 split at h
 ·
  unfold keyB at h; simp only [Bool.and_eq_true, decide_eq_true_eq] at h; omega
 ·
  simp only [decide_eq_true_eq] at h; omega
theorem word_size (k : Int) : (wordK k).size ≤ 5 := by
 unfold wordK
 repeat' split
 all_goals decide
theorem dec_size {n : Int} (h : numB n = true) : (decB n).size ≤ 4 := by
 have := (num_good h).2.2.2
 show (decT n).toArray.size ≤ 4
 rw [List.size_toArray]
 exact this
set_option maxHeartbeats 4000000 in
theorem specAskText (q : Q4) (w : World) (hq : FitQ q) :
  Calls Tryd.prog 10 #[.agg #[.int .i64 q.kind, .string q.key, .string q.hi, .int .i64 q.num]] w fun e w' => e = .returned (.string (askT q)) ∧ Below w.heap.size w w' := by
 obtain ⟨w1, e1, -, B1, hb1⟩ := al1 w rfl #[.int .i64 q.kind, .string q.key, .string q.hi, .int .i64 q.num] 24
 obtain ⟨g, hg⟩ : ∃ g, w.heap.size = g := ⟨_, rfl⟩
 rw [hg] at B1
 obtain ⟨p, HP⟩ : ∃ p, Hid (askB q = p) := ⟨_, Lib.hid rfl⟩
 obtain ⟨x, HX⟩ : ∃ x, Hid (askT q = x) := ⟨_, Lib.hid rfl⟩
 rw [HX.out]
 have q1 := B1.c4
 go_enter Tryd.func10, Tryd.ntmps10
 go_wp2_with fail
 refine (specAskOk q w1 hq).mono ?_
 rw [HP.out]
 rintro e w2 ⟨rfl, hb2⟩
 clear e1 q1
 have hw2 := below_next hb1 hb2
 have B2 := B1.next hb2
 cases p
 ·
  have hx0 : x = ⟨#[]⟩ := by rw [← HX.out]; unfold askT; rw [HP.out]; rfl
  subst hx0
  go_wp2
  go_ret
  exact ⟨rfl, hw2⟩
 ·
  obtain ⟨k1, k9, hk, hh, hn⟩ := askB_iff.1 HP.out
  have HXX := Lib.hid (show x = text3 q from by rw [← HX.out]; unfold askT; rw [HP.out]; rfl)
  unfold text3 text2 text1 spB at HXX
  unfold numQ at hn
  obtain ⟨KK, HK, NK, HH⟩ : ∃ a b c, Hid (keyK q.kind = a ∧ hiK q.kind = b ∧ numK q.kind = c) := ⟨_, _, _, Lib.hid ⟨rfl, rfl, rfl⟩⟩
  obtain ⟨W, HW, hws⟩ : ∃ W, Hid (wordK q.kind = W) ∧ W.size ≤ 5 := ⟨_, Lib.hid rfl, word_size _⟩
  rw [HH.out.1, HH.out.2.1, HH.out.2.2, HW.out] at HXX
  rw [HH.out.2.2] at hn
  have HN := Lib.hid hn
  have s1 := keyQ_size hk
  have s2 := hiQ_size hh
  have HS := Lib.hid (fun V => shape_c q.kind V)
  have HWd := Lib.hid (fun V => specWord q.kind V (by omega) k9)
  rw [HH.out.1, HH.out.2.1, HH.out.2.2] at HS
  rw [HW.out] at HWd
  have q2 := B2.c4
  clear hk hh hn B1 k1 k9
  go_wp2_with fail
  refine (HS.out _).mono ?_
  rintro e w3 ⟨rfl, hb3⟩
  clear q2
  have hw3 := below_next hw2 hb3
  have B3 := B2.next hb3
  have q3 := B3.c4
  go_wp2_with fail
  refine (HWd.out _).mono ?_
  rintro e w4 ⟨rfl, hb4⟩
  clear q3 B2
  have hw4 := below_next hw3 hb4
  have B4 := B3.next hb4
  have q4 := B4.c4
  clear B3 hb2 hb3 hb4 hw2 hw3 hb1
  have y1 : ¬ (9223372036854775807 < W.size + 1) := by omega
  have y2 : ¬ (9223372036854775807 < W.size + 1 + q.key.size) := by omega
  have y3 : ¬ (9223372036854775807 < W.size + 1 + q.key.size + 1) := by omega
  have y4 : ¬ (9223372036854775807 < W.size + 1 + q.key.size + 1 + q.hi.size) := by omega
  have y5 : ¬ (9223372036854775807 < W.size + 1 + q.hi.size) := by omega
  have fin : ∀ {V : World} {y : ByteArray}, Hid (x = y) → Below w.heap.size w V → (Ending.returned (.string y) = .returned (.string x) ∧ Below w.heap.size w V) := fun h hb => ⟨by rw [h.out], hb⟩
  cases NK
  ·
   cases KK
   ·
    cases HK
    ·
     have HY := Lib.hid (show x = W from by have := HXX.out; simpa using this)
     clear HXX
     go_wp2
     go_ret
     exact fin HY hw4
    ·
     have HY := Lib.hid (show x = W ++ ⟨#[32]⟩ ++ q.hi from by have := HXX.out; simpa using this)
     clear HXX
     go_wp2
     go_ret
     exact fin HY hw4
   ·
    cases HK
    ·
     have HY := Lib.hid (show x = W ++ ⟨#[32]⟩ ++ q.key from by have := HXX.out; simpa using this)
     clear HXX
     go_wp2
     go_ret
     exact fin HY hw4
    ·
     have HY := Lib.hid (show x = W ++ ⟨#[32]⟩ ++ q.key ++ ⟨#[32]⟩ ++ q.hi from by have := HXX.out; simpa using this)
     clear HXX
     go_wp2
     go_ret
     exact fin HY hw4
  ·
   have hnb : numB q.num = true := by have := HN.out; simpa using this
   have hn9 : -999 ≤ q.num ∧ q.num ≤ 999 := by unfold numB at hnb; simpa using hnb
   obtain ⟨D, HD, ds⟩ : ∃ D, Hid (decB q.num = D) ∧ D.size ≤ 4 := ⟨_, Lib.hid rfl, dec_size hnb⟩
   rw [HD.out] at HXX
   have HC := Lib.hid (fun V => specDec q.num V hn9.1 hn9.2)
   rw [HD.out] at HC
   have y6 : ¬ (9223372036854775807 < W.size + 1 + q.key.size + 1 + D.size) := by omega
   have y7 : ¬ (9223372036854775807 < W.size + 1 + D.size) := by omega
   have y8 : ¬ (9223372036854775807 < W.size + 1 + q.hi.size + 1 + D.size) := by omega
   have y9 : ¬ (9223372036854775807 < W.size + 1 + q.hi.size + 1) := by omega
   have ya : ¬ (9223372036854775807 < W.size + 1 + q.key.size + 1 + q.hi.size + 1) := by omega
   have yb : ¬ (9223372036854775807 < W.size + 1 + q.key.size + 1 + q.hi.size + 1 + D.size) := by omega
   clear hnb hn9
   cases KK
   ·
    cases HK
    ·
     have HY := Lib.hid (show x = W ++ ⟨#[32]⟩ ++ D from by have := HXX.out; simpa using this)
     clear HXX
     go_wp2_with fail
     refine (HC.out _).mono ?_
     rintro e w5 ⟨rfl, hb5⟩
     go_wp2
     go_ret
     exact fin HY (below_next hw4 hb5)
    ·
     have HY := Lib.hid (show x = W ++ ⟨#[32]⟩ ++ q.hi ++ ⟨#[32]⟩ ++ D from by have := HXX.out; simpa using this)
     clear HXX
     go_wp2_with fail
     refine (HC.out _).mono ?_
     rintro e w5 ⟨rfl, hb5⟩
     go_wp2
     go_ret
     exact fin HY (below_next hw4 hb5)
   ·
    cases HK
    ·
     have HY := Lib.hid (show x = W ++ ⟨#[32]⟩ ++ q.key ++ ⟨#[32]⟩ ++ D from by have := HXX.out; simpa using this)
     clear HXX
     go_wp2_with fail
     refine (HC.out _).mono ?_
     rintro e w5 ⟨rfl, hb5⟩
     go_wp2
     go_ret
     exact fin HY (below_next hw4 hb5)
    ·
     have HY := Lib.hid (show x = W ++ ⟨#[32]⟩ ++ q.key ++ ⟨#[32]⟩ ++ q.hi ++ ⟨#[32]⟩ ++ D from by have := HXX.out; simpa using this)
     clear HXX
     go_wp2_with fail
     refine (HC.out _).mono ?_
     rintro e w5 ⟨rfl, hb5⟩
     go_wp2
     go_ret
     exact fin HY (below_next hw4 hb5)
end Go.Proofs.YtjgfbcmgnjgapaaDoor
