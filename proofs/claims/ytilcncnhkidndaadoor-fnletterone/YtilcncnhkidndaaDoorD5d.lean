/- Bytes that are drawn: the draws themselves. -/
import Derived.Test.YtilcncnhkidndaaDoorD5c
import Derived.Deep.RegionHeld3
namespace Go.Proofs.YtilcncnhkidndaaDoor
open Go.RowKit
set_option linter.unusedVariables false
set_option maxRecDepth 100000

def RetDs (w : World) (e : Ending) (w' : World) : Prop := ∃ t, e = .returned (.string t) ∧ t.size ≤ 200000 ∧ Below w.heap.size w w'
set_option maxHeartbeats 2000000 in
theorem dDrawLettersText (A : Option Addr) (n c : Nat) (w : World) (hc : n ≤ c) (hcm : c ≤ maxLen) (hr : RdB w w.heap.size A n) :
  Calls Tryd.prog 25 #[.slice A n c] w fun e w' => ∃ v ls, e = .returned v ∧ OwnG w' w.heap.size v (ls : List LE) ∧ BdLs ls ∧ Below w.heap.size w w' := by
 go_enter Tryd.func25, Tryd.ntmps25
 go_wp2_with fail
 refine (open_d A n c w hc hcm hr).mono ?_
 rintro e w2 ⟨m, rfl, hR, h2⟩
 have lt2 := hR.lt
 have s2 := h2.size
 go_wp2_with fail
 refine (letters_d w.heap.size A m c 0 w2 hR (by omega)).mono ?_
 rintro e w3 ⟨v, ls, rfl, hO, hb, hD⟩
 have hw3 : Below w.heap.size w w3 := h2.grown hD.grown h2.size (fun k hk => by injection hk with e; omega)
 go_wp2
 go_ret
 exact ⟨v, ls, rfl, hO.low (by omega), hb, hw3⟩
theorem BdLs.fit {ls : List LE} (h : BdLs ls) {k : Nat} (hk : k < ls.length) : FitLE ls[k] := by
 have := h.1 _ (List.getElem_mem hk)
 exact ⟨by unfold maxLen; omega, by unfold maxLen; omega⟩
theorem BdLs.text {ls : List LE} (h : BdLs ls) {k : Nat} (hk : k < ls.length) : (textL ls[k]).length ≤ 10004 := by
 have := h.1 _ (List.getElem_mem hk)
 unfold textL
 split
 ·
  rename_i ho; rw [enc_length ho]; omega
 ·
  simp
set_option maxHeartbeats 4000000 in
theorem dDrawLetterAll (A : Option Addr) (n c : Nat) (w : World) (hc : n ≤ c) (hcm : c ≤ maxLen) (hr : RdB w w.heap.size A n) :
  Calls Tryd.prog 17 #[.slice A n c] w (RetDs w) := by
 go_enter Tryd.func17, Tryd.ntmps17
 go_wp2_with fail
 refine (open_d A n c w hc hcm hr).mono ?_
 rintro e w2 ⟨m, rfl, hR, h2⟩
 have lt2 := hR.lt
 have s2 := h2.size
 go_wp2_with fail
 refine (letters_d w.heap.size A m c 0 w2 hR (by omega)).mono ?_
 rintro e w3 ⟨v, ls, rfl, hO, hb, hD⟩
 obtain ⟨vb, vc, rfl, _, _, hrd⟩ := hO.read
 have HO := Lib.hid hO
 have HB := Lib.hid hb
 have HD := Lib.hid hD
 have H2 := Lib.hid h2
 have hl9 : ls.length ≤ 9 := hb.2
 clear hO hb hD h2 hrd hR
 go_wp2
 go_loopw [4, 6] (fun v i W => ∃ (k : Nat) (t : ByteArray), i = .int .i64 k ∧ v = .string t ∧ k ≤ ls.length ∧ t.size ≤ 10004 * k ∧ Below w3.heap.size w3 W) (fun _ i _ => ls.length - (intOf i).toNat)
 case atStart => exact ⟨0, ⟨#[]⟩, rfl, rfl, Nat.zero_le _, by show 0 ≤ 10004 * 0; omega, Below.refl _ _⟩
 case round =>
  obtain ⟨k, t, rfl, rfl, hk, ht, hb⟩ := hrel
  by_cases hkl : k < ls.length
  ·
   have hi : (k : Int) < (ls.length : Int) := by omega
   obtain ⟨b, o, rfl, hbB, hc0, hc1⟩ := ((HO.out.next hb).rd'.2.2.2).atLE hkl
   have HF := Lib.hid (HB.out.fit hkl)
   have HX := Lib.hid (HB.out.text hkl)
   obtain ⟨x, HXX⟩ : ∃ x, Hid (bo (textL ls[k]) = x) := ⟨_, Lib.hid rfl⟩
   have hxs : x.size ≤ 10004 := by rw [← HXX.out, bo_size]; exact HX.out
   have y1 : ¬ (9223372036854775807 < t.size + x.size) := by omega
   go_wp2_with fail
   refine (specText ls[k] _ HF.out).mono ?_
   rw [HXX.out]
   rintro e w4 ⟨rfl, hb4⟩
   have hb5 := below_next hb hb4
   go_wp2
   go_roundw
   case rel => exact ⟨k + 1, t ++ x, by go_num, rfl, by omega, by rw [ByteArray.size_append]; omega, hb5⟩
   case measure => simp [intOf]; omega
  ·
   have hi : ¬ (k : Int) < (ls.length : Int) := by omega
   have hts : t.size ≤ 90036 := by omega
   have DR := HD.out.call hb
   have HDR := Lib.hid DR
   clear DR hb
   go_wp2_with fail
   obtain ⟨q, hq1, hq2, hq⟩ := HDR.out.rdr
   refine (pick_d w.heap.size A m c q 40 _ hq (by omega) (by omega) (by omega)).mono ?_
   rintro e w5 ⟨j, rfl, hj, hd5⟩
   have D5 : Dw w.heap.size A m c 0 56 w2 w5 := Dw.then_ (K := 55) HDR.out.grown hq1 hq2 hd5
   have HD5 := Lib.hid D5
   clear D5 hd5 hq hq1 hq2
   by_cases hj0 : j = 0
   ·
    have hj1 : ((j : Int) == 0) = true := beq_iff_eq.2 (by omega)
    go_wp2_with fail
    obtain ⟨q, hq1, hq2, hq⟩ := HD5.out.rdr
    refine (pick_d w.heap.size A m c q 3 _ hq (by omega) (by omega) (by omega)).mono ?_
    rintro e w6 ⟨x, rfl, hx, hd6⟩
    have D6 : Dw w.heap.size A m c 0 57 w2 w6 := Dw.then_ (K := 56) HD5.out.grown hq1 hq2 hd6
    have HD6 := Lib.hid D6
    clear D6 hd6 hq hq1 hq2
    have hmany := many_c ⟨#[83, 48, 48]⟩ (133 + x) w6 (by decide) (by omega)
    rw [show ((133 + x : Nat) : Int) = 133 + (x : Int) from by omega] at hmany
    have HM := Lib.hid hmany
    clear hmany
    go_wp2_with fail
    refine HM.out.mono ?_
    rintro e w7 ⟨r, rfl, hrs, rfl⟩
    go_wp2_with fail
    obtain ⟨q, hq1, hq2, hq⟩ := HD6.out.rdr
    refine (torn_d w.heap.size A m c q r _ hq (by omega) (by omega)).mono ?_
    rintro e w8 ⟨t8, rfl, ht8, hd8⟩
    have D8 : Dw w.heap.size A m c 0 61 w2 w8 := Dw.then_ (K := 57) HD6.out.grown hq1 hq2 hd8
    go_wp2
    go_ret
    exact ⟨t8, rfl, by omega, H2.out.grown D8.grown H2.out.size (fun k hk => by injection hk with e; omega)⟩
   ·
    have hj1 : ((j : Int) == 0) = false := beq_eq_false_iff_ne.2 (by omega)
    go_wp2_with fail
    obtain ⟨q, hq1, hq2, hq⟩ := HD5.out.rdr
    refine (torn_d w.heap.size A m c q t _ hq (by omega) (by omega)).mono ?_
    rintro e w8 ⟨t8, rfl, ht8, hd8⟩
    have D8 : Dw w.heap.size A m c 0 60 w2 w8 := Dw.then_ (K := 56) HD5.out.grown hq1 hq2 hd8
    go_wp2
    go_ret
    exact ⟨t8, rfl, by omega, H2.out.grown D8.grown H2.out.size (fun k hk => by injection hk with e; omega)⟩
theorem dDrawLetterTake (A : Option Addr) (n c : Nat) (w : World) (hc : n ≤ c) (hcm : c ≤ maxLen) (hr : RdB w w.heap.size A n) :
  Calls Tryd.prog 19 #[.slice A n c] w (RetDs w) := by
 go_enter Tryd.func19, Tryd.ntmps19
 go_wp2_with fail
 refine (dDrawLetterAll A n c w hc hcm hr).mono ?_
 rintro e w2 ⟨t, rfl, ht, h2⟩
 go_wp2
 go_ret
 exact ⟨t, rfl, ht, h2⟩
end Go.Proofs.YtilcncnhkidndaaDoor
