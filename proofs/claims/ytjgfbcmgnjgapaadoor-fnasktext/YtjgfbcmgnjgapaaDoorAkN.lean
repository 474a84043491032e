/- The model: a number is read. -/
import Derived.Test.YtjgfbcmgnjgapaaDoorAkC
import Derived.Deep.DeepCutAuto
namespace Go.Proofs.YtjgfbcmgnjgapaaDoor
open Go.RowKit
set_option linter.unusedVariables false
set_option maxRecDepth 100000

theorem numF_snoc (l : List UInt8) (c : UInt8) : numF (l ++ [c]) = numF l * 10 + ((c.toNat : Int) - 48) := by unfold numF; rw [List.foldl_append]; rfl
theorem isD_iff {c : UInt8} : isD c = true ↔ 48 ≤ c.toNat ∧ c.toNat ≤ 57 := by unfold isD; simp
theorem numF_bd : (n : Nat) → (l : List UInt8) → l.length = n → l.all isD = true → 0 ≤ numF l ∧ numF l < ((10 ^ n : Nat) : Int)
 | 0, l, hl, _ => by
  have := List.eq_nil_of_length_eq_zero hl
  subst this
  exact ⟨by decide, by decide⟩
 | n + 1, l, hl, h => by
  have hne : l ≠ [] := fun e => by rw [e] at hl; cases hl
  obtain ⟨m, c, rfl⟩ : ∃ m c, l = m ++ [c] := ⟨l.dropLast, l.getLast hne, (List.dropLast_concat_getLast hne).symm⟩
  rw [List.length_append] at hl
  simp only [List.length_cons, List.length_nil] at hl
  rw [List.all_append] at h
  simp only [Bool.and_eq_true, List.all_cons, List.all_nil, and_true] at h
  obtain ⟨h1, h2⟩ := numF_bd n m (by omega) h.1
  have h3 := isD_iff.1 h.2
  rw [numF_snoc, Nat.pow_succ]
  omega
theorem numF_16 {l : List UInt8} (hl : l.length ≤ 16) (h : l.all isD = true) : 0 ≤ numF l ∧ numF l < 10000000000000000 := by
 obtain ⟨h1, h2⟩ := numF_bd _ l rfl h
 have : 10 ^ l.length ≤ 10 ^ 16 := Nat.pow_le_pow_right (by omega) hl
 exact ⟨h1, by omega⟩
theorem numF_17 {l : List UInt8} (hl : l.length ≤ 17) (h : l.all isD = true) : 0 ≤ numF l ∧ numF l < 100000000000000000 := by
 obtain ⟨h1, h2⟩ := numF_bd _ l rfl h
 have : 10 ^ l.length ≤ 10 ^ 17 := Nat.pow_le_pow_right (by omega) hl
 exact ⟨h1, by omega⟩
theorem numN_bd (l : List UInt8) : -100000000000000000 < numN l ∧ numN l < 100000000000000000 := by
 unfold numN
 split
 ·
  rename_i h
  unfold numB2 numOkL at h
  simp only [Bool.and_eq_true, Bool.not_eq_true', Bool.or_eq_false_iff, decide_eq_false_iff_not] at h
  have hb := numF_17 (l := bodyL l) (by omega) h.2
  split <;> omega
 ·
  omega
theorem mk_data (l : List UInt8) : (mkS l).data.toList = l := by simp [mkS]
theorem mk_size (l : List UInt8) : (mkS l).size = l.length := by show l.toArray.size = _; simp
theorem mk_get (l : List UInt8) (k : Nat) (h : k < (mkS l).size) : (mkS l)[k] = l[k]'(by rw [← mk_size]; exact h) := rfl
theorem mk_eta (s : ByteArray) : mkS s.data.toList = s := rfl
theorem head_pos {s : ByteArray} (h : 0 < s.size) : s.data.toList.head? = some s[0] := by
 rw [List.head?_eq_getElem?, List.getElem?_eq_getElem (by rw [Array.length_toList]; exact h)]
 rfl
theorem u8_eq {c : UInt8} {n : Nat} (hn : n < 256) : ((c.toNat : Int) == (n : Int)) = decide (c = UInt8.ofNat n) := by
 by_cases h : c = UInt8.ofNat n
 ·
  subst h
  rw [decide_eq_true rfl]
  exact beq_iff_eq.2 (by rw [UInt8.toNat_ofNat']; omega)
 ·
  rw [decide_eq_false h]
  refine beq_eq_false_iff_ne.2 fun e => h ?_
  apply UInt8.toNat_inj.1
  rw [UInt8.toNat_ofNat']
  omega
def RetNum (w : World) (L : List UInt8) (e : Ending) (w' : World) : Prop := e = .returned (.tuple #[.int .i64 (numN L), .bool (numB2 L)]) ∧ w' = w
set_option maxHeartbeats 8000000 in
theorem specNumR (s : ByteArray) (w : World) (hs : s.size ≤ 1048576) : Calls Tryd.prog 36 #[.string s] w (RetNum w s.data.toList) := by
 obtain ⟨L, HL⟩ : ∃ L, Hid (s.data.toList = L) := ⟨_, Lib.hid rfl⟩
 rw [HL.out]
 obtain ⟨B, HB⟩ : ∃ B, Hid (mkS (bodyL L) = B) := ⟨_, Lib.hid rfl⟩
 obtain ⟨ng, HN⟩ : ∃ b, Hid (negL L = b) := ⟨_, Lib.hid rfl⟩
 have hBs : B.size ≤ 1048576 := by
  rw [← HB.out, mk_size]
  have : L.length = s.size := by rw [← HL.out]; exact Array.length_toList
  unfold bodyL
  split
  ·
   rw [List.length_tail]; omega
  ·
   omega
 go_enter Tryd.func36, Tryd.ntmps36
 go_upto_region 1 with fail
 go_cut [4] (fun n V => n = .bool ng ∧ V = w)
 case first =>
  by_cases h0 : s.size = 0
  ·
   have d0 : decide ((0 : Int) < (s.size : Int)) = false := decide_eq_false (by omega)
   have d1 : decide (0 < s.size) = false := decide_eq_false (by omega)
   have hL : L = [] := by rw [← HL.out]; exact List.eq_nil_of_length_eq_zero (by rw [Array.length_toList]; exact h0)
   have hng : ng = false := by rw [← HN.out, hL]; rfl
   subst hng
   clear h0 hL
   go_wp2
   go_meet
   exact ⟨rfl, rfl⟩
  ·
   have d0 : decide ((0 : Int) < (s.size : Int)) = true := decide_eq_true (by omega)
   have h1 : 0 < s.size := by omega
   have hb : ((s[0].toNat : Int) == 45) = ng := by
    rw [← HN.out, ← HL.out]
    unfold negL
    rw [head_pos h1]
    have := u8_eq (c := s[0]) (n := 45) (by omega)
    rw [show ((45 : Nat) : Int) = 45 from rfl] at this
    rw [this]
    exact decide_eq_decide.2 ⟨fun h => by rw [h]; rfl, fun h => Option.some.inj h⟩
   clear h0
   have HBB := Lib.hid hb
   clear hb
   go_wp2
   go_meet
   exact ⟨congrArg Value.bool HBB.out, rfl⟩
 case rest =>
  obtain ⟨rfl, rfl⟩ := hcut
  go_upto_if 15 with fail
  go_cut [0] (fun x V => x = .string B ∧ V = wc)
  case first =>
   cases ng
   ·
    have hB : s = B := by rw [← HB.out]; unfold bodyL; rw [HN.out, ← HL.out]; rfl
    subst hB
    go_wp2
    go_meet
    exact ⟨rfl, rfl⟩
   ·
    have hpos : 0 < s.size := by
     rcases Nat.eq_zero_or_pos s.size with h | h
     ·
      have hL : L = [] := by rw [← HL.out]; exact List.eq_nil_of_length_eq_zero (by rw [Array.length_toList]; exact h)
      have := HN.out
      rw [hL] at this
      cases this
     ·
      exact h
    have h1 : (1 : Int) ≤ (s.size : Int) := by omega
    have hB : s.extract 1 s.size = B := by
     rw [← HB.out, ext_mk]
     unfold bodyL
     rw [HN.out, if_pos rfl, ← HL.out, List.take_of_length_le (by rw [Array.length_toList]; exact Nat.le_refl _), List.drop_one]
    go_wp2
    go_meet
    exact ⟨rfl, rfl⟩
  case rest =>
   obtain ⟨rfl, rfl⟩ := hcut
   have HBL := Lib.hid (show B.data.toList = bodyL L from by rw [← HB.out, mk_data])
   have HLn := Lib.hid (show (bodyL L).length = B.size from by rw [← HBL.out]; exact Array.length_toList)
   have no : Hid (numB2 L = false → ∀ {e : Ending}, e = .returned (.tuple #[.int .i64 0, .bool false]) → RetNum wc L e wc) := Lib.hid (fun h e he => by
    subst he
    refine ⟨?_, rfl⟩
    unfold numN
    rw [h]
    rfl)
   by_cases h0 : B.size = 0
   ·
    have HX := Lib.hid (show numB2 L = false from by unfold numB2 numOkL; rw [HLn.out, h0]; rfl)
    have d0 : ((B.size : Int) == 0) = true := beq_iff_eq.2 (by omega)
    clear h0
    go_wp2
    exact bodyPost_ret (v := .tuple #[.int .i64 0, .bool false]) (by simp [results, Tryd.results36, go_sem]) rfl (no.out HX.out rfl)
   have d0 : ((B.size : Int) == 0) = false := beq_eq_false_iff_ne.2 (by omega)
   by_cases h17 : 17 < B.size
   ·
    have HX := Lib.hid (show numB2 L = false from by unfold numB2 numOkL; rw [HLn.out, decide_eq_true h17]; simp)
    have d1 : decide ((17 : Int) < (B.size : Int)) = true := decide_eq_true (by omega)
    go_wp2
    exact bodyPost_ret (v := .tuple #[.int .i64 0, .bool false]) (by simp [results, Tryd.results36, go_sem]) rfl (no.out HX.out rfl)
   have d1 : decide ((17 : Int) < (B.size : Int)) = false := decide_eq_false (by omega)
   have hpos : 0 < B.size := by omega
   have hh := Lib.hid (show (bodyL L).head? = some B[0] from by rw [← HBL.out]; exact head_pos hpos)
   obtain ⟨bd, HBD⟩ : ∃ b, Hid ((decide ((bodyL L).head? = some 48) && (decide (1 < (bodyL L).length) || ng)) = b) := ⟨_, Lib.hid rfl⟩
   have HOK := Lib.hid (show numB2 L = (!bd && (bodyL L).all isD) from by
    unfold numB2 numOkL
    rw [HN.out, HBD.out, decide_eq_false (show ¬ (bodyL L).length = 0 from by have := HLn.out; omega), decide_eq_false (show ¬ 17 < (bodyL L).length from by have := HLn.out; omega)]
    rfl)
   go_upto_region 4 with fail
   go_cut [38] (fun z V => z = .bool bd ∧ V = wc)
   case first =>
    have hz : ((B[0].toNat : Int) == 48) = decide ((bodyL L).head? = some 48) := by
     rw [hh.out]
     have := u8_eq (c := B[0]) (n := 48) (by omega)
     rw [show ((48 : Nat) : Int) = 48 from rfl] at this
     rw [this]
     exact decide_eq_decide.2 ⟨fun h => by rw [h]; rfl, fun h => Option.some.inj h⟩
    have h1l : decide ((1 : Int) < (B.size : Int)) = decide (1 < (bodyL L).length) := decide_eq_decide.2 (by have := HLn.out; omega)
    obtain ⟨z, HZ⟩ : ∃ b, Hid (decide ((bodyL L).head? = some 48) = b) := ⟨_, Lib.hid rfl⟩
    obtain ⟨o, HO⟩ : ∃ b, Hid (decide (1 < (bodyL L).length) = b) := ⟨_, Lib.hid rfl⟩
    rw [HZ.out] at hz
    rw [HO.out] at h1l
    have HBE := HBD.out
    rw [HZ.out, HO.out] at HBE
    cases z
    ·
     have e : false = bd := by simpa using HBE
     subst e
     clear HBE
     go_wp2
     go_meet
     exact ⟨rfl, rfl⟩
    ·
     cases o
     ·
      cases ng
      ·
       have e : false = bd := by simpa using HBE
       subst e
       clear HBE
       go_wp2
       go_meet
       exact ⟨rfl, rfl⟩
      ·
       have e : true = bd := by simpa using HBE
       subst e
       clear HBE
       go_wp2
       go_meet
       exact ⟨rfl, rfl⟩
     ·
      have e : true = bd := by simpa using HBE
      subst e
      clear HBE
      go_wp2
      go_meet
      exact ⟨rfl, rfl⟩
   case rest =>
    obtain ⟨rfl, rfl⟩ := hcut
    cases bd
    ·
     have HALL := Lib.hid (show numB2 L = (bodyL L).all isD from by rw [HOK.out]; rfl)
     go_wp2
     go_loop [5, 6] (fun n i => ∃ k : Nat, k ≤ B.size ∧ i = .int .i64 k ∧ n = .int .i64 (numF ((bodyL L).take k)) ∧ ((bodyL L).take k).all isD = true) (fun _ i => B.size - (intOf i).toNat)
     case atStart => exact ⟨0, Nat.zero_le _, rfl, rfl, rfl⟩
     case round =>
      obtain ⟨k, hk, rfl, rfl, hall⟩ := hrel
      have HA := Lib.hid hall
      obtain ⟨nm, HNM⟩ : ∃ n, Hid (numF ((bodyL L).take k) = n) := ⟨_, Lib.hid rfl⟩
      rw [HNM.out]
      by_cases hkl : k < B.size
      ·
       have hi : (k : Int) < (B.size : Int) := by omega
       have hb16 := numF_16 (l := (bodyL L).take k) (by rw [List.length_take]; omega) hall
       rw [HNM.out] at hb16
       have hn0 := hb16.1
       have hn1 := hb16.2
       have hkM : k < (bodyL L).length := by have := HLn.out; omega
       have hc := Lib.hid (show (bodyL L)[k] = B[k] from by
        have e : B.data.toList[k]? = (bodyL L)[k]? := by rw [HBL.out]
        rw [List.getElem?_eq_getElem hkM, List.getElem?_eq_getElem (by rw [Array.length_toList]; exact hkl)] at e
        rw [← Option.some.inj e]
        rfl)
       have HT := Lib.hid (show (bodyL L).take (k + 1) = (bodyL L).take k ++ [B[k]] from by rw [List.take_succ_eq_append_getElem hkM, hc.out])
       clear hall hb16
       by_cases h48 : B[k].toNat < 48
       ·
        have HX := Lib.hid (show numB2 L = false from by
         rw [HALL.out]
         refine List.all_eq_false.2 ⟨B[k], by rw [← hc.out]; exact List.getElem_mem hkM, ?_⟩
         rw [isD_iff]; omega)
        have e1 : decide ((B[k].toNat : Int) < 48) = true := decide_eq_true (by omega)
        go_wp2
        exact bodyPost_ret (v := .tuple #[.int .i64 0, .bool false]) (by simp [results, Tryd.results36, go_sem]) rfl (no.out HX.out rfl)
       have e1 : decide ((B[k].toNat : Int) < 48) = false := decide_eq_false (by omega)
       by_cases h57 : 57 < B[k].toNat
       ·
        have HX := Lib.hid (show numB2 L = false from by
         rw [HALL.out]
         refine List.all_eq_false.2 ⟨B[k], by rw [← hc.out]; exact List.getElem_mem hkM, ?_⟩
         rw [isD_iff]; omega)
        have e2 : decide (57 < (B[k].toNat : Int)) = true := decide_eq_true (by omega)
        go_wp2
        exact bodyPost_ret (v := .tuple #[.int .i64 0, .bool false]) (by simp [results, Tryd.results36, go_sem]) rfl (no.out HX.out rfl)
       have e2 : decide (57 < (B[k].toNat : Int)) = false := decide_eq_false (by omega)
       obtain ⟨u, hu⟩ : ∃ u : Nat, B[k].toNat = 48 + u := ⟨B[k].toNat - 48, by omega⟩
       have u9 : u ≤ 9 := by omega
       have HN1 := Lib.hid (show numF ((bodyL L).take (k + 1)) = nm * 10 + (u : Int) from by rw [HT.out, numF_snoc, HNM.out, hu]; omega)
       have HA1 := Lib.hid (show ((bodyL L).take (k + 1)).all isD = true from by
        rw [HT.out, List.all_append, HA.out]
        simp only [List.all_cons, List.all_nil, Bool.true_and, Bool.and_true]
        exact isD_iff.2 (by omega))
       have y1 : (B[k].toNat : Int) = 48 + (u : Int) := by omega
       rw [y1] at e1 e2
       have w1s : IntKind.u8.wrap (48 + (u : Int) - 48) = (u : Int) := by rw [IntKind.wrap_u8]; omega
       clear hu h48 h57
       go_wp2
       go_round
       case rel => exact ⟨k + 1, by omega, by go_num, by rw [HN1.out], HA1.out⟩
       case measure => simp [intOf]; omega
      ·
       have hi : ¬ (k : Int) < (B.size : Int) := by omega
       have hM : (bodyL L).take k = bodyL L := List.take_of_length_le (by have := HLn.out; omega)
       rw [hM] at hall
       have hb17 := numF_17 (l := (bodyL L).take k) (by rw [List.length_take]; omega) HA.out
       rw [HNM.out] at hb17
       have hn0 := hb17.1
       have hn1 := hb17.2
       have HX := Lib.hid (show numB2 L = true from by rw [HALL.out]; exact hall)
       have HNN := Lib.hid (show numN L = if ng then -nm else nm from by
        unfold numN
        rw [HX.out, HN.out, ← HNM.out, hM]
        rfl)
       clear hall hM hb17
       cases ng
       ·
        go_wp2
        exact bodyPost_ret (v := .tuple #[.int .i64 nm, .bool true]) (by simp [results, Tryd.results36, go_sem]) rfl ⟨by rw [HNN.out, HX.out]; rfl, rfl⟩
       ·
        go_wp2
        exact bodyPost_ret (v := .tuple #[.int .i64 (-nm), .bool true]) (by simp [results, Tryd.results36, go_sem]) rfl ⟨by rw [HNN.out, HX.out]; rfl, rfl⟩
    ·
     have HX := Lib.hid (show numB2 L = false from by rw [HOK.out]; rfl)
     go_wp2
     exact bodyPost_ret (v := .tuple #[.int .i64 0, .bool false]) (by simp [results, Tryd.results36, go_sem]) rfl (no.out HX.out rfl)
end Go.Proofs.YtjgfbcmgnjgapaaDoor
