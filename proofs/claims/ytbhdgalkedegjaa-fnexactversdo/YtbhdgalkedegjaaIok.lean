/- The program's RowsOk computes 'rowsB'. -/
import Derived.Test.YtbhdgalkedegjaaStr
import Derived.Deep.RegionHeld3
import Derived.IntWalk
namespace Go.Proofs.Ytbhdgalkedegjaa
open Go.RowKit
set_option linter.unusedVariables false

set_option maxHeartbeats 400000 in
theorem implNum (n : Int) (w : World) : Calls Try.prog 103 #[.int .i64 n] w fun e w' => e = .returned (.bool (numB n)) ∧ w = w' := by
  by_cases h1 : -999 ≤ n
  · go_enter Try.func103, Try.ntmps103
    go_wp2
    go_ret
    exact ⟨ret_bool (by unfold numB; simp [h1]), rfl⟩
  · go_enter Try.func103, Try.ntmps103
    go_wp2
    go_ret
    exact ⟨ret_bool (by unfold numB; simp; omega), rfl⟩

theorem ret_str {a b : ByteArray} (h : a = b) : Ending.returned (.string a) = .returned (.string b) := by rw [h]

set_option maxHeartbeats 400000 in
theorem sortKey_c (s : ByteArray) (n : Int) (w : World) :
    Calls Try.prog 142 #[.agg #[.string s, .int .i64 n]] w fun e w' => e = .returned (.string s) ∧ Below w.heap.size w w' := by
  go_enter Try.func142, Try.ntmps142
  go_wp2
  go_ret
  exact ⟨rfl, (Below.refl _ _).alloc (Nat.le_refl _) _⟩

/-- the method behind the interface value of a row -/
theorem method_key (s : ByteArray) (n : Int) (w : World) :
    (method 277 90 (.agg #[.string s, .int .i64 n]) "loop.example/engrosser/impl.sortKey").run Try.prog w = .ok (142, .agg #[.string s, .int .i64 n]) w := by kernel_rfl

set_option maxRecDepth 100000 in
set_option maxHeartbeats 1000000 in
theorem ascending_c (A : Option Addr) (c : Nat) (l : List R) (w : World) (hc : l.length ≤ 2097152) (hr : Rd w w.heap.size A l) :
    Calls Try.prog 104 #[.slice A l.length c] w fun e w' => e = .returned (.bool (ascB l)) ∧ Below w.heap.size w w' := by
  have hm := method_key
  go_enter Try.func104, Try.ntmps104
  go_wp2
  go_loopw [3] (fun i W => ∃ k : Nat, 1 ≤ k ∧ (k ≤ l.length ∨ k = 1) ∧ i = .int .i64 k ∧ Below w.heap.size w W ∧ (∀ i (h : i + 1 < l.length), i + 1 < k → lt l[i].1 l[i + 1].1 = true)) (fun i _ => l.length - (intOf i).toNat)
  case atStart => exact ⟨1, by omega, .inr rfl, rfl, Below.refl _ _, fun i h h1 => absurd h1 (by omega)⟩
  case round =>
    obtain ⟨k, hk1, hk, rfl, hb, hall⟩ := hrel
    have HALL := Lib.hid hall
    have HK := Lib.hid hk
    clear hall hk
    by_cases hkl : k < l.length
    · obtain ⟨b, o, rfl, hbB, hc1, hc2⟩ := (hr.below hb).at_ hkl
      obtain ⟨hp1, hp2⟩ := (hr.below hb).fix rfl (i := k - 1) (by omega)
      have hq : b < wr.heap.size := Nat.lt_of_lt_of_le hbB hb.size
      have hi1 : ((k : Int) - 1).toNat = k - 1 := by omega
      have hi2 : (0 : Int) ≤ (k : Int) - 1 := by omega
      have hi3 : (k : Int) - 1 < (l.length : Int) := by omega
      have hi4 : (1 : Int) ≤ (k : Int) := by omega
      have hi5 : (0 : Int) ≤ (k : Int) := by omega
      have hi6 : (k : Int) < (l.length : Int) := by omega
      have hi7 : IntKind.i64.wrap ((k : Int) - 1) = (k : Int) - 1 := IntWalk.i64_in _ (by omega)
      have hbT : Below wr.heap.size wr wr.drew := (Below.refl _ _).drew
      cases hlt : Op.bytesLess (l[k - 1]'(by omega)).1.toList l[k].1.toList
      · have HN := Lib.hid (ascB_no fun h : AscP l => by
          have := h (k - 1) (by omega)
          have e : k - 1 + 1 = k := by omega
          simp only [e] at this
          unfold lt at this
          rw [hlt] at this; cases this)
        go_wp2
        go_region_held3 (fun W => W.cell? ⟨b, o + k * 2, none⟩ = some (.string l[k].1) ∧ W.cell? ⟨b, o + k * 2 + 1, none⟩ = some (.int .i64 l[k].2) ∧ W.cell? ⟨b, o + (k - 1) * 2, none⟩ = some (.string (l[k - 1]'(by omega)).1) ∧ W.cell? ⟨b, o + (k - 1) * 2 + 1, none⟩ = some (.int .i64 (l[k - 1]'(by omega)).2)) (first | exact ⟨hc1, hc2, hp1, hp2⟩ | exact ⟨(hbT.cell hq).trans hc1, (hbT.cell hq).trans hc2, (hbT.cell hq).trans hp1, (hbT.cell hq).trans hp2⟩)
            (first | (go_at_call 142; refine (sortKey_c _ _ _).mono ?_; rintro e w' ⟨rfl, hb2⟩; have hbT := hbT.trans (hb2.mono hbT.size); clear hb2))
        go_wp2
        go_ret
        exact ⟨ret_bool HN.out.symm, hb.trans (hbT.mono hb.size)⟩
      · have HL := Lib.hid (show lt (l[k - 1]'(by omega)).1 l[k].1 = true from hlt)
        go_wp2
        go_region_held3 (fun W => W.cell? ⟨b, o + k * 2, none⟩ = some (.string l[k].1) ∧ W.cell? ⟨b, o + k * 2 + 1, none⟩ = some (.int .i64 l[k].2) ∧ W.cell? ⟨b, o + (k - 1) * 2, none⟩ = some (.string (l[k - 1]'(by omega)).1) ∧ W.cell? ⟨b, o + (k - 1) * 2 + 1, none⟩ = some (.int .i64 (l[k - 1]'(by omega)).2)) (first | exact ⟨hc1, hc2, hp1, hp2⟩ | exact ⟨(hbT.cell hq).trans hc1, (hbT.cell hq).trans hc2, (hbT.cell hq).trans hp1, (hbT.cell hq).trans hp2⟩)
            (first | (go_at_call 142; refine (sortKey_c _ _ _).mono ?_; rintro e w' ⟨rfl, hb2⟩; have hbT := hbT.trans (hb2.mono hbT.size); clear hb2))
        go_wp2
        go_roundw
        case rel => exact ⟨k + 1, by omega, .inl (by omega), by go_num, hb.trans (hbT.mono hb.size), fun i h h1 => by
          by_cases e : i + 1 = k
          · have := HL.out
            have e2 : k - 1 = i := by omega
            simp only [e2] at this
            simpa [e] using this
          · exact HALL.out i h (by omega)⟩
        case measure => simp [intOf]; omega
    · go_wp2
      go_ret
      exact ⟨ret_bool (ascB_yes fun i h => HALL.out i h (by have := HK.out; omega)).symm, hb⟩

set_option maxRecDepth 100000 in
set_option maxHeartbeats 1000000 in
theorem implRowsOk (A : Option Addr) (c : Nat) (l : List R) (w : World) (hfit : FitR l) (hc : l.length ≤ 2097152) (hr : Rd w w.heap.size A l) :
    Calls Try.prog 54 #[.slice A l.length c] w fun e w' => e = .returned (.bool (rowsB l)) ∧ Below w.heap.size w w' := by
  by_cases h10 : l.length ≤ 10
  · go_enter Try.func54, Try.ntmps54
    go_wp2
    go_loopw [10] (fun i W => ∃ k : Nat, k ≤ l.length ∧ i = .int .i64 k ∧ Below w.heap.size w W ∧ (∀ j (h : j < l.length), j < k → keyB l[j].1 = true ∧ numB l[j].2 = true)) (fun i _ => l.length - (intOf i).toNat)
    case atStart => exact ⟨0, Nat.zero_le _, rfl, Below.refl _ _, fun j h h0 => absurd h0 (by omega)⟩
    case round =>
      obtain ⟨k, hk, rfl, hb, hall⟩ := hrel
      have HALL := Lib.hid hall
      clear hall
      by_cases hkl : k < l.length
      · obtain ⟨b, o, rfl, hbB, hc1, hc2⟩ := (hr.below hb).at_ hkl
        have hs := (hfit _ (List.getElem_mem hkl)).1
        cases hkey : keyB l[k].1
        · have HN := Lib.hid (rowsB_no fun h : RowsP l => by have := (h.each k hkl).1; rw [hkey] at this; cases this)
          go_wp2_with (first | (go_at_call 102; refine (implKey _ _ hs).mono ?_; rintro e w' ⟨rfl, rfl⟩) | (go_at_call 103; refine (implNum _ _).mono ?_; rintro e w' ⟨rfl, rfl⟩))
          go_ret
          exact ⟨ret_bool HN.out.symm, hb.alloc hb.size _⟩
        · cases hnum : numB l[k].2
          · have HN := Lib.hid (rowsB_no fun h : RowsP l => by have := (h.each k hkl).2; rw [hnum] at this; cases this)
            go_wp2_with (first | (go_at_call 102; refine (implKey _ _ hs).mono ?_; rintro e w' ⟨rfl, rfl⟩) | (go_at_call 103; refine (implNum _ _).mono ?_; rintro e w' ⟨rfl, rfl⟩))
            go_ret
            exact ⟨ret_bool HN.out.symm, hb.alloc hb.size _⟩
          · have HK := Lib.hid hkey
            have HM := Lib.hid hnum
            go_wp2_with (first | (go_at_call 102; refine (implKey _ _ hs).mono ?_; rintro e w' ⟨rfl, rfl⟩) | (go_at_call 103; refine (implNum _ _).mono ?_; rintro e w' ⟨rfl, rfl⟩))
            go_roundw
            case rel => exact ⟨k + 1, by omega, by go_num, hb.alloc hb.size _, fun j h h1 => by
              by_cases e : j = k
              · subst e; exact ⟨HK.out, HM.out⟩
              · exact HALL.out j h (by omega)⟩
            case measure => simp [intOf]; omega
      · have HE := Lib.hid (show rowsB l = ascB l from by
          by_cases ha : AscP l
          · rw [rowsB_yes ⟨h10, fun i h => HALL.out i h (by omega), ha⟩, ascB_yes ha]
          · rw [rowsB_no fun h => ha h.asc, ascB_no ha])
        have hr2 := (hr.below hb).more hb.size
        go_wp2_with ((go_at_call 104; refine (ascending_c _ _ _ _ hc hr2).mono ?_; rintro e w' ⟨rfl, hb2⟩))
        go_ret
        exact ⟨ret_bool HE.out.symm, hb.trans (hb2.mono hb.size)⟩
  · have HN := Lib.hid (rowsB_no fun h : RowsP l => h10 h.len)
    go_enter Try.func54, Try.ntmps54
    go_wp2
    go_ret
    exact ⟨ret_bool HN.out.symm, Below.refl _ _⟩

end Go.Proofs.Ytbhdgalkedegjaa
