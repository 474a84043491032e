/- The bytes of letters: the model. -/
import Derived.Test.YtilcncnhkidndaaDoorL5t
import Derived.Deep.RegionHeld3
namespace Go.Proofs.YtilcncnhkidndaaDoor
open Go.RowKit
set_option linter.unusedVariables false
set_option maxRecDepth 100000

set_option maxHeartbeats 2000000 in
theorem implText (l : LE) (w : World) (hl : FitLE l) (ht : l.s.size + l.b.size ≤ 2097151) : Calls Tryd.prog 13 #[.agg #[.string l.s, .string l.b]] w fun e w' => e = .returned (.string (bo (textL l))) ∧ Below w.heap.size w w' := by
 obtain ⟨W, e0, hz, Bl, hb⟩ := al1 w rfl #[.string l.s, .string l.b] 24
 have q0 : W.cell? ⟨w.heap.size, 0, none⟩ = some (.string l.s) := Bl.cell 0
 have q1 : W.cell? ⟨w.heap.size, 1, none⟩ = some (.string l.b) := Bl.cell 1
 have rU := rdOneLE W l 24
 obtain ⟨U, eU, hU, BU, hbU⟩ := al1 W rfl #[.string l.s, .string l.b] 24
 rw [eU] at rU
 have hf1 : FitLEs [l] := fun r hr => by simp at hr; subst hr; exact hl
 have ht1 : totalLE [l] ≤ 2097152 := by simp [totalLE]; omega
 have hI := implTexts (some ⟨W.heap.size, 0, none⟩) 1 [l] U hf1 ht1 (Nat.le_refl _) rU
 rw [show textsL [l] = textL l from by unfold textsL textL; simp [catL], hz, List.length_singleton] at hI
 obtain ⟨T, HT⟩ : ∃ T, bo (textL l) = T := ⟨_, rfl⟩
 rw [HT] at hI ⊢
 have HI := Lib.hid hI
 clear hI HT rU hf1 ht1 hl ht
 go_enter Tryd.func13, Tryd.ntmps13
 go_wp2_with fail
 refine HI.out.mono ?_
 rintro e w' ⟨rfl, hb2⟩
 go_wp2
 go_ret
 exact ⟨rfl, below_next (below_next hb hbU) hb2⟩

/-! the model -/
theorem app_emp (x : ByteArray) : x ++ (⟨#[]⟩ : ByteArray) = x := bs_inj (by rw [bs_append]; simp [bs])
theorem bo_one (c : UInt8) : bo [c] = ⟨#[c]⟩ := rfl
set_option maxHeartbeats 2000000 in
theorem specDec1 (n : Nat) (w : World) (hn : n < 10) : Calls Tryd.prog 49 #[.int .i64 n] w fun e w' => e = .returned (.string (bo [dd n])) ∧ Below w.heap.size w w' := by
 have hcv := oneByte (48 + n) w (by omega)
 rw [show ((48 + n : Nat) : Int) = 48 + (n : Int) from by omega] at hcv
 have HD := Lib.hid (show (⟨#[48 + UInt8.ofNat n]⟩ : ByteArray) ++ ⟨#[]⟩ = bo [dd n] from app_emp _)
 have h1 : ¬ ((n : Int) < -9223372036854775807) := by omega
 have h2 : ¬ ((n : Int) < 0) := by omega
 have h3 : ¬ (9 < (n : Int)) := by omega
 go_enter Tryd.func49, Tryd.ntmps49
 go_wp2
 go_loop [0, 3] (fun i o => i = .int .i64 n ∧ o = .string ⟨#[]⟩) (fun _ _ => 0)
 case atStart => exact ⟨rfl, rfl⟩
 case round =>
  obtain ⟨rfl, rfl⟩ := hrel
  go_wp2
  go_ret
  exact ⟨ret_s HD.out, (Below.refl _ _).alloc (Nat.le_refl _) _⟩
set_option maxHeartbeats 2000000 in
theorem specTwo (n : Nat) (w : World) (hn : n < 100) : Calls Tryd.prog 34 #[.int .i64 n] w fun e w' => e = .returned (.string (bo [dd (n / 10), dd (n % 10)])) ∧ Below w.heap.size w w' := by
 have HB := Lib.hid (show bo [dd (n / 10)] ++ bo [dd (n % 10)] = bo [dd (n / 10), dd (n % 10)] from (bo_append [dd (n / 10)] [dd (n % 10)]).symm)
 have z1 : (bo [dd (n / 10)]).size = 1 := bo_size _
 have z2 : (bo [dd (n % 10)]).size = 1 := bo_size _
 have c1 := fun W => specDec1 (n / 10) W (by omega)
 have c2 := fun W => specDec1 (n % 10) W (by omega)
 go_enter Tryd.func34, Tryd.ntmps34
 go_wp2_with fail
 refine (c1 _).mono ?_
 rintro e w1 ⟨rfl, hb1⟩
 go_wp2_with fail
 refine (c2 _).mono ?_
 rintro e w2 ⟨rfl, hb2⟩
 go_wp2
 go_ret
 exact ⟨ret_s HB.out, below_next hb1 hb2⟩
set_option maxHeartbeats 4000000 in
theorem specText (l : LE) (w : World) (hl : FitLE l) : Calls Tryd.prog 14 #[.agg #[.string l.s, .string l.b]] w fun e w' => e = .returned (.string (bo (textL l))) ∧ Below w.heap.size w w' := by
 obtain ⟨W, e0, hz, Bl, hb⟩ := al1 w rfl #[.string l.s, .string l.b] 24
 have q0 : W.cell? ⟨w.heap.size, 0, none⟩ = some (.string l.s) := Bl.cell 0
 have q1 : W.cell? ⟨w.heap.size, 1, none⟩ = some (.string l.b) := Bl.cell 1
 cases hok : okB l
 ·
  have HO := Lib.hid hok
  have HN := Lib.hid (show textL l = [] from by unfold textL; rw [hok]; rfl)
  clear hok
  go_enter Tryd.func14, Tryd.ntmps14
  go_wp2_with (go_at_call 16; refine (specLOk l _ hl).mono ?_; rw [HO.out]; rintro e w' ⟨rfl, hb2⟩)
  go_ret
  exact ⟨ret_s (by rw [HN.out]; rfl), below_next hb hb2⟩
 ·
  have HO := Lib.hid hok
  have HN := Lib.hid (show textL l = enc l from by unfold textL; rw [hok]; rfl)
  have hlen : l.s.size = 1 ∧ l.b.size ≤ 40 := by unfold okB at hok; simp only [Bool.and_eq_true, decide_eq_true_eq] at hok; omega
  have HE := Lib.hid (show l.s ++ bo [dd (l.b.size / 10), dd (l.b.size % 10)] ++ l.b = bo (enc l) from by unfold enc; rw [bo_append, bo_append, bo_bs, bo_bs])
  have z2 : (bo [dd (l.b.size / 10), dd (l.b.size % 10)]).size = 2 := bo_size _
  obtain ⟨l1, l40⟩ := hlen
  have HL1 := Lib.hid l1
  have l1' : l.s.size ≤ 1 := by omega
  have z2' : (bo [dd (l.b.size / 10), dd (l.b.size % 10)]).size ≤ 2 := by omega
  clear l1 z2
  have y1 : ¬ (9223372036854775807 < l.s.size + (bo [dd (l.b.size / 10), dd (l.b.size % 10)]).size) := by omega
  have y3 : ¬ (9223372036854775807 < l.s.size + (bo [dd (l.b.size / 10), dd (l.b.size % 10)]).size + l.b.size) := by omega
  have y4 : ¬ (9223372036854775807 < (l.s ++ bo [dd (l.b.size / 10), dd (l.b.size % 10)]).size + l.b.size) := by rw [ByteArray.size_append]; omega
  clear hok
  go_enter Tryd.func14, Tryd.ntmps14
  go_wp2_with fail
  refine (specLOk l _ hl).mono ?_
  rw [HO.out]
  rintro e w1 ⟨rfl, hb1⟩
  have B1 := Bl.next hb1
  have p0 : w1.cell? ⟨w.heap.size, 0, none⟩ = some (.string l.s) := B1.cell 0
  have p1 : w1.cell? ⟨w.heap.size, 1, none⟩ = some (.string l.b) := B1.cell 1
  have hq : w.heap.size < w1.heap.size := B1.lt
  clear q0 q1 Bl
  have hbT : Below w1.heap.size w1 w1.drew := (Below.refl _ _).drew
  go_wp2
  go_region_held3 (fun V => V.cell? ⟨w.heap.size, 0, none⟩ = some (.string l.s) ∧ V.cell? ⟨w.heap.size, 1, none⟩ = some (.string l.b)) (first | exact ⟨p0, p1⟩ | exact ⟨(hbT.cell hq).trans p0, (hbT.cell hq).trans p1⟩)
   (first | (go_at_call 34; refine (specTwo l.b.size _ (by omega)).mono ?_; rintro e w' ⟨rfl, hb2⟩; have hbT := hbT.trans (hb2.mono hbT.size); clear hb2))
  go_wp2
  go_ret
  exact ⟨ret_s (by rw [HN.out]; exact HE.out), below_next (below_next hb hb1) hbT⟩
set_option maxHeartbeats 4000000 in
theorem specTexts (A : Option Addr) (c : Nat) (ls : List LE) (w : World) (hf : FitLEs ls) (ht : totalLE ls ≤ 2097152) (hc : ls.length ≤ c) (hr : RdG w w.heap.size A ls) :
  Calls Tryd.prog 26 #[.slice A ls.length c] w fun e w' => e = .returned (.string (bo (textsL ls))) ∧ Below w.heap.size w w' := by
 have hln := totalLE_len ls
 go_enter Tryd.func26, Tryd.ntmps26
 go_wp2
 go_loopw [3, 4] (fun v i W => ∃ k : Nat, k ≤ ls.length ∧ i = .int .i64 k ∧ v = .string (bo (catL (ls.take k))) ∧ (∀ l ∈ ls.take k, okB l = true) ∧ Below w.heap.size w W) (fun _ i _ => ls.length - (intOf i).toNat)
 case atStart => exact ⟨0, Nat.zero_le _, rfl, rfl, fun l hl => by simp at hl, Below.refl _ _⟩
 case round =>
  obtain ⟨k, hk, rfl, rfl, hok, hb⟩ := hrel
  have HOK := Lib.hid hok
  have hT : (bo (catL (ls.take k))).size ≤ 4190000 := by rw [bo_size]; have h1 := cat_total hok; have h2 := totalLE_take_le ls k; omega
  clear hok
  by_cases hkl : k < ls.length
  ·
   obtain ⟨b, o, rfl, hbB, hc0, hc1⟩ := (hr.below hb).atLE hkl
   have hfk := hf _ (List.getElem_mem hkl)
   have hbl : b < wr.heap.size := Nat.lt_of_lt_of_le hbB hb.size
   cases hok : okB ls[k]
   ·
    have HO := Lib.hid hok
    have HN := Lib.hid (textsL_no hkl hok)
    clear hok
    go_wp2_with (go_at_call 16; refine (specLOk ls[k] _ hfk).mono ?_; rw [HO.out]; rintro e w' ⟨rfl, hb2⟩)
    go_ret
    exact ⟨ret_s (by rw [HN.out]; rfl), below_next hb hb2⟩
   ·
    have HO := Lib.hid hok
    have HX := Lib.hid (show textL ls[k] = enc ls[k] from by unfold textL; rw [hok]; rfl)
    have HZ := Lib.hid (enc_length hok)
    have hb40 : ls[k].b.size ≤ 40 := by unfold okB at hok; simp only [Bool.and_eq_true, decide_eq_true_eq] at hok; omega
    clear hok
    go_wp2_with fail
    refine (specLOk ls[k] _ hfk).mono ?_
    rw [HO.out]
    rintro e w' ⟨rfl, hb2⟩
    have p0 : w'.cell? ⟨b, o + k * 2, none⟩ = some (.string ls[k].s) := (hb2.cell hbl).trans hc0
    have p1 : w'.cell? ⟨b, o + k * 2 + 1, none⟩ = some (.string ls[k].b) := (hb2.cell (p := ⟨b, o + k * 2 + 1, none⟩) hbl).trans hc1
    go_wp2_with fail
    refine (specText ls[k] _ hfk).mono ?_
    rw [HX.out]
    rintro e w'' ⟨rfl, hb3⟩
    have zE : (bo (enc ls[k])).size = 3 + ls[k].b.size := by rw [bo_size]; exact HZ.out
    have HA := Lib.hid (show bo (catL (ls.take k)) ++ bo (enc ls[k]) = bo (catL (ls.take (k + 1))) from by rw [cat_take_succ hkl, bo_append])
    go_wp2
    go_roundw
    case rel => exact ⟨k + 1, by omega, by go_num, by rw [HA.out], ok_take_succ hkl HOK.out HO.out, below_next (below_next hb hb2) hb3⟩
    case measure => simp [intOf]; omega
  ·
   have HK := Lib.hid (show k = ls.length from by omega)
   go_wp2
   go_ret
   refine ⟨ret_s ?_, hb⟩
   have h1 := HOK.out
   rw [HK.out, List.take_length] at h1 ⊢
   rw [textsL_ok h1]
end Go.Proofs.YtilcncnhkidndaaDoor
