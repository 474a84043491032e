/- HallNew: the marks of the laws on three who are gone, and how they are held. -/
import Derived.Test.YtheblejlmlfddaaHnS
namespace Go.Proofs.Ytheblejlmlfddaa
open Go.RowKit
set_option linter.unusedVariables false
set_option maxRecDepth 100000

theorem markWZ (k : Int) (w : World) : Calls Try.prog 47 #[.slice none 0 0, .int .i64 k] w fun e w' => e = .returned (.int .i64 k) ∧ w = w' := by
 go_enter Try.func47, Try.ntmps47
 go_wp2
 go_loop [1, 5] (fun kk i => kk = .int .i64 k ∧ i = .int .i64 0) (fun _ _ => 0)
 case atStart => exact ⟨rfl, rfl⟩
 case round =>
  obtain ⟨rfl, rfl⟩ := hrel
  go_wp2
  go_ret
  exact ⟨rfl, rfl⟩
theorem markNZ (k : Int) (w : World) : Calls Try.prog 48 #[.slice none 0 0, .int .i64 k] w fun e w' => e = .returned (.int .i64 k) ∧ w = w' := by
 go_enter Try.func48, Try.ntmps48
 go_wp2
 go_loop [1, 5] (fun kk i => kk = .int .i64 k ∧ i = .int .i64 0) (fun _ _ => 0)
 case atStart => exact ⟨rfl, rfl⟩
 case round =>
  obtain ⟨rfl, rfl⟩ := hrel
  go_wp2
  go_ret
  exact ⟨rfl, rfl⟩
theorem heldWZ (k : Int) (w : World) : Calls Try.prog 50 #[.slice none 0 0, .int .i64 k] w fun e w' => e = .returned (.int .i64 k) ∧ w = w' := by
 go_enter Try.func50, Try.ntmps50
 go_wp2
 go_loop [1, 5] (fun kk i => kk = .int .i64 k ∧ i = .int .i64 0) (fun _ _ => 0)
 case atStart => exact ⟨rfl, rfl⟩
 case round =>
  obtain ⟨rfl, rfl⟩ := hrel
  go_wp2
  go_ret
  exact ⟨rfl, rfl⟩
theorem heldNZ (k : Int) (w : World) : Calls Try.prog 51 #[.slice none 0 0, .int .i64 k] w fun e w' => e = .returned (.int .i64 k) ∧ w = w' := by
 go_enter Try.func51, Try.ntmps51
 go_wp2
 go_loop [1, 5] (fun kk i => kk = .int .i64 k ∧ i = .int .i64 0) (fun _ _ => 0)
 case atStart => exact ⟨rfl, rfl⟩
 case round =>
  obtain ⟨rfl, rfl⟩ := hrel
  go_wp2
  go_ret
  exact ⟨rfl, rfl⟩

/-- one that is marked from k on -/
def mT (k : Nat) : TT := ⟨⟨(k : Int) % 3 == 0, ((k : Int) + 1) % 3 == 0, (k : Int) + 1 + 1, [], [], ((k : Int) + 1 + 1 + 1) % 3 == 0, ((k : Int) + 1 + 1 + 1 + 1) % 3 == 0, mt (k + 5)⟩, none, 0, none, 0⟩
/-- three, of which the first j are marked -/
def mL (j : Nat) : List TT := [if 0 < j then mT 1 else g0, if 1 < j then mT 7 else g0, if 2 < j then mT 13 else g0]
theorem mL_get {j i : Nat} (hi : i < 3) : (mL j)[i]? = some (if i < j then mT (6 * i + 1) else g0) := by
 match i, hi with
 | 0, _ => rfl
 | 1, _ => rfl
 | 2, _ => rfl
theorem fill_mL {cs : Array Value} {j : Nat} (h : FillG (mL j) cs 3) (hs : cs.size = 24) (hj : j < 3) {a b c d e f : Value} (hv : csTT (mT (6 * j + 1)) = [a, b, c, .slice none 0 0, .slice none 0 0, d, e, f]) :
  FillG (mL (j + 1)) ((((((cs.setIfInBounds (j * 8) a).setIfInBounds (j * 8 + 1) b).setIfInBounds (j * 8 + 2) c).setIfInBounds (j * 8 + 5) d).setIfInBounds (j * 8 + 6) e).setIfInBounds (j * 8 + 7) f) 3 := by
 intro i r hi hr m u hm
 have hm8 : m < 8 := csG_lt hm
 show _[i * 8 + m]? = _
 rw [mL_get hi] at hr
 by_cases e1 : i = j
 ·
  subst e1
  rw [if_pos (by omega)] at hr
  obtain rfl := Option.some.inj hr
  have hm' : ([a, b, c, .slice none 0 0, .slice none 0 0, d, e, f] : List Value)[m]? = some u := by rw [← hv]; exact hm
  have hg : ∀ m' u', (csTT g0)[m']? = some u' → cs[i * 8 + m']? = some u' := fun m' u' hu => h i g0 hi (by rw [mL_get hi, if_neg (by omega)]) m' u' hu
  have g3 : cs[i * 8 + 3]? = some (.slice none 0 0) := hg 3 _ rfl
  have g4 : cs[i * 8 + 4]? = some (.slice none 0 0) := hg 4 _ rfl
  match m, hm8, hm' with
  | 0, _, hm' => obtain rfl := Option.some.inj hm'; simp [Array.getElem?_setIfInBounds, hs]; omega
  | 1, _, hm' => obtain rfl := Option.some.inj hm'; simp [Array.getElem?_setIfInBounds, hs]; omega
  | 2, _, hm' => obtain rfl := Option.some.inj hm'; simp [Array.getElem?_setIfInBounds, hs]; omega
  | 3, _, hm' => obtain rfl := Option.some.inj hm'; simp [Array.getElem?_setIfInBounds, hs, g3]
  | 4, _, hm' => obtain rfl := Option.some.inj hm'; simp [Array.getElem?_setIfInBounds, hs, g4]
  | 5, _, hm' => obtain rfl := Option.some.inj hm'; simp [Array.getElem?_setIfInBounds, hs]; omega
  | 6, _, hm' => obtain rfl := Option.some.inj hm'; simp [Array.getElem?_setIfInBounds, hs]; omega
  | 7, _, hm' => obtain rfl := Option.some.inj hm'; simp [Array.getElem?_setIfInBounds, hs]; omega
 ·
  rw [Array.getElem?_setIfInBounds_ne (by omega), Array.getElem?_setIfInBounds_ne (by omega), Array.getElem?_setIfInBounds_ne (by omega), Array.getElem?_setIfInBounds_ne (by omega), Array.getElem?_setIfInBounds_ne (by omega), Array.getElem?_setIfInBounds_ne (by omega)]
  refine h i r hi ?_ m u hm
  rw [mL_get hi, ← hr]
  by_cases e2 : i < j
  ·
   rw [if_pos e2, if_pos (by omega)]
  ·
   rw [if_neg e2, if_neg (by omega)]

section
variable {W : World} {g : Nat} {t : TypeId} {cs : Array Value}
theorem st3 (B : Blk W g t cs) (o : Nat) (a b c : Value) : ∃ V, ((W.setCell ⟨g, o, none⟩ a).setCell ⟨g, o + 1, none⟩ b).setCell ⟨g, o + 2, none⟩ c = V ∧ V.heap.size = W.heap.size ∧ Blk V g t (((cs.setIfInBounds o a).setIfInBounds (o + 1) b).setIfInBounds (o + 2) c) ∧ Chg (fun k => k = g) W V :=
 ⟨_, rfl, by simp [World.setCell], ((B.set_ o a).set_ _ b).set_ _ c, (((Chg.refl _ _).st _ a).st _ b).st _ c⟩
theorem st56 (B : Blk W g t cs) (o : Nat) (a b : Value) : ∃ V, (W.setCell ⟨g, o + 5, none⟩ a).setCell ⟨g, o + 6, none⟩ b = V ∧ V.heap.size = W.heap.size ∧ Blk V g t ((cs.setIfInBounds (o + 5) a).setIfInBounds (o + 6) b) ∧ Chg (fun k => k = g) W V :=
 ⟨_, rfl, by simp [World.setCell], (B.set_ _ a).set_ _ b, ((Chg.refl _ _).st _ a).st _ b⟩
theorem st7 (B : Blk W g t cs) (o : Nat) (a : Value) : ∃ V, W.setCell ⟨g, o + 7, none⟩ a = V ∧ V.heap.size = W.heap.size ∧ Blk V g t (cs.setIfInBounds (o + 7) a) ∧ Chg (fun k => k = g) W V :=
 ⟨_, rfl, by simp [World.setCell], B.set_ _ a, (Chg.refl _ _).st _ a⟩
end

theorem markTextZ (K : Nat) (w : World) (hk : K + 5 ≤ 8388608) : Calls Try.prog 33 #[.int .i64 ((K : Int) + 1 + 1 + 1 + 1 + 1)] w fun e w' => e = .returned (.string (mt (K + 5))) ∧ Below w.heap.size w w' := by
 have h := markText_c (K + 5) w (by omega) hk
 rw [show ((K + 5 : Nat) : Int) = (K : Int) + 1 + 1 + 1 + 1 + 1 by omega] at h
 exact h

set_option maxHeartbeats 4000000 in
theorem markTalkS_c {g : Nat} {cs0 : Array Value} (w : World) (hblk : Blk w g 57 cs0) (hs0 : cs0.size = 24) (hf0 : FillG (mL 0) cs0 3) :
  Calls Try.prog 27 #[.slice (some ⟨g, 0, none⟩) 3 3, .int .i64 1] w fun e w' => e = .returned (.int .i64 19) ∧ ∃ cs, Blk w' g 57 cs ∧ cs.size = 24 ∧ FillG (mL 3) cs 3 ∧ Chg (fun k => k = g) w w' := by
 go_enter Try.func27, Try.ntmps27
 go_wp2
 go_loopw [1, 5] (fun kk i W => ∃ j : Nat, j ≤ 3 ∧ i = .int .i64 j ∧ kk = .int .i64 (6 * j + 1 : Nat) ∧ ∃ cs, Blk W g 57 cs ∧ cs.size = 24 ∧ FillG (mL j) cs 3 ∧ Chg (fun k => k = g) w W) (fun _ i _ => 3 - (intOf i).toNat)
 case atStart => exact ⟨0, by omega, rfl, rfl, cs0, hblk, hs0, hf0, Chg.refl _ _⟩
 case round =>
  clear hblk hs0 hf0
  obtain ⟨j, hj, rfl, rfl, cs, B, hsz, hcs, hg⟩ := hrel
  by_cases hj3 : j < 3
  ·
   have hg0 : ∀ m u, (csTT g0)[m]? = some u → cs[j * 8 + m]? = some u := fun m u hu => hcs j g0 hj3 (by rw [mL_get hj3, if_neg (by omega)]) m u hu
   have c0 : wr.cell? ⟨g, j * 8, none⟩ = some (.bool false) := by rw [B.cell]; exact hg0 0 _ rfl
   have c1 : wr.cell? ⟨g, j * 8 + 1, none⟩ = some (.bool false) := by rw [B.cell]; exact hg0 1 _ rfl
   have c2 : wr.cell? ⟨g, j * 8 + 2, none⟩ = some (.int .i64 0) := by rw [B.cell]; exact hg0 2 _ rfl
   have c3 : wr.cell? ⟨g, j * 8 + 3, none⟩ = some (.slice none 0 0) := by rw [B.cell]; exact hg0 3 _ rfl
   have f0 := B.fz
   have HF := Lib.hid hcs
   have HZ := Lib.hid hsz
   clear hcs hsz
   have hkj : 0 < 6 * j + 1 := by omega
   have hkj2 : 6 * j + 1 + 6 ≤ 8388608 := by omega
   obtain ⟨K, HK⟩ : ∃ K, Hid (6 * j + 1 = K) := ⟨_, Lib.hid rfl⟩
   rw [HK.out] at hkj hkj2 ⊢
   obtain ⟨V1, eV1, hV1, B1, k1⟩ := st3 B (j * 8) (.bool ((K : Int) % 3 == 0)) (.bool (((K : Int) + 1) % 3 == 0)) (.int .i64 ((K : Int) + 1 + 1))
   have d3 : V1.cell? ⟨g, j * 8 + 3, none⟩ = some (.slice none 0 0) := by
    rw [B1.cell, Array.getElem?_setIfInBounds_ne (by omega), Array.getElem?_setIfInBounds_ne (by omega), Array.getElem?_setIfInBounds_ne (by omega)]; exact hg0 3 _ rfl
   have d4 : V1.cell? ⟨g, j * 8 + 4, none⟩ = some (.slice none 0 0) := by
    rw [B1.cell, Array.getElem?_setIfInBounds_ne (by omega), Array.getElem?_setIfInBounds_ne (by omega), Array.getElem?_setIfInBounds_ne (by omega)]; exact hg0 4 _ rfl
   have d5 : V1.cell? ⟨g, j * 8 + 5, none⟩ = some (.bool false) := by
    rw [B1.cell, Array.getElem?_setIfInBounds_ne (by omega), Array.getElem?_setIfInBounds_ne (by omega), Array.getElem?_setIfInBounds_ne (by omega)]; exact hg0 5 _ rfl
   have d6 : V1.cell? ⟨g, j * 8 + 6, none⟩ = some (.bool true) := by
    rw [B1.cell, Array.getElem?_setIfInBounds_ne (by omega), Array.getElem?_setIfInBounds_ne (by omega), Array.getElem?_setIfInBounds_ne (by omega)]; exact hg0 6 _ rfl
   have f1 := B1.fz
   have D7 : ∀ V, Blk V g 57 ((((((cs.setIfInBounds (j * 8) (.bool ((K : Int) % 3 == 0))).setIfInBounds (j * 8 + 1) (.bool (((K : Int) + 1) % 3 == 0))).setIfInBounds (j * 8 + 2) (.int .i64 ((K : Int) + 1 + 1))).setIfInBounds (j * 8 + 5) (.bool (((K : Int) + 1 + 1 + 1) % 3 == 0))).setIfInBounds (j * 8 + 6) (.bool (((K : Int) + 1 + 1 + 1 + 1) % 3 == 0)))) → V.cell? ⟨g, j * 8 + 7, none⟩ = some (.string ByteArray.empty) := by
    intro V BV
    rw [BV.cell, Array.getElem?_setIfInBounds_ne (by omega), Array.getElem?_setIfInBounds_ne (by omega), Array.getElem?_setIfInBounds_ne (by omega), Array.getElem?_setIfInBounds_ne (by omega), Array.getElem?_setIfInBounds_ne (by omega)]; exact hg0 7 _ rfl
   have HG := Lib.hid (hg.trans k1 fun _ _ h => h)
   clear B k1 hg hg0
   go_wp2_with fail
   refine (markWZ _ _).mono ?_
   rintro e w1 ⟨rfl, rfl⟩
   go_wp2_with fail
   refine (markNZ _ _).mono ?_
   rintro e w1 ⟨rfl, rfl⟩
   clear c0 c1 c2 c3 f0 eV1
   obtain ⟨V2, eV2, hV2, B2, k2⟩ := st56 B1 (j * 8) (.bool (((K : Int) + 1 + 1 + 1) % 3 == 0)) (.bool (((K : Int) + 1 + 1 + 1 + 1) % 3 == 0))
   have d7 : V2.cell? ⟨g, j * 8 + 7, none⟩ = some (.string ByteArray.empty) := D7 V2 B2
   have f2 := B2.fz
   go_wp2_with fail
   refine (markTextZ K _ (by omega)).mono ?_
   rintro e w3 ⟨rfl, hb3⟩
   clear f1 d3 d4 d5 d6 eV2
   have e7 := (hb3.cell (p := ⟨g, j * 8 + 7, none⟩) B2.lt).trans d7
   have B3 := B2.next hb3
   have f3 := B3.fz
   obtain ⟨V4, eV4, hV4, B4, k4⟩ := st7 B3 (j * 8) (.string (mt (K + 5)))
   have HC := Lib.hid (((HG.out.trans k2 fun _ _ h => h).below hb3).trans k4 fun _ _ h => h)
   have HV : csTT (mT (6 * j + 1)) = [.bool ((K : Int) % 3 == 0), .bool (((K : Int) + 1) % 3 == 0), .int .i64 ((K : Int) + 1 + 1), .slice none 0 0, .slice none 0 0, .bool (((K : Int) + 1 + 1 + 1) % 3 == 0), .bool (((K : Int) + 1 + 1 + 1 + 1) % 3 == 0), .string (mt (K + 5))] := by rw [HK.out]; rfl
   have HFL := Lib.hid (fill_mL HF.out HZ.out hj3 HV)
   have HSZ := Lib.hid (show _ = 24 from (by simp only [Array.size_setIfInBounds]; exact HZ.out : ((((((cs.setIfInBounds (j * 8) (.bool ((K : Int) % 3 == 0))).setIfInBounds (j * 8 + 1) (.bool (((K : Int) + 1) % 3 == 0))).setIfInBounds (j * 8 + 2) (.int .i64 ((K : Int) + 1 + 1))).setIfInBounds (j * 8 + 5) (.bool (((K : Int) + 1 + 1 + 1) % 3 == 0))).setIfInBounds (j * 8 + 6) (.bool (((K : Int) + 1 + 1 + 1 + 1) % 3 == 0))).setIfInBounds (j * 8 + 7) (.string (mt (K + 5)))).size = 24))
   clear B1 B2 B3 k2 hb3 k4 HV HF HZ HG
   go_wp2
   go_roundw
   case rel => exact ⟨j + 1, by omega, by go_num, by rw [← HK.out]; go_num, _, B4, HSZ.out, HFL.out, HC.out⟩
   case measure => simp [intOf]; omega
  ·
   have hjj : j = 3 := by omega
   subst hjj
   go_wp2
   go_ret
   exact ⟨rfl, cs, B, hsz, hcs, hg⟩

set_option maxHeartbeats 4000000 in
theorem heldTalkS_c {A : Option Addr} {c : Nat} (w : World) (hr : RdG w w.heap.size A (mL 3)) :
  Calls Try.prog 29 #[.slice A 3 c, .int .i64 1] w fun e w' => e = .returned (.int .i64 19) ∧ Below w.heap.size w w' := by
 go_enter Try.func29, Try.ntmps29
 go_wp2
 go_loopw [1, 5] (fun kk i W => ∃ j : Nat, j ≤ 3 ∧ i = .int .i64 j ∧ kk = .int .i64 (6 * j + 1 : Nat) ∧ Below w.heap.size w W) (fun _ i _ => 3 - (intOf i).toNat)
 case atStart => exact ⟨0, by omega, rfl, rfl, Below.refl _ _⟩
 case round =>
  obtain ⟨j, hj, rfl, rfl, hb⟩ := hrel
  by_cases hj3 : j < 3
  ·
   have e := mL_get (j := 3) hj3
   rw [if_pos hj3] at e
   obtain ⟨b, o, rfl, hbB, h1⟩ := (hr.below hb) j _ e
   clear e
   have hq : b < wr.heap.size := Nat.lt_of_lt_of_le hbB hb.size
   have hkj2 : 6 * j + 1 + 6 ≤ 8388608 := by omega
   obtain ⟨K, HK⟩ : ∃ K, Hid (6 * j + 1 = K) := ⟨_, Lib.hid rfl⟩
   rw [HK.out] at hkj2 h1 ⊢
   have c0 : wr.cell? ⟨b, o + j * 8, none⟩ = some (.bool ((K : Int) % 3 == 0)) := h1 0 _ rfl
   have c1 : wr.cell? ⟨b, o + j * 8 + 1, none⟩ = some (.bool (((K : Int) + 1) % 3 == 0)) := h1 1 _ rfl
   have c2 : wr.cell? ⟨b, o + j * 8 + 2, none⟩ = some (.int .i64 ((K : Int) + 1 + 1)) := h1 2 _ rfl
   have c3 : wr.cell? ⟨b, o + j * 8 + 3, none⟩ = some (.slice none 0 0) := h1 3 _ rfl
   have c4 : wr.cell? ⟨b, o + j * 8 + 4, none⟩ = some (.slice none 0 0) := h1 4 _ rfl
   have c5 : wr.cell? ⟨b, o + j * 8 + 5, none⟩ = some (.bool (((K : Int) + 1 + 1 + 1) % 3 == 0)) := h1 5 _ rfl
   have c6 : wr.cell? ⟨b, o + j * 8 + 6, none⟩ = some (.bool (((K : Int) + 1 + 1 + 1 + 1) % 3 == 0)) := h1 6 _ rfl
   have c7 : wr.cell? ⟨b, o + j * 8 + 7, none⟩ = some (.string (mt (K + 5))) := h1 7 _ rfl
   clear h1
   have hd : decide ((K : Int) + 1 + 1 + 1 < 0) = false := by simp; omega
   have hbT : Below wr.heap.size wr wr.drew := (Below.refl _ _).drew
   go_wp2_with fail
   refine (heldWZ _ _).mono ?_
   rintro e w1 ⟨rfl, rfl⟩
   go_wp2_with fail
   refine (heldNZ _ _).mono ?_
   rintro e w1 ⟨rfl, rfl⟩
   go_wp2
   go_region_held3 (fun W => W.cell? ⟨b, o + j * 8 + 7, none⟩ = some (.string (mt (K + 5)))) (first | exact c7 | exact (hbT.cell hq).trans c7)
    (first | (go_at_call 33; refine (markTextZ K _ (by omega)).mono ?_; rintro e w' ⟨rfl, hb2⟩; have hbT := hbT.trans (hb2.mono hbT.size); clear hb2))
   go_wp2
   go_roundw
   case rel => exact ⟨j + 1, by omega, by go_num, by rw [← HK.out]; go_num, hb.trans (hbT.mono hb.size)⟩
   case measure => simp [intOf]; omega
  ·
   have hjj : j = 3 := by omega
   subst hjj
   go_wp2
   go_ret
   exact ⟨rfl, hb⟩
end Go.Proofs.Ytheblejlmlfddaa
