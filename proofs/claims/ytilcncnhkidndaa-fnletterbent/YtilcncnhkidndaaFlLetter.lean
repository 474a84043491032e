/- Slices of Letter: how they lie in memory; the laws' own copies, sizes, comparisons and marks of them. -/
import Derived.Test.YtilcncnhkidndaaE1
import Derived.Test.YtilcncnhkidndaaA4
import Derived.Deep.RegionHeld3
namespace Go.Proofs.Ytilcncnhkidndaa
open Go.RowKit
set_option linter.unusedVariables false
set_option maxRecDepth 100000

structure LE where
 s : ByteArray
 b : ByteArray

def csLE (x : LE) : List Value := [.string x.s, .string x.b]
def agLE (x : LE) : Value := .agg #[.string x.s, .string x.b]
instance elLE : Elt LE where
 T := 24
 wd := 2
 byt := 32
 zero := .agg #[.string ByteArray.empty, .string ByteArray.empty]
 cs := csLE
 len := fun _ => rfl
 pos := by omega
 one := by
  intro a u hu
  simp only [csLE, List.mem_cons, List.not_mem_nil, or_false] at hu
  rcases hu with rfl | rfl <;> rfl
 info := by kernel_rfl
 zsize := rfl
 small := by omega

section
variable {w w' : World} {B : Nat} {A : Option Addr} {l : List LE}
theorem RdG.atLE (h : RdG w B A l) {i : Nat} (hi : i < l.length) : ∃ b o, A = some ⟨b, o, none⟩ ∧ b < B ∧ w.cell? ⟨b, o + i * 2, none⟩ = some (.string l[i].s) ∧ w.cell? ⟨b, o + i * 2 + 1, none⟩ = some (.string l[i].b) := by
 obtain ⟨b, o, e, hb, h1⟩ := h.at_ hi
 exact ⟨b, o, e, hb, h1 0 _ rfl, h1 1 _ rfl⟩
theorem RdG.fixLE (h : RdG w B A l) {b o : Nat} (e : A = some ⟨b, o, none⟩) {i : Nat} (hi : i < l.length) : w.cell? ⟨b, o + i * 2, none⟩ = some (.string l[i].s) ∧ w.cell? ⟨b, o + i * 2 + 1, none⟩ = some (.string l[i].b) := by
 obtain ⟨hb, h1⟩ := h.fix e hi
 exact ⟨h1 0 _ rfl, h1 1 _ rfl⟩
end
theorem rdOneLE (w : World) (x : LE) (t : TypeId) : RdG (w.alloc (.cells #[.string x.s, .string x.b] t)) (w.alloc (.cells #[.string x.s, .string x.b] t)).heap.size (some ⟨w.heap.size, 0, none⟩) [x] :=
 rdOneG w x _ t rfl

/-- it fits Go's kinds -/
def FitLE (x : LE) : Prop := x.s.size ≤ maxLen ∧ x.b.size ≤ maxLen
def FitLEs (l : List LE) : Prop := ∀ r ∈ l, FitLE r

set_option maxRecDepth 100000 in
set_option maxHeartbeats 1000000 in
theorem toLetter_c (x : LE) (w : World) :
  Calls Try.prog 13 #[.agg #[.string x.s, .string x.b]] w fun e w' => e = .returned (.agg #[.string x.s, .string x.b]) ∧ Below w.heap.size w w' := by
 go_enter Try.func13, Try.ntmps13
 go_wp2
 exact bodyPost_ret (v := .agg #[.string x.s, .string x.b]) (by simp [results, Try.results13, go_sem]) rfl ⟨rfl, (by (repeat (first | exact Below.refl _ _ | (refine Below.setCell ?_ (by simp <;> omega) _) | (refine Below.alloc ?_ (by simp <;> omega) _) | (refine Below.drew ?_))))⟩

set_option maxRecDepth 100000 in
set_option maxHeartbeats 1000000 in
theorem toLetterS_c (A : Option Addr) (c : Nat) (l : List LE) (w : World) (hc : l.length ≤ c) (hcm : l.length ≤ 1048576) (hr : RdG w w.heap.size A l) :
  Calls Try.prog 17 #[.slice A l.length c] w fun e w' => ∃ g, e = .returned (.slice (some ⟨g, 0, none⟩) l.length l.length) ∧ w.heap.size ≤ g ∧ Blk w' g 24 (cellsG l).toArray ∧ Below w.heap.size w w' := by
 have hmk := mkG (α := LE) 29 Try.underlying29 l.length l.length (Nat.le_refl _) (by omega)
 go_enter Try.func17, Try.ntmps17
 go_wp2
 clear hmk
 go_loopw [4] (fun i W => ∃ k : Nat, k ≤ l.length ∧ i = .int .i64 k ∧ ∃ c : Array Value, Blk W w.heap.size 24 c ∧ c.size = l.length * 2 ∧ FillG l c k ∧ Below w.heap.size w W) (fun i _ => l.length - (intOf i).toNat)
 case atStart => exact ⟨0, Nat.zero_le _, rfl, _, heap_alloc_new _ _, freshG_size (α := LE) _, FillG.zero _ _, (Below.refl _ _).alloc (Nat.le_refl _) _⟩
 case round =>
  obtain ⟨k, hk, rfl, cs, hblk, hsz, hcs, hb⟩ := hrel
  by_cases hkl : k < l.length
  ·
   obtain ⟨b, o, rfl, hbB, hc0, hc1⟩ := (hr.below hb).atLE hkl
   have HCS := Lib.hid hcs
   have HSZ := Lib.hid hsz
   clear hcs hsz
   have hs0 : k * 2 < cs.size := by rw [HSZ.out]; omega
   have hs1 : k * 2 + 1 < cs.size := by rw [HSZ.out]; omega
   go_wp2_with ((go_at_call 13; refine (toLetter_c l[k] _).mono ?_; rintro e w' ⟨rfl, hb2⟩; have hblk2 := Lib.hid (hblk.next hb2); have g0 : w'.cell? ⟨w.heap.size, k * 2, none⟩ = some cs[k * 2] := by { rw [hblk2.out.cell]; exact Array.getElem?_eq_getElem hs0 }; have z0 := hblk2.out.free (k * 2); have g1 : w'.cell? ⟨w.heap.size, k * 2 + 1, none⟩ = some cs[k * 2 + 1] := by { rw [hblk2.out.cell]; exact Array.getElem?_eq_getElem hs1 }; have z1 := hblk2.out.free (k * 2 + 1)))
   go_roundw
   case rel => exact ⟨k + 1, by omega, by go_num, putC cs (k * 2) (csLE l[k]), ((hblk2.out.set_ _ _).set_ _ _), (putC_size _ _ _).trans HSZ.out, HCS.out.step hkl (Nat.le_of_eq HSZ.out.symm) _ (List.getElem?_eq_getElem hkl), (((hb.trans (hb2.mono hb.size)).setCell (Nat.le_refl _) _).setCell (Nat.le_refl _) _)⟩
   case measure => simp [intOf]; omega
  ·
   have hkk : k = l.length := by omega
   have HK := Lib.hid hkk
   have HCS := Lib.hid hcs
   have HSZ := Lib.hid hsz
   clear hkk hcs hsz
   go_wp2
   go_ret
   refine ⟨_, rfl, Nat.le_refl _, ?_, hb⟩
   have hf := HCS.out
   rw [HK.out] at hf
   rw [← hf.full HSZ.out]
   exact hblk

theorem toLetterOwn_c (A : Option Addr) (c : Nat) (l : List LE) (w : World) (hc : l.length ≤ c) (hcm : l.length ≤ 1048576) (hr : RdG w w.heap.size A l) :
  Calls Try.prog 17 #[.slice A l.length c] w fun e w' => ∃ g, e = .returned (.slice (some ⟨g, 0, none⟩) l.length l.length) ∧ OwnG w' w.heap.size (.slice (some ⟨g, 0, none⟩) l.length l.length) l ∧ w.heap.size ≤ g ∧ g < w'.heap.size ∧ Below w.heap.size w w' := by
 refine (toLetterS_c A c l w hc hcm hr).mono ?_
 rintro e w' ⟨g, rfl, h1, h2, h3⟩
 exact ⟨g, rfl, OwnG.of_blk h1 h2 (by unfold maxLen; omega), h1, h2.lt, h3⟩

/-- values and letters of a list -/
def totalLE (l : List LE) : Nat := (l.map fun r => (r.s.size + r.b.size) + 1).sum
theorem totalLE_take_succ (l : List LE) (k : Nat) (h : k < l.length) : totalLE (l.take (k + 1)) = totalLE (l.take k) + ((l[k].s.size + l[k].b.size) + 1) := by
 unfold totalLE; rw [List.take_succ_eq_append_getElem h, List.map_append, List.sum_append]; simp
theorem totalLE_take_le (l : List LE) (k : Nat) : totalLE (l.take k) ≤ totalLE l := by
 conv => rhs; rw [← List.take_append_drop k l]
 unfold totalLE; rw [List.map_append, List.sum_append]; omega
theorem totalLE_take_ge (l : List LE) (k : Nat) : totalLE (l.take k) + (l.length - k) ≤ totalLE l := by
 have h2 : (l.drop k).length ≤ totalLE (l.drop k) := by
  generalize l.drop k = m
  induction m with
  | nil => simp
  | cons a m ih => unfold totalLE at ih ⊢; simp only [List.map_cons, List.sum_cons, List.length_cons]; omega
 have h3 : totalLE l = totalLE (l.take k) + totalLE (l.drop k) := by
  conv => lhs; rw [← List.take_append_drop k l]
  unfold totalLE; rw [List.map_append, List.sum_append]
 rw [List.length_drop] at h2
 omega
theorem totalLE_len (l : List LE) : l.length ≤ totalLE l := by have := totalLE_take_ge l 0; simp [totalLE] at this ⊢; omega

set_option maxHeartbeats 1000000 in
theorem szLetter_c (x : LE) (left : Int) (w : World) (hs : x.s.size ≤ maxLen ∧ x.b.size ≤ maxLen) (h0 : 0 ≤ left) (h1 : left ≤ 1048576) :
  Calls Try.prog 12 #[.agg #[.string x.s, .string x.b], .int .i64 left] w fun e w' => e = .returned (.int .i64 (szR left (x.s.size + x.b.size))) ∧ Below w.heap.size w w' := by
 unfold maxLen at hs
 by_cases g0 : left < ((x.s.size) : Nat)
 ·
  have hd0 : decide (left - (x.s.size : Int) < 0) = true := by simp; omega
  have HN := Lib.hid (szR_neg (left := left) (k := (x.s.size + x.b.size)) (by omega))
  go_enter Try.func12, Try.ntmps12
  go_wp2
  go_ret
  exact ⟨ret_int HN.out.symm, (by (repeat (first | exact Below.refl _ _ | (refine Below.setCell ?_ (by simp <;> omega) _) | (refine Below.alloc ?_ (by simp <;> omega) _) | (refine Below.drew ?_))))⟩
 ·
  have hd0 : decide (left - (x.s.size : Int) < 0) = false := by simp; omega
  by_cases g1 : left < ((x.s.size + x.b.size) : Nat)
  ·
   have hd1 : decide (left - (x.s.size : Int) - (x.b.size : Int) < 0) = true := by simp; omega
   have HN := Lib.hid (szR_neg (left := left) (k := (x.s.size + x.b.size)) (by omega))
   go_enter Try.func12, Try.ntmps12
   go_wp2
   go_ret
   exact ⟨ret_int HN.out.symm, (by (repeat (first | exact Below.refl _ _ | (refine Below.setCell ?_ (by simp <;> omega) _) | (refine Below.alloc ?_ (by simp <;> omega) _) | (refine Below.drew ?_))))⟩
  ·
   have hd1 : decide (left - (x.s.size : Int) - (x.b.size : Int) < 0) = false := by simp; omega
   have HN := Lib.hid (szR_pos (left := left) (k := (x.s.size + x.b.size)) (by omega))
   have HE := Lib.hid (show left - (x.s.size : Int) - (x.b.size : Int) = left - ((x.s.size + x.b.size) : Nat) from by omega)
   go_enter Try.func12, Try.ntmps12
   go_wp2
   go_ret
   exact ⟨ret_int (by rw [HN.out, ← HE.out]), (by (repeat (first | exact Below.refl _ _ | (refine Below.setCell ?_ (by simp <;> omega) _) | (refine Below.alloc ?_ (by simp <;> omega) _) | (refine Below.drew ?_))))⟩

set_option maxRecDepth 100000 in
set_option maxHeartbeats 1000000 in
theorem szLetterS_c (A : Option Addr) (c : Nat) (l : List LE) (left : Int) (w : World) (hfit : FitLEs l) (hc : l.length ≤ c) (hcm : c ≤ maxLen) (h0 : 0 ≤ left) (h1 : left ≤ 1048576) (hr : RdG w w.heap.size A l) :
  Calls Try.prog 15 #[.slice A l.length c, .int .i64 left] w fun e w' => e = .returned (.int .i64 (szR left (totalLE l))) ∧ Below w.heap.size w w' := by
 unfold maxLen at hcm
 have htl := totalLE_len l
 by_cases h : left < (l.length : Int)
 ·
  have hd : decide (left - (l.length : Int) < 0) = true := by simp; omega
  have HN := Lib.hid (szR_neg (left := left) (k := totalLE l) (by omega))
  go_enter Try.func15, Try.ntmps15
  go_wp2
  go_ret
  exact ⟨ret_int HN.out.symm, Below.refl _ _⟩
 ·
  have hd : decide (left - (l.length : Int) < 0) = false := by simp; omega
  go_enter Try.func15, Try.ntmps15
  go_wp2
  go_loopw [1, 5] (fun lf i W => ∃ k : Nat, k ≤ l.length ∧ i = .int .i64 k ∧ ∃ z : Int, lf = .int .i64 z ∧ z = left - l.length - totalLE (l.take k) + k ∧ 0 ≤ z ∧ z ≤ 1048576 ∧ Below w.heap.size w W) (fun _ i _ => l.length - (intOf i).toNat)
  case atStart => exact ⟨0, Nat.zero_le _, rfl, _, rfl, by simp [totalLE], by omega, by omega, Below.refl _ _⟩
  case round =>
   obtain ⟨k, hk, rfl, z, rfl, hz, hz0, hz1, hb⟩ := hrel
   by_cases hkl : k < l.length
   ·
    obtain ⟨b, o, rfl, hbB, hc0, hc1⟩ := (hr.below hb).atLE hkl
    have hs : l[k].s.size ≤ maxLen ∧ l[k].b.size ≤ maxLen := hfit _ (List.getElem_mem hkl)
    have ht := totalLE_take_succ l k hkl
    have hge := totalLE_take_ge l (k + 1)
    have HZ := Lib.hid hz
    have HT := Lib.hid ht
    clear hz ht
    by_cases hlo : z < ((l[k].s.size + l[k].b.size) : Int)
    ·
     go_wp2_with ((go_at_call 12; refine (szLetter_c l[k] _ _ hs hz0 hz1).mono ?_; rintro e w' ⟨rfl, hb2⟩; rw [szR_neg hlo]))
     go_ret
     exact ⟨ret_int (szR_neg (by have := HZ.out; have := HT.out; omega)).symm, hb.trans (hb2.mono hb.size)⟩
    ·
     have hlo' : ((l[k].s.size + l[k].b.size) : Int) ≤ z := by omega
     go_wp2_with ((go_at_call 12; refine (szLetter_c l[k] _ _ hs hz0 hz1).mono ?_; rintro e w' ⟨rfl, hb2⟩; rw [szR_pos hlo']))
     go_roundw
     case rel => exact ⟨k + 1, by omega, by go_num, _, rfl, by have := HZ.out; have := HT.out; omega, by omega, by omega, hb.trans (hb2.mono hb.size)⟩
     case measure => simp [intOf]; omega
   ·
    have hkk : k = l.length := by omega
    have HK := Lib.hid hkk
    have HZ := Lib.hid hz
    clear hkk hz
    go_wp2
    go_ret
    refine ⟨ret_int ?_, hb⟩
    have e1 := HZ.out
    rw [HK.out, List.take_length] at e1
    rw [szR_pos (by omega)]
    omega

open Classical in
noncomputable def eqLE (a b : LE) : Bool := decide (a = b)
theorem eqLE_yes {a b : LE} (h : a = b) : eqLE a b = true := by unfold eqLE; simp [h]
theorem eqLE_no {a b : LE} (h : a ≠ b) : eqLE a b = false := by unfold eqLE; simp [h]
theorem eqLE_iff {a b : LE} : eqLE a b = true ↔ a = b := by unfold eqLE; simp
open Classical in
noncomputable def eqLEs (a b : List LE) : Bool := decide (a = b)
theorem eqLEs_yes {a b : List LE} (h : a = b) : eqLEs a b = true := by unfold eqLEs; simp [h]
theorem eqLEs_no {a b : List LE} (h : a ≠ b) : eqLEs a b = false := by unfold eqLEs; simp [h]
theorem eqLEs_iff {a b : List LE} : eqLEs a b = true ↔ a = b := by unfold eqLEs; simp

set_option maxHeartbeats 1000000 in
theorem eqLetter_c (x y : LE) (w : World) :
  Calls Try.prog 27 #[.agg #[.string x.s, .string x.b], .agg #[.string y.s, .string y.b]] w fun e w' => e = .returned (.bool (eqLE x y)) ∧ Below w.heap.size w w' := by
 by_cases h0 : x.s = y.s
 ·
  have b0 : (x.s.toList == y.s.toList) = true := by rw [h0]; simp
  have H0 := Lib.hid h0
  clear h0
  by_cases h1 : x.b = y.b
  ·
   have b1 : (x.b.toList == y.b.toList) = true := by rw [h1]; simp
   have H1 := Lib.hid h1
   clear h1
   have HE := Lib.hid (eqLE_yes (show x = y from by
    revert H0 H1
    clear b0 b1
    cases x; cases y
    intro H0 H1
    have e0 := H0.out
    have e1 := H1.out
    simp only at e0 e1
    subst e0 e1
    rfl))
   go_enter Try.func27, Try.ntmps27
   go_wp2
   go_ret
   exact ⟨ret_bool HE.out.symm, (by (repeat (first | exact Below.refl _ _ | (refine Below.setCell ?_ (by simp <;> omega) _) | (refine Below.alloc ?_ (by simp <;> omega) _) | (refine Below.drew ?_))))⟩
  ·
   have b1 := str_ne h1
   have HE := Lib.hid (eqLE_no (show x ≠ y from fun e => h1 (by rw [e])))
   go_enter Try.func27, Try.ntmps27
   go_wp2
   go_ret
   exact ⟨ret_bool HE.out.symm, (by (repeat (first | exact Below.refl _ _ | (refine Below.setCell ?_ (by simp <;> omega) _) | (refine Below.alloc ?_ (by simp <;> omega) _) | (refine Below.drew ?_))))⟩
 ·
  have b0 := str_ne h0
  have HE := Lib.hid (eqLE_no (show x ≠ y from fun e => h0 (by rw [e])))
  go_enter Try.func27, Try.ntmps27
  go_wp2
  go_ret
  exact ⟨ret_bool HE.out.symm, (by (repeat (first | exact Below.refl _ _ | (refine Below.setCell ?_ (by simp <;> omega) _) | (refine Below.alloc ?_ (by simp <;> omega) _) | (refine Below.drew ?_))))⟩

set_option maxRecDepth 100000 in
set_option maxHeartbeats 1000000 in
theorem eqLetterS_c (A A' : Option Addr) (c c' : Nat) (l l' : List LE) (w : World) (hc : l.length ≤ 2097152) (hc' : l'.length ≤ 2097152) (hr : RdG w w.heap.size A l) (hr' : RdG w w.heap.size A' l') :
  Calls Try.prog 18 #[.slice A l.length c, .slice A' l'.length c'] w fun e w' => e = .returned (.bool (eqLEs l l')) ∧ Below w.heap.size w w' := by
 by_cases hlen : l.length = l'.length
 ·
  have hne : ((l.length : Int) != (l'.length : Int)) = false := by simp [hlen]
  have HL := Lib.hid hlen
  have hle1 : l.length ≤ l'.length := by omega
  have hle2 : l'.length ≤ l.length := by omega
  clear hlen
  go_enter Try.func18, Try.ntmps18
  go_wp2
  go_loopw [5] (fun i W => ∃ k : Nat, k ≤ l.length ∧ i = .int .i64 k ∧ Below w.heap.size w W ∧ l.take k = l'.take k) (fun i _ => l.length - (intOf i).toNat)
  case atStart => exact ⟨0, Nat.zero_le _, rfl, Below.refl _ _, rfl⟩
  case round =>
   obtain ⟨k, hk, rfl, hb, ht⟩ := hrel
   have HT := Lib.hid ht
   clear ht
   by_cases hkl : k < l.length
   ·
    have hkl' : k < l'.length := by omega
    obtain ⟨b, o, rfl, hbB, hc0, hc1⟩ := (hr.below hb).atLE hkl
    obtain ⟨b', o', rfl, hbB', hd0, hd1⟩ := (hr'.below hb).atLE hkl'
    have hq : b < wr.heap.size := Nat.lt_of_lt_of_le hbB hb.size
    have hq' : b' < wr.heap.size := Nat.lt_of_lt_of_le hbB' hb.size
    cases he : eqLE l[k] l'[k]
    ·
     have HN := Lib.hid (eqLEs_no fun h : l = l' => by
      have e : eqLE l[k] l'[k] = true := eqLE_yes (by subst h; rfl)
      rw [he] at e; cases e)
     go_wp2
     go_region_held3 (fun W => W.cell? ⟨b, o + k * 2, none⟩ = some (.string l[k].s) ∧ W.cell? ⟨b, o + k * 2 + 1, none⟩ = some (.string l[k].b) ∧ W.cell? ⟨b', o' + k * 2, none⟩ = some (.string l'[k].s) ∧ W.cell? ⟨b', o' + k * 2 + 1, none⟩ = some (.string l'[k].b)) (first | exact ⟨hc0, hc1, hd0, hd1⟩ | exact ⟨(hb2.cell hq).trans hc0, (hb2.cell hq).trans hc1, (hb2.cell hq').trans hd0, (hb2.cell hq').trans hd1⟩)
      (first | (go_at_call 27; refine (eqLetter_c l[k] l'[k] _).mono ?_; rintro e w' ⟨rfl, hb2⟩))
     go_wp2
     go_ret
     exact ⟨ret_bool HN.out.symm, hb.trans ((Below.drew (Below.refl _ _)).trans (hb2.mono hb.size))⟩
    ·
     have HE := Lib.hid (eqLE_iff.1 he)
     go_wp2
     go_region_held3 (fun W => W.cell? ⟨b, o + k * 2, none⟩ = some (.string l[k].s) ∧ W.cell? ⟨b, o + k * 2 + 1, none⟩ = some (.string l[k].b) ∧ W.cell? ⟨b', o' + k * 2, none⟩ = some (.string l'[k].s) ∧ W.cell? ⟨b', o' + k * 2 + 1, none⟩ = some (.string l'[k].b)) (first | exact ⟨hc0, hc1, hd0, hd1⟩ | exact ⟨(hb2.cell hq).trans hc0, (hb2.cell hq).trans hc1, (hb2.cell hq').trans hd0, (hb2.cell hq').trans hd1⟩)
      (first | (go_at_call 27; refine (eqLetter_c l[k] l'[k] _).mono ?_; rintro e w' ⟨rfl, hb2⟩))
     go_wp2
     go_roundw
     case rel => exact ⟨k + 1, by omega, by go_num, hb.trans ((Below.drew (Below.refl _ _)).trans (hb2.mono hb.size)), by rw [List.take_succ_eq_append_getElem hkl, List.take_succ_eq_append_getElem hkl', HT.out, HE.out]⟩
     case measure => simp [intOf]; omega
   ·
    have HN := Lib.hid (show k = l.length from by omega)
    go_wp2
    go_ret
    refine ⟨ret_bool (eqLEs_yes ?_).symm, hb⟩
    have e := HT.out
    rw [HN.out, List.take_length, HL.out, List.take_length] at e
    exact e
 ·
  have hne : ((l.length : Int) != (l'.length : Int)) = true := by simp; omega
  have HL := Lib.hid hlen
  clear hlen
  go_enter Try.func18, Try.ntmps18
  go_wp2
  go_ret
  exact ⟨ret_bool (eqLEs_no fun h => HL.out (congrArg List.length h)).symm, Below.refl _ _⟩

theorem eqLetterOwn_c (v v' : Value) (l l' : List LE) (base base' : Nat) (w : World) (h : OwnG w base v l) (h' : OwnG w base' v' l') (hl : l.length ≤ 2097152) (hl' : l'.length ≤ 2097152) :
  Calls Try.prog 18 #[v, v'] w fun e w' => e = .returned (.bool (eqLEs l l')) ∧ Below w.heap.size w w' := by
 obtain ⟨A, c, rfl, _, _, hr⟩ := h.read
 obtain ⟨A', c', rfl, _, _, hr'⟩ := h'.read
 exact eqLetterS_c A A' c c' l l' w hl hl' hr hr'

def markLE (k : Nat) : LE := ⟨mt k, mt (k + 1)⟩


end Go.Proofs.Ytilcncnhkidndaa

namespace Go.Proofs.Ytilcncnhkidndaa
open Go.ChangeShapes Go.WideShapes Go.ChangeAt Go.RowKit Go.Deep
set_option linter.unusedVariables false
set_option maxRecDepth 100000

theorem cellsLawLetter : Try.prog.cellsOf 31 = 2 := by kernel_rfl
theorem structLawLetter : ∃ f0 f1 : Field, Try.prog.underlying 31 = some (.struct #[f0, f1]) ∧ f0.offset = 0 ∧ f0.type = 9 ∧ f1.offset = 1 ∧ f1.type = 9 := by
 have h := Try.underlying31
 exact ⟨_, _, h, rfl, rfl, rfl, rfl⟩
theorem oneLetters : Try.prog.cellsOf 9 = 1 := by kernel_rfl
theorem oneLetteri : Try.prog.cellsOf 3 = 1 := by kernel_rfl
theorem oneLetterb : Try.prog.cellsOf 4 = 1 := by kernel_rfl

theorem decLE {H : Type} {enc : TypeId × Value → H} {W : World} (n : Nat) (cs' : List Value) (x : DataW H × List MemPlace) (h : DataW.trod enc Try.prog W 0 (fun _ => true) true n 31 cs' = some x) :
  ∃ a : LE, cs' = Elt.cs a ∧ FitLE a := by
 obtain ⟨f0, f1, hs, o0, t0, o1, t1⟩ := structLawLetter
 obtain ⟨xs, k, _, _, hl, hxl, hf⟩ := DataW.trod_struct hs h
 rw [cellsLawLetter] at hl
 match xs, hxl, cs', hl with
 | [y0, y1], _, [v0, v1], _ =>
  have g0 := hf 0 f0 rfl
  rw [o0, t0, oneLetters] at g0
  simp only [List.drop_zero, List.take_succ_cons, List.take_zero, List.getElem?_cons_zero] at g0
  obtain ⟨s0, e0, _, z0⟩ := DataW.trod_string Try.underlying9 g0
  simp only [List.cons.injEq, and_true] at e0
  subst e0
  have g1 := hf 1 f1 rfl
  rw [o1, t1, oneLetters] at g1
  simp only [List.drop_zero, List.drop_succ_cons, List.take_succ_cons, List.take_zero, List.getElem?_cons_zero, List.getElem?_cons_succ] at g1
  obtain ⟨s1, e1, _, z1⟩ := DataW.trod_string Try.underlying9 g1
  simp only [List.cons.injEq, and_true] at e1
  subst e1
  exact ⟨⟨s0, s1⟩, rfl, z0, z1⟩

theorem openLetterS {H : Type} {enc : TypeId × Value → H} {W : World} {fuel : Nat} {v : Value} {x : DataW H × List MemPlace} (h : DataW.trod enc Try.prog W 0 (fun _ => true) true fuel 35 [v] = some x) :
  ∃ (A : Option Addr) (c : Nat) (l : List LE), v = .slice A l.length c ∧ l.length ≤ c ∧ c ≤ maxLen ∧ FitLEs l ∧ RdG W W.heap.size A l :=
 openG Try.underlying35 cellsLawLetter FitLE decLE h

theorem openArgLetter {H : Type} {enc : TypeId × Value → H} {W : World} {r : Reach} {b0 : Nat} {v : Value} {d : DataW H} {p : List MemPlace}
  (hv : Value.okWide Try.prog W r b0 35 v) (h : DataW.Trod enc Try.prog W 0 (fun _ => true) true 35 v d p) :
  ∃ (A : Option Addr) (c : Nat) (l : List LE), v = .slice A l.length c ∧ l.length ≤ c ∧ c ≤ maxLen ∧ FitLEs l ∧ RdG W W.heap.size A l := by
 obtain ⟨a0, len0, cap0, rfl⟩ := okWide_slice Try.underlying35 hv
 obtain ⟨fuel, hf⟩ := h
 exact openLetterS hf

/-- one letter, as an argument -/
theorem openArgLetter1 {H : Type} {enc : TypeId × Value → H} {W : World} {r : Reach} {b0 : Nat} {v : Value} {d : DataW H} {p : List MemPlace}
  (hv : Value.okWide Try.prog W r b0 31 v) (h : DataW.Trod enc Try.prog W 0 (fun _ => true) true 31 v d p) :
  ∃ x : LE, v = .agg #[.string x.s, .string x.b] ∧ FitLE x := by
 obtain ⟨f0, f1, hs, _⟩ := structLawLetter
 obtain ⟨cs, rfl, hsz⟩ := okWide_struct hs hv
 obtain ⟨fuel, hf⟩ := h
 obtain ⟨a, e, ha⟩ := decLE fuel _ _ hf
 obtain ⟨cl⟩ := cs
 simp only [Value.cells] at e
 subst e
 exact ⟨a, rfl, ha⟩

end Go.Proofs.Ytilcncnhkidndaa
