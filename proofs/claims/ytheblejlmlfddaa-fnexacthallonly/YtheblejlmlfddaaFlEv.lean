/- Slices of Ev: how they lie in memory; the laws' own copies, sizes, comparisons and marks of them. -/
import Derived.Test.YtheblejlmlfddaaE1
import Derived.Test.YtheblejlmlfddaaA4
import Derived.Deep.RegionHeld3
namespace Go.Proofs.Ytheblejlmlfddaa
open Go.RowKit
set_option linter.unusedVariables false
set_option maxRecDepth 100000

structure VE where
 k : Int
 u : Int
 y : ByteArray

def csVE (x : VE) : List Value := [.int .i64 x.k, .int .i64 x.u, .string x.y]
def agVE (x : VE) : Value := .agg #[.int .i64 x.k, .int .i64 x.u, .string x.y]
instance elVE : Elt VE where
 T := 65
 wd := 3
 byt := 32
 zero := .agg #[.int .i64 0, .int .i64 0, .string ByteArray.empty]
 cs := csVE
 len := fun _ => rfl
 pos := by omega
 one := by
  intro a u hu
  simp only [csVE, List.mem_cons, List.not_mem_nil, or_false] at hu
  rcases hu with rfl | rfl | rfl <;> rfl
 info := by kernel_rfl
 zsize := rfl
 small := by omega

section
variable {w w' : World} {B : Nat} {A : Option Addr} {l : List VE}
theorem RdG.atVE (h : RdG w B A l) {i : Nat} (hi : i < l.length) : ∃ b o, A = some ⟨b, o, none⟩ ∧ b < B ∧ w.cell? ⟨b, o + i * 3, none⟩ = some (.int .i64 l[i].k) ∧ w.cell? ⟨b, o + i * 3 + 1, none⟩ = some (.int .i64 l[i].u) ∧ w.cell? ⟨b, o + i * 3 + 2, none⟩ = some (.string l[i].y) := by
 obtain ⟨b, o, e, hb, h1⟩ := h.at_ hi
 exact ⟨b, o, e, hb, h1 0 _ rfl, h1 1 _ rfl, h1 2 _ rfl⟩
theorem RdG.fixVE (h : RdG w B A l) {b o : Nat} (e : A = some ⟨b, o, none⟩) {i : Nat} (hi : i < l.length) : w.cell? ⟨b, o + i * 3, none⟩ = some (.int .i64 l[i].k) ∧ w.cell? ⟨b, o + i * 3 + 1, none⟩ = some (.int .i64 l[i].u) ∧ w.cell? ⟨b, o + i * 3 + 2, none⟩ = some (.string l[i].y) := by
 obtain ⟨hb, h1⟩ := h.fix e hi
 exact ⟨h1 0 _ rfl, h1 1 _ rfl, h1 2 _ rfl⟩
end
theorem rdOneVE (w : World) (x : VE) (t : TypeId) : RdG (w.alloc (.cells #[.int .i64 x.k, .int .i64 x.u, .string x.y] t)) (w.alloc (.cells #[.int .i64 x.k, .int .i64 x.u, .string x.y] t)).heap.size (some ⟨w.heap.size, 0, none⟩) [x] :=
 rdOneG w x _ t rfl

/-- it fits Go's kinds -/
def FitVE (x : VE) : Prop := x.y.size ≤ maxLen ∧ -9223372036854775808 ≤ x.k ∧ x.k ≤ 9223372036854775807 ∧ -9223372036854775808 ≤ x.u ∧ x.u ≤ 9223372036854775807
def FitVEs (l : List VE) : Prop := ∀ r ∈ l, FitVE r

set_option maxRecDepth 100000 in
set_option maxHeartbeats 1000000 in
theorem toEv_c (x : VE) (w : World) :
  Calls Try.prog 31 #[.agg #[.int .i64 x.k, .int .i64 x.u, .string x.y]] w fun e w' => e = .returned (.agg #[.int .i64 x.k, .int .i64 x.u, .string x.y]) ∧ Below w.heap.size w w' := by
 go_enter Try.func31, Try.ntmps31
 go_wp2
 exact bodyPost_ret (v := .agg #[.int .i64 x.k, .int .i64 x.u, .string x.y]) (by simp [results, Try.results31, go_sem]) rfl ⟨rfl, (by (repeat (first | exact Below.refl _ _ | (refine Below.setCell ?_ (by simp <;> omega) _) | (refine Below.alloc ?_ (by simp <;> omega) _) | (refine Below.drew ?_))))⟩

set_option maxRecDepth 100000 in
set_option maxHeartbeats 1000000 in
theorem toEvS_c (A : Option Addr) (c : Nat) (l : List VE) (w : World) (hc : l.length ≤ c) (hcm : l.length ≤ 1048576) (hr : RdG w w.heap.size A l) :
  Calls Try.prog 13 #[.slice A l.length c] w fun e w' => ∃ g, e = .returned (.slice (some ⟨g, 0, none⟩) l.length l.length) ∧ w.heap.size ≤ g ∧ Blk w' g 65 (cellsG l).toArray ∧ Below w.heap.size w w' := by
 have hmk := mkG (α := VE) 34 Try.underlying34 l.length l.length (Nat.le_refl _) (by omega)
 go_enter Try.func13, Try.ntmps13
 go_wp2
 clear hmk
 go_loopw [4] (fun i W => ∃ k : Nat, k ≤ l.length ∧ i = .int .i64 k ∧ ∃ c : Array Value, Blk W w.heap.size 65 c ∧ c.size = l.length * 3 ∧ FillG l c k ∧ Below w.heap.size w W) (fun i _ => l.length - (intOf i).toNat)
 case atStart => exact ⟨0, Nat.zero_le _, rfl, _, heap_alloc_new _ _, freshG_size (α := VE) _, FillG.zero _ _, (Below.refl _ _).alloc (Nat.le_refl _) _⟩
 case round =>
  obtain ⟨k, hk, rfl, cs, hblk, hsz, hcs, hb⟩ := hrel
  by_cases hkl : k < l.length
  ·
   obtain ⟨b, o, rfl, hbB, hc0, hc1, hc2⟩ := (hr.below hb).atVE hkl
   have HCS := Lib.hid hcs
   have HSZ := Lib.hid hsz
   clear hcs hsz
   have hs0 : k * 3 < cs.size := by rw [HSZ.out]; omega
   have hs1 : k * 3 + 1 < cs.size := by rw [HSZ.out]; omega
   have hs2 : k * 3 + 2 < cs.size := by rw [HSZ.out]; omega
   go_wp2_with ((go_at_call 31; refine (toEv_c l[k] _).mono ?_; rintro e w' ⟨rfl, hb2⟩; have hblk2 := Lib.hid (hblk.next hb2); have g0 : w'.cell? ⟨w.heap.size, k * 3, none⟩ = some cs[k * 3] := by { rw [hblk2.out.cell]; exact Array.getElem?_eq_getElem hs0 }; have z0 := hblk2.out.free (k * 3); have g1 : w'.cell? ⟨w.heap.size, k * 3 + 1, none⟩ = some cs[k * 3 + 1] := by { rw [hblk2.out.cell]; exact Array.getElem?_eq_getElem hs1 }; have z1 := hblk2.out.free (k * 3 + 1); have g2 : w'.cell? ⟨w.heap.size, k * 3 + 2, none⟩ = some cs[k * 3 + 2] := by { rw [hblk2.out.cell]; exact Array.getElem?_eq_getElem hs2 }; have z2 := hblk2.out.free (k * 3 + 2)))
   go_roundw
   case rel => exact ⟨k + 1, by omega, by go_num, putC cs (k * 3) (csVE l[k]), (((hblk2.out.set_ _ _).set_ _ _).set_ _ _), (putC_size _ _ _).trans HSZ.out, HCS.out.step hkl (Nat.le_of_eq HSZ.out.symm) _ (List.getElem?_eq_getElem hkl), ((((hb.trans (hb2.mono hb.size)).setCell (Nat.le_refl _) _).setCell (Nat.le_refl _) _).setCell (Nat.le_refl _) _)⟩
   case measure => simp [intOf]; omega
  ·
   have hkk : k = l.length := by omega
   have HK := Lib.hid hkk
   have HCS := Lib.hid hcs
   have HSZ := Lib.hid hsz
   clear hkk hcs hsz
   go_wp2
   go_ret
   refine ⟨_, rfl, Nat.le_refl _, ?_, hb⟩
   have hf := HCS.out
   rw [HK.out] at hf
   rw [← hf.full HSZ.out]
   exact hblk

theorem toEvOwn_c (A : Option Addr) (c : Nat) (l : List VE) (w : World) (hc : l.length ≤ c) (hcm : l.length ≤ 1048576) (hr : RdG w w.heap.size A l) :
  Calls Try.prog 13 #[.slice A l.length c] w fun e w' => ∃ g, e = .returned (.slice (some ⟨g, 0, none⟩) l.length l.length) ∧ OwnG w' w.heap.size (.slice (some ⟨g, 0, none⟩) l.length l.length) l ∧ w.heap.size ≤ g ∧ g < w'.heap.size ∧ Below w.heap.size w w' := by
 refine (toEvS_c A c l w hc hcm hr).mono ?_
 rintro e w' ⟨g, rfl, h1, h2, h3⟩
 exact ⟨g, rfl, OwnG.of_blk h1 h2 (by unfold maxLen; omega), h1, h2.lt, h3⟩

/-- values and letters of a list -/
def totalVE (l : List VE) : Nat := (l.map fun r => r.y.size + 1).sum
theorem totalVE_take_succ (l : List VE) (k : Nat) (h : k < l.length) : totalVE (l.take (k + 1)) = totalVE (l.take k) + (l[k].y.size + 1) := by
 unfold totalVE; rw [List.take_succ_eq_append_getElem h, List.map_append, List.sum_append]; simp
theorem totalVE_take_le (l : List VE) (k : Nat) : totalVE (l.take k) ≤ totalVE l := by
 conv => rhs; rw [← List.take_append_drop k l]
 unfold totalVE; rw [List.map_append, List.sum_append]; omega
theorem totalVE_take_ge (l : List VE) (k : Nat) : totalVE (l.take k) + (l.length - k) ≤ totalVE l := by
 have h2 : (l.drop k).length ≤ totalVE (l.drop k) := by
  generalize l.drop k = m
  induction m with
  | nil => simp
  | cons a m ih => unfold totalVE at ih ⊢; simp only [List.map_cons, List.sum_cons, List.length_cons]; omega
 have h3 : totalVE l = totalVE (l.take k) + totalVE (l.drop k) := by
  conv => lhs; rw [← List.take_append_drop k l]
  unfold totalVE; rw [List.map_append, List.sum_append]
 rw [List.length_drop] at h2
 omega
theorem totalVE_len (l : List VE) : l.length ≤ totalVE l := by have := totalVE_take_ge l 0; simp [totalVE] at this ⊢; omega

set_option maxHeartbeats 1000000 in
theorem szEv_c (x : VE) (left : Int) (w : World) (hs : x.y.size ≤ maxLen) (h0 : 0 ≤ left) (h1 : left ≤ 1048576) :
  Calls Try.prog 30 #[.agg #[.int .i64 x.k, .int .i64 x.u, .string x.y], .int .i64 left] w fun e w' => e = .returned (.int .i64 (szR left x.y.size)) ∧ Below w.heap.size w w' := by
 unfold maxLen at hs
 by_cases g0 : left < ((x.y.size) : Nat)
 ·
  have hd0 : decide (left - (x.y.size : Int) < 0) = true := by simp; omega
  have HN := Lib.hid (szR_neg (left := left) (k := x.y.size) (by omega))
  go_enter Try.func30, Try.ntmps30
  go_wp2
  go_ret
  exact ⟨ret_int HN.out.symm, (by (repeat (first | exact Below.refl _ _ | (refine Below.setCell ?_ (by simp <;> omega) _) | (refine Below.alloc ?_ (by simp <;> omega) _) | (refine Below.drew ?_))))⟩
 ·
  have hd0 : decide (left - (x.y.size : Int) < 0) = false := by simp; omega
  have HN := Lib.hid (szR_pos (left := left) (k := x.y.size) (by omega))
  go_enter Try.func30, Try.ntmps30
  go_wp2
  go_ret
  exact ⟨ret_int HN.out.symm, (by (repeat (first | exact Below.refl _ _ | (refine Below.setCell ?_ (by simp <;> omega) _) | (refine Below.alloc ?_ (by simp <;> omega) _) | (refine Below.drew ?_))))⟩

set_option maxRecDepth 100000 in
set_option maxHeartbeats 1000000 in
theorem szEvS_c (A : Option Addr) (c : Nat) (l : List VE) (left : Int) (w : World) (hfit : FitVEs l) (hc : l.length ≤ c) (hcm : c ≤ maxLen) (h0 : 0 ≤ left) (h1 : left ≤ 1048576) (hr : RdG w w.heap.size A l) :
  Calls Try.prog 11 #[.slice A l.length c, .int .i64 left] w fun e w' => e = .returned (.int .i64 (szR left (totalVE l))) ∧ Below w.heap.size w w' := by
 unfold maxLen at hcm
 have htl := totalVE_len l
 by_cases h : left < (l.length : Int)
 ·
  have hd : decide (left - (l.length : Int) < 0) = true := by simp; omega
  have HN := Lib.hid (szR_neg (left := left) (k := totalVE l) (by omega))
  go_enter Try.func11, Try.ntmps11
  go_wp2
  go_ret
  exact ⟨ret_int HN.out.symm, Below.refl _ _⟩
 ·
  have hd : decide (left - (l.length : Int) < 0) = false := by simp; omega
  go_enter Try.func11, Try.ntmps11
  go_wp2
  go_loopw [1, 5] (fun lf i W => ∃ k : Nat, k ≤ l.length ∧ i = .int .i64 k ∧ ∃ z : Int, lf = .int .i64 z ∧ z = left - l.length - totalVE (l.take k) + k ∧ 0 ≤ z ∧ z ≤ 1048576 ∧ Below w.heap.size w W) (fun _ i _ => l.length - (intOf i).toNat)
  case atStart => exact ⟨0, Nat.zero_le _, rfl, _, rfl, by simp [totalVE], by omega, by omega, Below.refl _ _⟩
  case round =>
   obtain ⟨k, hk, rfl, z, rfl, hz, hz0, hz1, hb⟩ := hrel
   by_cases hkl : k < l.length
   ·
    obtain ⟨b, o, rfl, hbB, hc0, hc1, hc2⟩ := (hr.below hb).atVE hkl
    have hs : l[k].y.size ≤ maxLen := (hfit _ (List.getElem_mem hkl)).1
    have ht := totalVE_take_succ l k hkl
    have hge := totalVE_take_ge l (k + 1)
    have HZ := Lib.hid hz
    have HT := Lib.hid ht
    clear hz ht
    by_cases hlo : z < (l[k].y.size : Int)
    ·
     go_wp2_with ((go_at_call 30; refine (szEv_c l[k] _ _ hs hz0 hz1).mono ?_; rintro e w' ⟨rfl, hb2⟩; rw [szR_neg hlo]))
     go_ret
     exact ⟨ret_int (szR_neg (by have := HZ.out; have := HT.out; omega)).symm, hb.trans (hb2.mono hb.size)⟩
    ·
     have hlo' : (l[k].y.size : Int) ≤ z := by omega
     go_wp2_with ((go_at_call 30; refine (szEv_c l[k] _ _ hs hz0 hz1).mono ?_; rintro e w' ⟨rfl, hb2⟩; rw [szR_pos hlo']))
     go_roundw
     case rel => exact ⟨k + 1, by omega, by go_num, _, rfl, by have := HZ.out; have := HT.out; omega, by omega, by omega, hb.trans (hb2.mono hb.size)⟩
     case measure => simp [intOf]; omega
   ·
    have hkk : k = l.length := by omega
    have HK := Lib.hid hkk
    have HZ := Lib.hid hz
    clear hkk hz
    go_wp2
    go_ret
    refine ⟨ret_int ?_, hb⟩
    have e1 := HZ.out
    rw [HK.out, List.take_length] at e1
    rw [szR_pos (by omega)]
    omega

open Classical in
noncomputable def eqVE (a b : VE) : Bool := decide (a = b)
theorem eqVE_yes {a b : VE} (h : a = b) : eqVE a b = true := by unfold eqVE; simp [h]
theorem eqVE_no {a b : VE} (h : a ≠ b) : eqVE a b = false := by unfold eqVE; simp [h]
theorem eqVE_iff {a b : VE} : eqVE a b = true ↔ a = b := by unfold eqVE; simp
open Classical in
noncomputable def eqVEs (a b : List VE) : Bool := decide (a = b)
theorem eqVEs_yes {a b : List VE} (h : a = b) : eqVEs a b = true := by unfold eqVEs; simp [h]
theorem eqVEs_no {a b : List VE} (h : a ≠ b) : eqVEs a b = false := by unfold eqVEs; simp [h]
theorem eqVEs_iff {a b : List VE} : eqVEs a b = true ↔ a = b := by unfold eqVEs; simp

set_option maxHeartbeats 1000000 in
theorem eqEv_c (x y : VE) (w : World) :
  Calls Try.prog 32 #[.agg #[.int .i64 x.k, .int .i64 x.u, .string x.y], .agg #[.int .i64 y.k, .int .i64 y.u, .string y.y]] w fun e w' => e = .returned (.bool (eqVE x y)) ∧ Below w.heap.size w w' := by
 by_cases h0 : x.k = y.k
 ·
  have b0 : (x.k != y.k) = false := by simp [h0]
  have H0 := Lib.hid h0
  clear h0
  by_cases h1 : x.u = y.u
  ·
   have b1 : (x.u != y.u) = false := by simp [h1]
   have H1 := Lib.hid h1
   clear h1
   by_cases h2 : x.y = y.y
   ·
    have b2 : (x.y.toList == y.y.toList) = true := by rw [h2]; simp
    have H2 := Lib.hid h2
    clear h2
    have HE := Lib.hid (eqVE_yes (show x = y from by
     revert H0 H1 H2
     clear b0 b1 b2
     cases x; cases y
     intro H0 H1 H2
     have e0 := H0.out
     have e1 := H1.out
     have e2 := H2.out
     simp only at e0 e1 e2
     subst e0 e1 e2
     rfl))
    go_enter Try.func32, Try.ntmps32
    go_wp2
    go_ret
    exact ⟨ret_bool HE.out.symm, (by (repeat (first | exact Below.refl _ _ | (refine Below.setCell ?_ (by simp <;> omega) _) | (refine Below.alloc ?_ (by simp <;> omega) _) | (refine Below.drew ?_))))⟩
   ·
    have b2 := str_ne h2
    have HE := Lib.hid (eqVE_no (show x ≠ y from fun e => h2 (by rw [e])))
    go_enter Try.func32, Try.ntmps32
    go_wp2
    go_ret
    exact ⟨ret_bool HE.out.symm, (by (repeat (first | exact Below.refl _ _ | (refine Below.setCell ?_ (by simp <;> omega) _) | (refine Below.alloc ?_ (by simp <;> omega) _) | (refine Below.drew ?_))))⟩
  ·
   have b1 : (x.u != y.u) = true := by simp [h1]
   have HE := Lib.hid (eqVE_no (show x ≠ y from fun e => h1 (by rw [e])))
   go_enter Try.func32, Try.ntmps32
   go_wp2
   go_ret
   exact ⟨ret_bool HE.out.symm, (by (repeat (first | exact Below.refl _ _ | (refine Below.setCell ?_ (by simp <;> omega) _) | (refine Below.alloc ?_ (by simp <;> omega) _) | (refine Below.drew ?_))))⟩
 ·
  have b0 : (x.k != y.k) = true := by simp [h0]
  have HE := Lib.hid (eqVE_no (show x ≠ y from fun e => h0 (by rw [e])))
  go_enter Try.func32, Try.ntmps32
  go_wp2
  go_ret
  exact ⟨ret_bool HE.out.symm, (by (repeat (first | exact Below.refl _ _ | (refine Below.setCell ?_ (by simp <;> omega) _) | (refine Below.alloc ?_ (by simp <;> omega) _) | (refine Below.drew ?_))))⟩

set_option maxRecDepth 100000 in
set_option maxHeartbeats 1000000 in
theorem eqEvS_c (A A' : Option Addr) (c c' : Nat) (l l' : List VE) (w : World) (hc : l.length ≤ 2097152) (hc' : l'.length ≤ 2097152) (hr : RdG w w.heap.size A l) (hr' : RdG w w.heap.size A' l') :
  Calls Try.prog 15 #[.slice A l.length c, .slice A' l'.length c'] w fun e w' => e = .returned (.bool (eqVEs l l')) ∧ Below w.heap.size w w' := by
 by_cases hlen : l.length = l'.length
 ·
  have hne : ((l.length : Int) != (l'.length : Int)) = false := by simp [hlen]
  have HL := Lib.hid hlen
  have hle1 : l.length ≤ l'.length := by omega
  have hle2 : l'.length ≤ l.length := by omega
  clear hlen
  go_enter Try.func15, Try.ntmps15
  go_wp2
  go_loopw [5] (fun i W => ∃ k : Nat, k ≤ l.length ∧ i = .int .i64 k ∧ Below w.heap.size w W ∧ l.take k = l'.take k) (fun i _ => l.length - (intOf i).toNat)
  case atStart => exact ⟨0, Nat.zero_le _, rfl, Below.refl _ _, rfl⟩
  case round =>
   obtain ⟨k, hk, rfl, hb, ht⟩ := hrel
   have HT := Lib.hid ht
   clear ht
   by_cases hkl : k < l.length
   ·
    have hkl' : k < l'.length := by omega
    obtain ⟨b, o, rfl, hbB, hc0, hc1, hc2⟩ := (hr.below hb).atVE hkl
    obtain ⟨b', o', rfl, hbB', hd0, hd1, hd2⟩ := (hr'.below hb).atVE hkl'
    have hq : b < wr.heap.size := Nat.lt_of_lt_of_le hbB hb.size
    have hq' : b' < wr.heap.size := Nat.lt_of_lt_of_le hbB' hb.size
    cases he : eqVE l[k] l'[k]
    ·
     have HN := Lib.hid (eqVEs_no fun h : l = l' => by
      have e : eqVE l[k] l'[k] = true := eqVE_yes (by subst h; rfl)
      rw [he] at e; cases e)
     go_wp2
     go_region_held3 (fun W => W.cell? ⟨b, o + k * 3, none⟩ = some (.int .i64 l[k].k) ∧ W.cell? ⟨b, o + k * 3 + 1, none⟩ = some (.int .i64 l[k].u) ∧ W.cell? ⟨b, o + k * 3 + 2, none⟩ = some (.string l[k].y) ∧ W.cell? ⟨b', o' + k * 3, none⟩ = some (.int .i64 l'[k].k) ∧ W.cell? ⟨b', o' + k * 3 + 1, none⟩ = some (.int .i64 l'[k].u) ∧ W.cell? ⟨b', o' + k * 3 + 2, none⟩ = some (.string l'[k].y)) (first | exact ⟨hc0, hc1, hc2, hd0, hd1, hd2⟩ | exact ⟨(hb2.cell hq).trans hc0, (hb2.cell hq).trans hc1, (hb2.cell hq).trans hc2, (hb2.cell hq').trans hd0, (hb2.cell hq').trans hd1, (hb2.cell hq').trans hd2⟩)
      (first | (go_at_call 32; refine (eqEv_c l[k] l'[k] _).mono ?_; rintro e w' ⟨rfl, hb2⟩))
     go_wp2
     go_ret
     exact ⟨ret_bool HN.out.symm, hb.trans ((Below.drew (Below.refl _ _)).trans (hb2.mono hb.size))⟩
    ·
     have HE := Lib.hid (eqVE_iff.1 he)
     go_wp2
     go_region_held3 (fun W => W.cell? ⟨b, o + k * 3, none⟩ = some (.int .i64 l[k].k) ∧ W.cell? ⟨b, o + k * 3 + 1, none⟩ = some (.int .i64 l[k].u) ∧ W.cell? ⟨b, o + k * 3 + 2, none⟩ = some (.string l[k].y) ∧ W.cell? ⟨b', o' + k * 3, none⟩ = some (.int .i64 l'[k].k) ∧ W.cell? ⟨b', o' + k * 3 + 1, none⟩ = some (.int .i64 l'[k].u) ∧ W.cell? ⟨b', o' + k * 3 + 2, none⟩ = some (.string l'[k].y)) (first | exact ⟨hc0, hc1, hc2, hd0, hd1, hd2⟩ | exact ⟨(hb2.cell hq).trans hc0, (hb2.cell hq).trans hc1, (hb2.cell hq).trans hc2, (hb2.cell hq').trans hd0, (hb2.cell hq').trans hd1, (hb2.cell hq').trans hd2⟩)
      (first | (go_at_call 32; refine (eqEv_c l[k] l'[k] _).mono ?_; rintro e w' ⟨rfl, hb2⟩))
     go_wp2
     go_roundw
     case rel => exact ⟨k + 1, by omega, by go_num, hb.trans ((Below.drew (Below.refl _ _)).trans (hb2.mono hb.size)), by rw [List.take_succ_eq_append_getElem hkl, List.take_succ_eq_append_getElem hkl', HT.out, HE.out]⟩
     case measure => simp [intOf]; omega
   ·
    have HN := Lib.hid (show k = l.length from by omega)
    go_wp2
    go_ret
    refine ⟨ret_bool (eqVEs_yes ?_).symm, hb⟩
    have e := HT.out
    rw [HN.out, List.take_length, HL.out, List.take_length] at e
    exact e
 ·
  have hne : ((l.length : Int) != (l'.length : Int)) = true := by simp; omega
  have HL := Lib.hid hlen
  clear hlen
  go_enter Try.func15, Try.ntmps15
  go_wp2
  go_ret
  exact ⟨ret_bool (eqVEs_no fun h => HL.out (congrArg List.length h)).symm, Below.refl _ _⟩

theorem eqEvOwn_c (v v' : Value) (l l' : List VE) (base base' : Nat) (w : World) (h : OwnG w base v l) (h' : OwnG w base' v' l') (hl : l.length ≤ 2097152) (hl' : l'.length ≤ 2097152) :
  Calls Try.prog 15 #[v, v'] w fun e w' => e = .returned (.bool (eqVEs l l')) ∧ Below w.heap.size w w' := by
 obtain ⟨A, c, rfl, _, _, hr⟩ := h.read
 obtain ⟨A', c', rfl, _, _, hr'⟩ := h'.read
 exact eqEvS_c A A' c c' l l' w hl hl' hr hr'

def markVE (k : Nat) : VE := ⟨(k : Int), (k : Int) + 1, mt (k + 2)⟩

set_option maxRecDepth 100000 in
set_option maxHeartbeats 2000000 in
theorem markEvS_some (g n cap k : Nat) (cur : Array Value) (w : World) (hblk : Blk w g 65 cur) (hn : n ≤ cap) (hs : cur.size = cap * 3) (h0 : 0 < k) (hk : k + 3 * n ≤ 8388608) :
  Calls Try.prog 16 #[.slice (some ⟨g, 0, none⟩) n cap, .int .i64 k] w fun e w' => e = .returned (.int .i64 (k + 3 * n : Nat)) ∧
   ∃ cur', Blk w' g 65 cur' ∧ cur'.size = cap * 3 ∧ FillG (marksG markVE n k) cur' n ∧ w.grownBy w' (some g) := by
 go_enter Try.func16, Try.ntmps16
 go_wp2
 go_loopw [1, 5] (fun kk i W => ∃ j : Nat, j ≤ n ∧ i = .int .i64 j ∧ kk = .int .i64 (k + 3 * j : Nat) ∧ ∃ cs : Array Value, Blk W g 65 cs ∧ cs.size = cap * 3 ∧ FillG (marksG markVE n k) cs j ∧ w.grownBy W (some g)) (fun _ i _ => n - (intOf i).toNat)
 case atStart => exact ⟨0, Nat.zero_le _, rfl, rfl, cur, hblk, hs, FillG.zero _ _, World.grownBy.refl _ _⟩
 case round =>
  obtain ⟨j, hj, rfl, rfl, cs, hb, hsz, hcs, hg⟩ := hrel
  have HCS := Lib.hid hcs
  have HSZ := Lib.hid hsz
  clear hcs hsz
  by_cases hjn : j < n
  ·
   have HG := Lib.hid (marksG_get markVE n k j hjn)
   have hs0 : j * 3 < cs.size := by rw [HSZ.out]; omega
   have hs1 : j * 3 + 1 < cs.size := by rw [HSZ.out]; omega
   have hs2 : j * 3 + 2 < cs.size := by rw [HSZ.out]; omega
   have hkj : 0 < k + 3 * j := by omega
   have hkj2 : k + 3 * j + 3 ≤ 8388608 := by omega
   obtain ⟨K, HK⟩ : ∃ K, Hid (k + 3 * j = K) := ⟨_, Lib.hid rfl⟩
   rw [HK.out] at hkj hkj2 ⊢
   have hK2 : 0 < K + 2 := by omega
   have ec : ((K + 2 : Nat) : Int) = (K : Int) + 2 := by omega
   have hmt := fun W => markText_c (K + 2) W hK2 (by omega)
   simp only [ec] at hmt
   clear ec
   have g0 : wr.cell? ⟨g, j * 3, none⟩ = some cs[j * 3] := by { rw [hb.cell]; exact Array.getElem?_eq_getElem hs0 }
   have g1 : wr.cell? ⟨g, j * 3 + 1, none⟩ = some cs[j * 3 + 1] := by { rw [hb.cell]; exact Array.getElem?_eq_getElem hs1 }
   have z0 := hb.free (j * 3)
   have z1 := hb.free (j * 3 + 1)
   have hgl := hb.lt
   go_wp2_with fail
   refine (hmt _).mono ?_
   rintro e w' ⟨rfl, hb2⟩
   have hblk2 := Lib.hid (((hb.set_ (j * 3) (.int .i64 (K : Int))).set_ (j * 3 + 1) (.int .i64 ((K : Int) + 1))).next hb2)
   have hs2' : j * 3 + 2 < ((cs.setIfInBounds (j * 3) (.int .i64 (K : Int))).setIfInBounds (j * 3 + 1) (.int .i64 ((K : Int) + 1))).size := by rw [Array.size_setIfInBounds, Array.size_setIfInBounds]; exact hs2
   have g2 : w'.cell? ⟨g, j * 3 + 2, none⟩ = some ((cs.setIfInBounds (j * 3) (.int .i64 (K : Int))).setIfInBounds (j * 3 + 1) (.int .i64 ((K : Int) + 1)))[j * 3 + 2] := by { rw [hblk2.out.cell]; exact Array.getElem?_eq_getElem hs2' }
   have z2 := hblk2.out.free (j * 3 + 2)
   go_wp2
   go_roundw
   case rel => exact ⟨j + 1, by omega, by go_num, by rw [← HK.out]; go_num, putC cs (j * 3) (csVE (markVE K)), (hblk2.out.set_ _ _), (putC_size _ _ _).trans HSZ.out, by
    have e := HG.out
    rw [show k + Elt.wd VE * j = K from HK.out] at e
    exact HCS.out.step (by rw [marksG_length]; exact hjn) (by rw [marksG_length, HSZ.out]; exact Nat.mul_le_mul_right _ (Nat.le_trans (Nat.le_refl _) hn)) _ e, (grown_set (grown_call (grown_set (grown_set hg _) _) hb2) _)⟩
   case measure => simp [intOf]; omega
  ·
   have hjj : j = n := by omega
   subst hjj
   go_wp2
   go_ret
   exact ⟨ret_int (by omega), cs, hb, HSZ.out, HCS.out, hg⟩

set_option maxRecDepth 100000 in
set_option maxHeartbeats 1000000 in
theorem markEvS_nil (k : Nat) (w : World) :
  Calls Try.prog 16 #[.slice none 0 0, .int .i64 k] w fun e w' => e = .returned (.int .i64 k) ∧ w = w' := by
 go_enter Try.func16, Try.ntmps16
 go_wp2
 go_loop [1, 5] (fun kk i => kk = .int .i64 k ∧ i = .int .i64 0) (fun _ _ => 0)
 case atStart => exact ⟨rfl, rfl⟩
 case round =>
  obtain ⟨rfl, rfl⟩ := hrel
  go_wp2
  go_ret
  exact ⟨rfl, rfl⟩

theorem markVE_c (v : Value) (l : List VE) (base k : Nat) (w : World) (h : OwnG w base v l) (h0 : 0 < k) (hk : k + 3 * l.length ≤ 8388608) :
  Calls Try.prog 16 #[v, .int .i64 k] w fun e w' => e = .returned (.int .i64 (k + 3 * l.length : Nat)) ∧ OwnG w' base v (marksG markVE l.length k) ∧ w.grownBy w' v.ownBlock := by
 rcases h.cases with ⟨rfl, rfl⟩ | ⟨g, cap, cur, rfl, hb, hblk, hl, hm, hs, ht⟩
 ·
  refine (markEvS_nil k w).mono ?_
  rintro e w' ⟨rfl, rfl⟩
  exact ⟨rfl, OwnG.nil _ _, World.grownBy.refl _ _⟩
 ·
  refine (markEvS_some g l.length cap k cur w hblk hl hs h0 hk).mono ?_
  rintro e w' ⟨rfl, cur', h1, h2, h3, h4⟩
  exact ⟨rfl, OwnG.of_fill _ (marksG_length _ _ _) hb h1 hl hm h2 h3, h4⟩

set_option maxRecDepth 100000 in
set_option maxHeartbeats 2000000 in
theorem heldEvS_c (A : Option Addr) (c n k : Nat) (w : World) (h0 : 0 < k) (hk : k + 3 * n ≤ 8388608) (hr : RdG w w.heap.size A (marksG markVE n k)) :
  Calls Try.prog 17 #[.slice A n c, .int .i64 k] w fun e w' => e = .returned (.int .i64 (k + 3 * n : Nat)) ∧ Below w.heap.size w w' := by
 go_enter Try.func17, Try.ntmps17
 go_wp2
 go_loopw [1, 5] (fun kk i W => ∃ j : Nat, j ≤ n ∧ i = .int .i64 j ∧ kk = .int .i64 (k + 3 * j : Nat) ∧ Below w.heap.size w W) (fun _ i _ => n - (intOf i).toNat)
 case atStart => exact ⟨0, Nat.zero_le _, rfl, rfl, Below.refl _ _⟩
 case round =>
  obtain ⟨j, hj, rfl, rfl, hb⟩ := hrel
  by_cases hjn : j < n
  ·
   obtain ⟨b, o, hA, hbB, hcs⟩ := (hr.below hb) j _ (marksG_get markVE n k j hjn)
   subst hA
   have hkj : 0 < k + 3 * j := by omega
   have hkj2 : k + 3 * j + 3 ≤ 8388608 := by omega
   have hq : b < wr.heap.size := Nat.lt_of_lt_of_le hbB hb.size
   have e0 := hcs 0 _ rfl
   have e1 := hcs 1 _ rfl
   have e2 := hcs 2 _ rfl
   obtain ⟨K, HK⟩ : ∃ K, Hid (k + 3 * j = K) := ⟨_, Lib.hid rfl⟩
   change wr.cell? ⟨b, o + j * 3, none⟩ = some (.int .i64 ((k + 3 * j : Nat) : Int)) at e0
   change wr.cell? ⟨b, o + j * 3 + 1, none⟩ = some (.int .i64 (((k + 3 * j : Nat) : Int) + 1)) at e1
   change wr.cell? ⟨b, o + j * 3 + 2, none⟩ = some (.string (mt (k + 3 * j + 2))) at e2
   rw [HK.out] at hkj hkj2 e0 e1 e2 ⊢
   have hK2 : 0 < K + 2 := by omega
   have ec : ((K + 2 : Nat) : Int) = (K : Int) + 2 := by omega
   have hmt := fun W => markText_c (K + 2) W hK2 (by omega)
   simp only [ec] at hmt
   clear ec
   have hbT : Below wr.heap.size wr wr.drew := (Below.refl _ _).drew
   go_wp2
   go_region_held3 (fun W => W.cell? ⟨b, o + j * 3 + 2, none⟩ = some (.string (mt (K + 2)))) (first | exact e2 | exact (hbT.cell hq).trans e2)
    (first | (go_at_call 33; refine (hmt _).mono ?_; rintro e w' ⟨rfl, hb2⟩; have hbT := hbT.trans (hb2.mono hbT.size); clear hb2))
   go_wp2
   go_roundw
   case rel => exact ⟨j + 1, by omega, by go_num, by rw [← HK.out]; go_num, hb.trans (hbT.mono hb.size)⟩
   case measure => simp [intOf]; omega
  ·
   have hjj : j = n := by omega
   subst hjj
   go_wp2
   go_ret
   exact ⟨rfl, hb⟩

theorem heldVE_c (v : Value) (n base k : Nat) (w : World) (h : OwnG w base v (marksG markVE n k)) (h0 : 0 < k) (hk : k + 3 * n ≤ 8388608) :
  Calls Try.prog 17 #[v, .int .i64 k] w fun e w' => e = .returned (.int .i64 (k + 3 * n : Nat)) ∧ Below w.heap.size w w' := by
 obtain ⟨A, c, rfl, _, _, hr⟩ := h.read
 rw [marksG_length]
 exact heldEvS_c A c n k w h0 hk hr

end Go.Proofs.Ytheblejlmlfddaa

namespace Go.Proofs.Ytheblejlmlfddaa
open Go.ChangeShapes Go.WideShapes Go.ChangeAt Go.RowKit Go.Deep
set_option linter.unusedVariables false
set_option maxRecDepth 100000

theorem cellsLawEv : Try.prog.cellsOf 64 = 3 := by kernel_rfl
theorem structLawEv : ∃ f0 f1 f2 : Field, Try.prog.underlying 64 = some (.struct #[f0, f1, f2]) ∧ f0.offset = 0 ∧ f0.type = 3 ∧ f1.offset = 1 ∧ f1.type = 3 ∧ f2.offset = 2 ∧ f2.type = 9 := by
 have h := Try.underlying64
 exact ⟨_, _, _, h, rfl, rfl, rfl, rfl, rfl, rfl⟩
theorem oneEvs : Try.prog.cellsOf 9 = 1 := by kernel_rfl
theorem oneEvi : Try.prog.cellsOf 3 = 1 := by kernel_rfl
theorem oneEvb : Try.prog.cellsOf 4 = 1 := by kernel_rfl

theorem decVE {H : Type} {enc : TypeId × Value → H} {W : World} (n : Nat) (cs' : List Value) (x : DataW H × List MemPlace) (h : DataW.trod enc Try.prog W 0 (fun _ => true) true n 64 cs' = some x) :
  ∃ a : VE, cs' = Elt.cs a ∧ FitVE a := by
 obtain ⟨f0, f1, f2, hs, o0, t0, o1, t1, o2, t2⟩ := structLawEv
 obtain ⟨xs, k, _, _, hl, hxl, hf⟩ := DataW.trod_struct hs h
 rw [cellsLawEv] at hl
 match xs, hxl, cs', hl with
 | [y0, y1, y2], _, [v0, v1, v2], _ =>
  have g0 := hf 0 f0 rfl
  rw [o0, t0, oneEvi] at g0
  simp only [List.drop_zero, List.take_succ_cons, List.take_zero, List.getElem?_cons_zero] at g0
  obtain ⟨s0, e0, _, z0⟩ := DataW.trod_int Try.underlying3 g0
  simp only [List.cons.injEq, and_true] at e0
  subst e0
  have g1 := hf 1 f1 rfl
  rw [o1, t1, oneEvi] at g1
  simp only [List.drop_zero, List.drop_succ_cons, List.take_succ_cons, List.take_zero, List.getElem?_cons_zero, List.getElem?_cons_succ] at g1
  obtain ⟨s1, e1, _, z1⟩ := DataW.trod_int Try.underlying3 g1
  simp only [List.cons.injEq, and_true] at e1
  subst e1
  have g2 := hf 2 f2 rfl
  rw [o2, t2, oneEvs] at g2
  simp only [List.drop_zero, List.drop_succ_cons, List.take_succ_cons, List.take_zero, List.getElem?_cons_zero, List.getElem?_cons_succ] at g2
  obtain ⟨s2, e2, _, z2⟩ := DataW.trod_string Try.underlying9 g2
  simp only [List.cons.injEq, and_true] at e2
  subst e2
  exact ⟨⟨s0, s1, s2⟩, rfl, z2, (fitI_of z0).1, (fitI_of z0).2, (fitI_of z1).1, (fitI_of z1).2⟩

theorem openEvS {H : Type} {enc : TypeId × Value → H} {W : World} {fuel : Nat} {v : Value} {x : DataW H × List MemPlace} (h : DataW.trod enc Try.prog W 0 (fun _ => true) true fuel 32 [v] = some x) :
  ∃ (A : Option Addr) (c : Nat) (l : List VE), v = .slice A l.length c ∧ l.length ≤ c ∧ c ≤ maxLen ∧ FitVEs l ∧ RdG W W.heap.size A l :=
 openG Try.underlying32 cellsLawEv FitVE decVE h

theorem openArgEv {H : Type} {enc : TypeId × Value → H} {W : World} {r : Reach} {b0 : Nat} {v : Value} {d : DataW H} {p : List MemPlace}
  (hv : Value.okWide Try.prog W r b0 32 v) (h : DataW.Trod enc Try.prog W 0 (fun _ => true) true 32 v d p) :
  ∃ (A : Option Addr) (c : Nat) (l : List VE), v = .slice A l.length c ∧ l.length ≤ c ∧ c ≤ maxLen ∧ FitVEs l ∧ RdG W W.heap.size A l := by
 obtain ⟨a0, len0, cap0, rfl⟩ := okWide_slice Try.underlying32 hv
 obtain ⟨fuel, hf⟩ := h
 exact openEvS hf

end Go.Proofs.Ytheblejlmlfddaa
