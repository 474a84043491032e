/- Slices of Write: how they lie in memory; the laws' own copies, sizes, comparisons and marks of them.
A struct Write of the laws, read off its cells; a slice of them as an argument. -/
import Derived.Test.YtheblejlmlfddaaA5
import Derived.Test.YtheblejlmlfddaaA4
import Derived.Deep.RegionHeld3
namespace Go.Proofs.Ytheblejlmlfddaa
open Go.RowKit
set_option linter.unusedVariables false

structure X where
 k : ByteArray
 n : Int
 g : Bool

def csX (x : X) : List Value := [.string x.k, .int .i64 x.n, .bool x.g]
def agX (x : X) : Value := .agg #[.string x.k, .int .i64 x.n, .bool x.g]
instance elX : Elt X where
 T := 111
 wd := 3
 byt := 32
 zero := .agg #[.string ByteArray.empty, .int .i64 0, .bool false]
 cs := csX
 len := fun _ => rfl
 pos := by omega
 one := by
  intro a u hu
  simp only [csX, List.mem_cons, List.not_mem_nil, or_false] at hu
  rcases hu with rfl | rfl | rfl <;> rfl
 info := by kernel_rfl
 zsize := rfl
 small := by omega

section
variable {w w' : World} {B : Nat} {A : Option Addr} {l : List X}
theorem RdG.atX (h : RdG w B A l) {i : Nat} (hi : i < l.length) : ∃ b o, A = some ⟨b, o, none⟩ ∧ b < B ∧ w.cell? ⟨b, o + i * 3, none⟩ = some (.string l[i].k) ∧ w.cell? ⟨b, o + i * 3 + 1, none⟩ = some (.int .i64 l[i].n) ∧ w.cell? ⟨b, o + i * 3 + 2, none⟩ = some (.bool l[i].g) := by
 obtain ⟨b, o, e, hb, h1⟩ := h.at_ hi
 exact ⟨b, o, e, hb, h1 0 _ rfl, h1 1 _ rfl, h1 2 _ rfl⟩
theorem RdG.fixX (h : RdG w B A l) {b o : Nat} (e : A = some ⟨b, o, none⟩) {i : Nat} (hi : i < l.length) : w.cell? ⟨b, o + i * 3, none⟩ = some (.string l[i].k) ∧ w.cell? ⟨b, o + i * 3 + 1, none⟩ = some (.int .i64 l[i].n) ∧ w.cell? ⟨b, o + i * 3 + 2, none⟩ = some (.bool l[i].g) := by
 obtain ⟨hb, h1⟩ := h.fix e hi
 exact ⟨h1 0 _ rfl, h1 1 _ rfl, h1 2 _ rfl⟩
end
theorem rdOneX (w : World) (x : X) (t : TypeId) : RdG (w.alloc (.cells #[.string x.k, .int .i64 x.n, .bool x.g] t)) (w.alloc (.cells #[.string x.k, .int .i64 x.n, .bool x.g] t)).heap.size (some ⟨w.heap.size, 0, none⟩) [x] :=
 rdOneG w x _ t rfl

/-- it fits Go's kinds -/
def FitX (x : X) : Prop := x.k.size ≤ maxLen ∧ -9223372036854775808 ≤ x.n ∧ x.n ≤ 9223372036854775807
def FitXs (l : List X) : Prop := ∀ r ∈ l, FitX r

set_option maxRecDepth 100000 in
set_option maxHeartbeats 1000000 in
theorem toWrite_c (x : X) (w : World) :
  Calls Try.prog 88 #[.agg #[.string x.k, .int .i64 x.n, .bool x.g]] w fun e w' => e = .returned (.agg #[.string x.k, .int .i64 x.n, .bool x.g]) ∧ Below w.heap.size w w' := by
 go_enter Try.func88, Try.ntmps88
 go_wp2
 exact bodyPost_ret (v := .agg #[.string x.k, .int .i64 x.n, .bool x.g]) (by simp [results, Try.results88, go_sem]) rfl ⟨rfl, (by (repeat (first | exact Below.refl _ _ | (refine Below.setCell ?_ (by simp <;> omega) _) | (refine Below.alloc ?_ (by simp <;> omega) _) | (refine Below.drew ?_))))⟩

set_option maxRecDepth 100000 in
set_option maxHeartbeats 1000000 in
theorem toWriteS_c (A : Option Addr) (c : Nat) (l : List X) (w : World) (hc : l.length ≤ c) (hcm : l.length ≤ 1048576) (hr : RdG w w.heap.size A l) :
  Calls Try.prog 84 #[.slice A l.length c] w fun e w' => ∃ g, e = .returned (.slice (some ⟨g, 0, none⟩) l.length l.length) ∧ w.heap.size ≤ g ∧ Blk w' g 111 (cellsG l).toArray ∧ Below w.heap.size w w' := by
 have hmk := mkG (α := X) 50 Try.underlying50 l.length l.length (Nat.le_refl _) (by omega)
 go_enter Try.func84, Try.ntmps84
 go_wp2
 clear hmk
 go_loopw [4] (fun i W => ∃ k : Nat, k ≤ l.length ∧ i = .int .i64 k ∧ ∃ c : Array Value, Blk W w.heap.size 111 c ∧ c.size = l.length * 3 ∧ FillG l c k ∧ Below w.heap.size w W) (fun i _ => l.length - (intOf i).toNat)
 case atStart => exact ⟨0, Nat.zero_le _, rfl, _, heap_alloc_new _ _, freshG_size (α := X) _, FillG.zero _ _, (Below.refl _ _).alloc (Nat.le_refl _) _⟩
 case round =>
  obtain ⟨k, hk, rfl, cs, hblk, hsz, hcs, hb⟩ := hrel
  by_cases hkl : k < l.length
  ·
   obtain ⟨b, o, rfl, hbB, hc0, hc1, hc2⟩ := (hr.below hb).atX hkl
   have HCS := Lib.hid hcs
   have HSZ := Lib.hid hsz
   clear hcs hsz
   have hs0 : k * 3 < cs.size := by rw [HSZ.out]; omega
   have hs1 : k * 3 + 1 < cs.size := by rw [HSZ.out]; omega
   have hs2 : k * 3 + 2 < cs.size := by rw [HSZ.out]; omega
   go_wp2_with ((go_at_call 88; refine (toWrite_c l[k] _).mono ?_; rintro e w' ⟨rfl, hb2⟩; have hblk2 := Lib.hid (hblk.next hb2); have g0 : w'.cell? ⟨w.heap.size, k * 3, none⟩ = some cs[k * 3] := by { rw [hblk2.out.cell]; exact Array.getElem?_eq_getElem hs0 }; have z0 := hblk2.out.free (k * 3); have g1 : w'.cell? ⟨w.heap.size, k * 3 + 1, none⟩ = some cs[k * 3 + 1] := by { rw [hblk2.out.cell]; exact Array.getElem?_eq_getElem hs1 }; have z1 := hblk2.out.free (k * 3 + 1); have g2 : w'.cell? ⟨w.heap.size, k * 3 + 2, none⟩ = some cs[k * 3 + 2] := by { rw [hblk2.out.cell]; exact Array.getElem?_eq_getElem hs2 }; have z2 := hblk2.out.free (k * 3 + 2)))
   go_roundw
   case rel => exact ⟨k + 1, by omega, by go_num, putC cs (k * 3) (csX l[k]), (((hblk2.out.set_ _ _).set_ _ _).set_ _ _), (putC_size _ _ _).trans HSZ.out, HCS.out.step hkl (Nat.le_of_eq HSZ.out.symm) _ (List.getElem?_eq_getElem hkl), ((((hb.trans (hb2.mono hb.size)).setCell (Nat.le_refl _) _).setCell (Nat.le_refl _) _).setCell (Nat.le_refl _) _)⟩
   case measure => simp [intOf]; omega
  ·
   have hkk : k = l.length := by omega
   have HK := Lib.hid hkk
   have HCS := Lib.hid hcs
   have HSZ := Lib.hid hsz
   clear hkk hcs hsz
   go_wp2
   go_ret
   refine ⟨_, rfl, Nat.le_refl _, ?_, hb⟩
   have hf := HCS.out
   rw [HK.out] at hf
   rw [← hf.full HSZ.out]
   exact hblk

theorem toWriteOwn_c (A : Option Addr) (c : Nat) (l : List X) (w : World) (hc : l.length ≤ c) (hcm : l.length ≤ 1048576) (hr : RdG w w.heap.size A l) :
  Calls Try.prog 84 #[.slice A l.length c] w fun e w' => ∃ g, e = .returned (.slice (some ⟨g, 0, none⟩) l.length l.length) ∧ OwnG w' w.heap.size (.slice (some ⟨g, 0, none⟩) l.length l.length) l ∧ w.heap.size ≤ g ∧ g < w'.heap.size ∧ Below w.heap.size w w' := by
 refine (toWriteS_c A c l w hc hcm hr).mono ?_
 rintro e w' ⟨g, rfl, h1, h2, h3⟩
 exact ⟨g, rfl, OwnG.of_blk h1 h2 (by unfold maxLen; omega), h1, h2.lt, h3⟩

/-- values and letters of a list -/
def totalX (l : List X) : Nat := (l.map fun r => r.k.size + 1).sum
theorem totalX_take_succ (l : List X) (k : Nat) (h : k < l.length) : totalX (l.take (k + 1)) = totalX (l.take k) + (l[k].k.size + 1) := by
 unfold totalX; rw [List.take_succ_eq_append_getElem h, List.map_append, List.sum_append]; simp
theorem totalX_take_le (l : List X) (k : Nat) : totalX (l.take k) ≤ totalX l := by
 conv => rhs; rw [← List.take_append_drop k l]
 unfold totalX; rw [List.map_append, List.sum_append]; omega
theorem totalX_take_ge (l : List X) (k : Nat) : totalX (l.take k) + (l.length - k) ≤ totalX l := by
 have h2 : (l.drop k).length ≤ totalX (l.drop k) := by
  generalize l.drop k = m
  induction m with
  | nil => simp
  | cons a m ih => unfold totalX at ih ⊢; simp only [List.map_cons, List.sum_cons, List.length_cons]; omega
 have h3 : totalX l = totalX (l.take k) + totalX (l.drop k) := by
  conv => lhs; rw [← List.take_append_drop k l]
  unfold totalX; rw [List.map_append, List.sum_append]
 rw [List.length_drop] at h2
 omega
theorem totalX_len (l : List X) : l.length ≤ totalX l := by have := totalX_take_ge l 0; simp [totalX] at this ⊢; omega

set_option maxHeartbeats 1000000 in
theorem szWrite_c (x : X) (left : Int) (w : World) (hs : x.k.size ≤ maxLen) (h0 : 0 ≤ left) (h1 : left ≤ 1048576) :
  Calls Try.prog 87 #[.agg #[.string x.k, .int .i64 x.n, .bool x.g], .int .i64 left] w fun e w' => e = .returned (.int .i64 (szR left x.k.size)) ∧ Below w.heap.size w w' := by
 unfold maxLen at hs
 by_cases h : left < (x.k.size : Int)
 ·
  have hd : decide (left - (x.k.size : Int) < 0) = true := by simp; omega
  have HN := Lib.hid (szR_neg h)
  go_enter Try.func87, Try.ntmps87
  go_wp2
  go_ret
  exact ⟨ret_int HN.out.symm, (by (repeat (first | exact Below.refl _ _ | (refine Below.setCell ?_ (by simp <;> omega) _) | (refine Below.alloc ?_ (by simp <;> omega) _) | (refine Below.drew ?_))))⟩
 ·
  have hd : decide (left - (x.k.size : Int) < 0) = false := by simp; omega
  have HN := Lib.hid (szR_pos (left := left) (k := x.k.size) (by omega))
  go_enter Try.func87, Try.ntmps87
  go_wp2
  go_ret
  exact ⟨ret_int HN.out.symm, (by (repeat (first | exact Below.refl _ _ | (refine Below.setCell ?_ (by simp <;> omega) _) | (refine Below.alloc ?_ (by simp <;> omega) _) | (refine Below.drew ?_))))⟩

set_option maxRecDepth 100000 in
set_option maxHeartbeats 1000000 in
theorem szWriteS_c (A : Option Addr) (c : Nat) (l : List X) (left : Int) (w : World) (hfit : FitXs l) (hc : l.length ≤ c) (hcm : c ≤ maxLen) (h0 : 0 ≤ left) (h1 : left ≤ 1048576) (hr : RdG w w.heap.size A l) :
  Calls Try.prog 82 #[.slice A l.length c, .int .i64 left] w fun e w' => e = .returned (.int .i64 (szR left (totalX l))) ∧ Below w.heap.size w w' := by
 unfold maxLen at hcm
 have htl := totalX_len l
 by_cases h : left < (l.length : Int)
 ·
  have hd : decide (left - (l.length : Int) < 0) = true := by simp; omega
  have HN := Lib.hid (szR_neg (left := left) (k := totalX l) (by omega))
  go_enter Try.func82, Try.ntmps82
  go_wp2
  go_ret
  exact ⟨ret_int HN.out.symm, Below.refl _ _⟩
 ·
  have hd : decide (left - (l.length : Int) < 0) = false := by simp; omega
  go_enter Try.func82, Try.ntmps82
  go_wp2
  go_loopw [1, 5] (fun lf i W => ∃ k : Nat, k ≤ l.length ∧ i = .int .i64 k ∧ ∃ z : Int, lf = .int .i64 z ∧ z = left - l.length - totalX (l.take k) + k ∧ 0 ≤ z ∧ z ≤ 1048576 ∧ Below w.heap.size w W) (fun _ i _ => l.length - (intOf i).toNat)
  case atStart => exact ⟨0, Nat.zero_le _, rfl, _, rfl, by simp [totalX], by omega, by omega, Below.refl _ _⟩
  case round =>
   obtain ⟨k, hk, rfl, z, rfl, hz, hz0, hz1, hb⟩ := hrel
   by_cases hkl : k < l.length
   ·
    obtain ⟨b, o, rfl, hbB, hc0, hc1, hc2⟩ := (hr.below hb).atX hkl
    have hs := (hfit _ (List.getElem_mem hkl)).1
    have ht := totalX_take_succ l k hkl
    have hge := totalX_take_ge l (k + 1)
    have HZ := Lib.hid hz
    have HT := Lib.hid ht
    clear hz ht
    by_cases hlo : z < (l[k].k.size : Int)
    ·
     go_wp2_with ((go_at_call 87; refine (szWrite_c l[k] _ _ hs hz0 hz1).mono ?_; rintro e w' ⟨rfl, hb2⟩; rw [szR_neg hlo]))
     go_ret
     exact ⟨ret_int (szR_neg (by have := HZ.out; have := HT.out; omega)).symm, hb.trans (hb2.mono hb.size)⟩
    ·
     have hlo' : (l[k].k.size : Int) ≤ z := by omega
     go_wp2_with ((go_at_call 87; refine (szWrite_c l[k] _ _ hs hz0 hz1).mono ?_; rintro e w' ⟨rfl, hb2⟩; rw [szR_pos hlo']))
     go_roundw
     case rel => exact ⟨k + 1, by omega, by go_num, _, rfl, by have := HZ.out; have := HT.out; omega, by omega, by omega, hb.trans (hb2.mono hb.size)⟩
     case measure => simp [intOf]; omega
   ·
    have hkk : k = l.length := by omega
    have HK := Lib.hid hkk
    have HZ := Lib.hid hz
    clear hkk hz
    go_wp2
    go_ret
    refine ⟨ret_int ?_, hb⟩
    have e1 := HZ.out
    rw [HK.out, List.take_length] at e1
    rw [szR_pos (by omega)]
    omega

open Classical in
noncomputable def eqX (a b : X) : Bool := decide (a = b)
theorem eqX_yes {a b : X} (h : a = b) : eqX a b = true := by unfold eqX; simp [h]
theorem eqX_no {a b : X} (h : a ≠ b) : eqX a b = false := by unfold eqX; simp [h]
theorem eqX_iff {a b : X} : eqX a b = true ↔ a = b := by unfold eqX; simp
open Classical in
noncomputable def eqXs (a b : List X) : Bool := decide (a = b)
theorem eqXs_yes {a b : List X} (h : a = b) : eqXs a b = true := by unfold eqXs; simp [h]
theorem eqXs_no {a b : List X} (h : a ≠ b) : eqXs a b = false := by unfold eqXs; simp [h]
theorem eqXs_iff {a b : List X} : eqXs a b = true ↔ a = b := by unfold eqXs; simp

set_option maxHeartbeats 1000000 in
theorem eqWrite_c (x y : X) (w : World) :
  Calls Try.prog 86 #[.agg #[.string x.k, .int .i64 x.n, .bool x.g], .agg #[.string y.k, .int .i64 y.n, .bool y.g]] w fun e w' => e = .returned (.bool (eqX x y)) ∧ Below w.heap.size w w' := by
 by_cases h0 : x.k = y.k
 ·
  have b0 : (x.k.toList == y.k.toList) = true := by rw [h0]; simp
  have H0 := Lib.hid h0
  clear h0
  by_cases h1 : x.n = y.n
  ·
   have b1 : (x.n != y.n) = false := by simp [h1]
   have H1 := Lib.hid h1
   clear h1
   by_cases h2 : x.g = y.g
   ·
    have b2 : (x.g == y.g) = true := by simp [h2]
    have H2 := Lib.hid h2
    clear h2
    have HE := Lib.hid (eqX_yes (show x = y from by
     revert H0 H1 H2
     clear b0 b1 b2
     cases x; cases y
     intro H0 H1 H2
     have e0 := H0.out
     have e1 := H1.out
     have e2 := H2.out
     simp only at e0 e1 e2
     subst e0 e1 e2
     rfl))
    go_enter Try.func86, Try.ntmps86
    go_wp2
    go_ret
    exact ⟨ret_bool HE.out.symm, (by (repeat (first | exact Below.refl _ _ | (refine Below.setCell ?_ (by simp <;> omega) _) | (refine Below.alloc ?_ (by simp <;> omega) _) | (refine Below.drew ?_))))⟩
   ·
    have b2 : (x.g == y.g) = false := by simp [h2]
    have HE := Lib.hid (eqX_no (show x ≠ y from fun e => h2 (by rw [e])))
    go_enter Try.func86, Try.ntmps86
    go_wp2
    go_ret
    exact ⟨ret_bool HE.out.symm, (by (repeat (first | exact Below.refl _ _ | (refine Below.setCell ?_ (by simp <;> omega) _) | (refine Below.alloc ?_ (by simp <;> omega) _) | (refine Below.drew ?_))))⟩
  ·
   have b1 : (x.n != y.n) = true := by simp [h1]
   have HE := Lib.hid (eqX_no (show x ≠ y from fun e => h1 (by rw [e])))
   go_enter Try.func86, Try.ntmps86
   go_wp2
   go_ret
   exact ⟨ret_bool HE.out.symm, (by (repeat (first | exact Below.refl _ _ | (refine Below.setCell ?_ (by simp <;> omega) _) | (refine Below.alloc ?_ (by simp <;> omega) _) | (refine Below.drew ?_))))⟩
 ·
  have b0 := str_ne h0
  have HE := Lib.hid (eqX_no (show x ≠ y from fun e => h0 (by rw [e])))
  go_enter Try.func86, Try.ntmps86
  go_wp2
  go_ret
  exact ⟨ret_bool HE.out.symm, (by (repeat (first | exact Below.refl _ _ | (refine Below.setCell ?_ (by simp <;> omega) _) | (refine Below.alloc ?_ (by simp <;> omega) _) | (refine Below.drew ?_))))⟩

set_option maxRecDepth 100000 in
set_option maxHeartbeats 1000000 in
theorem eqWriteS_c (A A' : Option Addr) (c c' : Nat) (l l' : List X) (w : World) (hc : l.length ≤ 2097152) (hc' : l'.length ≤ 2097152) (hr : RdG w w.heap.size A l) (hr' : RdG w w.heap.size A' l') :
  Calls Try.prog 80 #[.slice A l.length c, .slice A' l'.length c'] w fun e w' => e = .returned (.bool (eqXs l l')) ∧ Below w.heap.size w w' := by
 by_cases hlen : l.length = l'.length
 ·
  have hne : ((l.length : Int) != (l'.length : Int)) = false := by simp [hlen]
  have HL := Lib.hid hlen
  have hle1 : l.length ≤ l'.length := by omega
  have hle2 : l'.length ≤ l.length := by omega
  clear hlen
  go_enter Try.func80, Try.ntmps80
  go_wp2
  go_loopw [5] (fun i W => ∃ k : Nat, k ≤ l.length ∧ i = .int .i64 k ∧ Below w.heap.size w W ∧ l.take k = l'.take k) (fun i _ => l.length - (intOf i).toNat)
  case atStart => exact ⟨0, Nat.zero_le _, rfl, Below.refl _ _, rfl⟩
  case round =>
   obtain ⟨k, hk, rfl, hb, ht⟩ := hrel
   have HT := Lib.hid ht
   clear ht
   by_cases hkl : k < l.length
   ·
    have hkl' : k < l'.length := by omega
    obtain ⟨b, o, rfl, hbB, hc0, hc1, hc2⟩ := (hr.below hb).atX hkl
    obtain ⟨b', o', rfl, hbB', hd0, hd1, hd2⟩ := (hr'.below hb).atX hkl'
    have hq : b < wr.heap.size := Nat.lt_of_lt_of_le hbB hb.size
    have hq' : b' < wr.heap.size := Nat.lt_of_lt_of_le hbB' hb.size
    cases he : eqX l[k] l'[k]
    ·
     have HN := Lib.hid (eqXs_no fun h : l = l' => by
      have e : eqX l[k] l'[k] = true := eqX_yes (by subst h; rfl)
      rw [he] at e; cases e)
     go_wp2
     go_region_held3 (fun W => W.cell? ⟨b, o + k * 3, none⟩ = some (.string l[k].k) ∧ W.cell? ⟨b, o + k * 3 + 1, none⟩ = some (.int .i64 l[k].n) ∧ W.cell? ⟨b, o + k * 3 + 2, none⟩ = some (.bool l[k].g) ∧ W.cell? ⟨b', o' + k * 3, none⟩ = some (.string l'[k].k) ∧ W.cell? ⟨b', o' + k * 3 + 1, none⟩ = some (.int .i64 l'[k].n) ∧ W.cell? ⟨b', o' + k * 3 + 2, none⟩ = some (.bool l'[k].g)) (first | exact ⟨hc0, hc1, hc2, hd0, hd1, hd2⟩ | exact ⟨(hb2.cell hq).trans hc0, (hb2.cell hq).trans hc1, (hb2.cell hq).trans hc2, (hb2.cell hq').trans hd0, (hb2.cell hq').trans hd1, (hb2.cell hq').trans hd2⟩)
      (first | (go_at_call 86; refine (eqWrite_c l[k] l'[k] _).mono ?_; rintro e w' ⟨rfl, hb2⟩))
     go_wp2
     go_ret
     exact ⟨ret_bool HN.out.symm, hb.trans ((Below.drew (Below.refl _ _)).trans (hb2.mono hb.size))⟩
    ·
     have HE := Lib.hid (eqX_iff.1 he)
     go_wp2
     go_region_held3 (fun W => W.cell? ⟨b, o + k * 3, none⟩ = some (.string l[k].k) ∧ W.cell? ⟨b, o + k * 3 + 1, none⟩ = some (.int .i64 l[k].n) ∧ W.cell? ⟨b, o + k * 3 + 2, none⟩ = some (.bool l[k].g) ∧ W.cell? ⟨b', o' + k * 3, none⟩ = some (.string l'[k].k) ∧ W.cell? ⟨b', o' + k * 3 + 1, none⟩ = some (.int .i64 l'[k].n) ∧ W.cell? ⟨b', o' + k * 3 + 2, none⟩ = some (.bool l'[k].g)) (first | exact ⟨hc0, hc1, hc2, hd0, hd1, hd2⟩ | exact ⟨(hb2.cell hq).trans hc0, (hb2.cell hq).trans hc1, (hb2.cell hq).trans hc2, (hb2.cell hq').trans hd0, (hb2.cell hq').trans hd1, (hb2.cell hq').trans hd2⟩)
      (first | (go_at_call 86; refine (eqWrite_c l[k] l'[k] _).mono ?_; rintro e w' ⟨rfl, hb2⟩))
     go_wp2
     go_roundw
     case rel => exact ⟨k + 1, by omega, by go_num, hb.trans ((Below.drew (Below.refl _ _)).trans (hb2.mono hb.size)), by rw [List.take_succ_eq_append_getElem hkl, List.take_succ_eq_append_getElem hkl', HT.out, HE.out]⟩
     case measure => simp [intOf]; omega
   ·
    have HN := Lib.hid (show k = l.length from by omega)
    go_wp2
    go_ret
    refine ⟨ret_bool (eqXs_yes ?_).symm, hb⟩
    have e := HT.out
    rw [HN.out, List.take_length, HL.out, List.take_length] at e
    exact e
 ·
  have hne : ((l.length : Int) != (l'.length : Int)) = true := by simp; omega
  have HL := Lib.hid hlen
  clear hlen
  go_enter Try.func80, Try.ntmps80
  go_wp2
  go_ret
  exact ⟨ret_bool (eqXs_no fun h => HL.out (congrArg List.length h)).symm, Below.refl _ _⟩

theorem eqWriteOwn_c (v v' : Value) (l l' : List X) (base base' : Nat) (w : World) (h : OwnG w base v l) (h' : OwnG w base' v' l') (hl : l.length ≤ 2097152) (hl' : l'.length ≤ 2097152) :
  Calls Try.prog 80 #[v, v'] w fun e w' => e = .returned (.bool (eqXs l l')) ∧ Below w.heap.size w w' := by
 obtain ⟨A, c, rfl, _, _, hr⟩ := h.read
 obtain ⟨A', c', rfl, _, _, hr'⟩ := h'.read
 exact eqWriteS_c A A' c c' l l' w hl hl' hr hr'

def markX (k : Nat) : X := ⟨mt k, (k : Int) + 1, ((k : Int) + 2).tmod 3 == 0⟩

set_option maxRecDepth 100000 in
set_option maxHeartbeats 2000000 in
theorem markWriteS_some (g n cap k : Nat) (cur : Array Value) (w : World) (hblk : Blk w g 111 cur) (hn : n ≤ cap) (hs : cur.size = cap * 3) (h0 : 0 < k) (hk : k + 3 * n ≤ 8388608) :
  Calls Try.prog 47 #[.slice (some ⟨g, 0, none⟩) n cap, .int .i64 k] w fun e w' => e = .returned (.int .i64 (k + 3 * n : Nat)) ∧
   ∃ cur', Blk w' g 111 cur' ∧ cur'.size = cap * 3 ∧ FillG (marksG markX n k) cur' n ∧ w.grownBy w' (some g) := by
 go_enter Try.func47, Try.ntmps47
 go_wp2
 go_loopw [1, 5] (fun kk i W => ∃ j : Nat, j ≤ n ∧ i = .int .i64 j ∧ kk = .int .i64 (k + 3 * j : Nat) ∧ ∃ cs : Array Value, Blk W g 111 cs ∧ cs.size = cap * 3 ∧ FillG (marksG markX n k) cs j ∧ w.grownBy W (some g)) (fun _ i _ => n - (intOf i).toNat)
 case atStart => exact ⟨0, Nat.zero_le _, rfl, rfl, cur, hblk, hs, FillG.zero _ _, World.grownBy.refl _ _⟩
 case round =>
  obtain ⟨j, hj, rfl, rfl, cs, hb, hsz, hcs, hg⟩ := hrel
  have HCS := Lib.hid hcs
  have HSZ := Lib.hid hsz
  clear hcs hsz
  by_cases hjn : j < n
  ·
   have HG := Lib.hid (marksG_get markX n k j hjn)
   have hs0 : j * 3 < cs.size := by rw [HSZ.out]; omega
   have hs1 : j * 3 + 1 < cs.size := by rw [HSZ.out]; omega
   have hs2 : j * 3 + 2 < cs.size := by rw [HSZ.out]; omega
   have hkj : 0 < k + 3 * j := by omega
   have hkj2 : k + 3 * j + 3 ≤ 8388608 := by omega
   obtain ⟨K, HK⟩ : ∃ K, Hid (k + 3 * j = K) := ⟨_, Lib.hid rfl⟩
   rw [HK.out] at hkj hkj2 ⊢
   go_wp2_with ((go_at_call 33; refine (markText_c K _ hkj (by omega)).mono ?_; rintro e w' ⟨rfl, hb2⟩; have hblk2 := Lib.hid (hb.next hb2); have g0 : w'.cell? ⟨g, j * 3, none⟩ = some cs[j * 3] := by { rw [hblk2.out.cell]; exact Array.getElem?_eq_getElem hs0 }; have z0 := hblk2.out.free (j * 3); have g1 : w'.cell? ⟨g, j * 3 + 1, none⟩ = some cs[j * 3 + 1] := by { rw [hblk2.out.cell]; exact Array.getElem?_eq_getElem hs1 }; have z1 := hblk2.out.free (j * 3 + 1); have g2 : w'.cell? ⟨g, j * 3 + 2, none⟩ = some cs[j * 3 + 2] := by { rw [hblk2.out.cell]; exact Array.getElem?_eq_getElem hs2 }; have z2 := hblk2.out.free (j * 3 + 2)))
   go_roundw
   case rel => exact ⟨j + 1, by omega, by go_num, by rw [← HK.out]; go_num, putC cs (j * 3) (csX (markX K)), (((hblk2.out.set_ _ _).set_ _ _).set_ _ _), (putC_size _ _ _).trans HSZ.out, by
    have e := HG.out
    rw [show k + Elt.wd X * j = K from HK.out] at e
    exact HCS.out.step (by rw [marksG_length]; exact hjn) (by rw [marksG_length, HSZ.out]; exact Nat.mul_le_mul_right _ (Nat.le_trans (Nat.le_refl _) hn)) _ e, (grown_set (grown_set (grown_set (grown_call hg hb2) _) _) _)⟩
   case measure => simp [intOf]; omega
  ·
   have hjj : j = n := by omega
   subst hjj
   go_wp2
   go_ret
   exact ⟨ret_int (by omega), cs, hb, HSZ.out, HCS.out, hg⟩

set_option maxRecDepth 100000 in
set_option maxHeartbeats 1000000 in
theorem markWriteS_nil (k : Nat) (w : World) :
  Calls Try.prog 47 #[.slice none 0 0, .int .i64 k] w fun e w' => e = .returned (.int .i64 k) ∧ w = w' := by
 go_enter Try.func47, Try.ntmps47
 go_wp2
 go_loop [1, 5] (fun kk i => kk = .int .i64 k ∧ i = .int .i64 0) (fun _ _ => 0)
 case atStart => exact ⟨rfl, rfl⟩
 case round =>
  obtain ⟨rfl, rfl⟩ := hrel
  go_wp2
  go_ret
  exact ⟨rfl, rfl⟩

theorem markX_c (v : Value) (l : List X) (base k : Nat) (w : World) (h : OwnG w base v l) (h0 : 0 < k) (hk : k + 3 * l.length ≤ 8388608) :
  Calls Try.prog 47 #[v, .int .i64 k] w fun e w' => e = .returned (.int .i64 (k + 3 * l.length : Nat)) ∧ OwnG w' base v (marksG markX l.length k) ∧ w.grownBy w' v.ownBlock := by
 rcases h.cases with ⟨rfl, rfl⟩ | ⟨g, cap, cur, rfl, hb, hblk, hl, hm, hs, ht⟩
 ·
  refine (markWriteS_nil k w).mono ?_
  rintro e w' ⟨rfl, rfl⟩
  exact ⟨rfl, OwnG.nil _ _, World.grownBy.refl _ _⟩
 ·
  refine (markWriteS_some g l.length cap k cur w hblk hl hs h0 hk).mono ?_
  rintro e w' ⟨rfl, cur', h1, h2, h3, h4⟩
  exact ⟨rfl, OwnG.of_fill _ (marksG_length _ _ _) hb h1 hl hm h2 h3, h4⟩

set_option maxRecDepth 100000 in
set_option maxHeartbeats 2000000 in
theorem heldWriteS_c (A : Option Addr) (c n k : Nat) (w : World) (h0 : 0 < k) (hk : k + 3 * n ≤ 8388608) (hr : RdG w w.heap.size A (marksG markX n k)) :
  Calls Try.prog 50 #[.slice A n c, .int .i64 k] w fun e w' => e = .returned (.int .i64 (k + 3 * n : Nat)) ∧ Below w.heap.size w w' := by
 go_enter Try.func50, Try.ntmps50
 go_wp2
 go_loopw [1, 5] (fun kk i W => ∃ j : Nat, j ≤ n ∧ i = .int .i64 j ∧ kk = .int .i64 (k + 3 * j : Nat) ∧ Below w.heap.size w W) (fun _ i _ => n - (intOf i).toNat)
 case atStart => exact ⟨0, Nat.zero_le _, rfl, rfl, Below.refl _ _⟩
 case round =>
  obtain ⟨j, hj, rfl, rfl, hb⟩ := hrel
  by_cases hjn : j < n
  ·
   obtain ⟨b, o, hA, hbB, hcs⟩ := (hr.below hb) j _ (marksG_get markX n k j hjn)
   subst hA
   have hkj : 0 < k + 3 * j := by omega
   have hkj2 : k + 3 * j + 3 ≤ 8388608 := by omega
   have hq : b < wr.heap.size := Nat.lt_of_lt_of_le hbB hb.size
   obtain ⟨K, HK⟩ : ∃ K, Hid (k + 3 * j = K) := ⟨_, Lib.hid rfl⟩
   rw [show k + Elt.wd X * j = K from HK.out] at hcs
   rw [HK.out] at hkj hkj2 ⊢
   have hc0 : wr.cell? ⟨b, o + j * 3, none⟩ = some (.string (mt K)) := hcs 0 _ rfl
   have hc1 : wr.cell? ⟨b, o + j * 3 + 1, none⟩ = some (.int .i64 ((K : Int) + 1)) := hcs 1 _ rfl
   have hc2 : wr.cell? ⟨b, o + j * 3 + 2, none⟩ = some (.bool (((K : Int) + 2).tmod 3 == 0)) := hcs 2 _ rfl
   clear hcs
   have hbT : Below wr.heap.size wr wr.drew := (Below.refl _ _).drew
   go_wp2
   go_region_held3 (fun W => W.cell? ⟨b, o + j * 3, none⟩ = some (.string (mt K))) (first | exact hc0 | exact (hbT.cell hq).trans hc0)
    (first | (go_at_call 33; refine (markText_c K _ hkj (by omega)).mono ?_; rintro e w' ⟨rfl, hb2⟩; have hbT := hbT.trans (hb2.mono hbT.size); clear hb2))
   have hx1 := (hbT.cell (p := ⟨b, o + j * 3 + 1, none⟩) hq).trans hc1
   have hx2 := (hbT.cell (p := ⟨b, o + j * 3 + 2, none⟩) hq).trans hc2
   rw [show ((K : Int) + 2) = (K : Int) + 1 + 1 from by omega] at hx2
   go_wp2
   go_roundw
   case rel => exact ⟨j + 1, by omega, by go_num, by rw [← HK.out]; go_num, hb.trans (hbT.mono hb.size)⟩
   case measure => simp [intOf]; omega
  ·
   have hjj : j = n := by omega
   subst hjj
   go_wp2
   go_ret
   exact ⟨rfl, hb⟩

theorem heldX_c (v : Value) (n base k : Nat) (w : World) (h : OwnG w base v (marksG markX n k)) (h0 : 0 < k) (hk : k + 3 * n ≤ 8388608) :
  Calls Try.prog 50 #[v, .int .i64 k] w fun e w' => e = .returned (.int .i64 (k + 3 * n : Nat)) ∧ Below w.heap.size w w' := by
 obtain ⟨A, c, rfl, _, _, hr⟩ := h.read
 rw [marksG_length]
 exact heldWriteS_c A c n k w h0 hk hr

end Go.Proofs.Ytheblejlmlfddaa

namespace Go.Proofs.Ytheblejlmlfddaa
open Go.ChangeShapes Go.WideShapes Go.ChangeAt Go.RowKit Go.Deep
set_option linter.unusedVariables false
set_option maxRecDepth 100000

theorem cellsLawWrite : Try.prog.cellsOf 136 = 3 := by kernel_rfl
theorem structLawWrite : ∃ f0 f1 f2 : Field, Try.prog.underlying 136 = some (.struct #[f0, f1, f2]) ∧ f0.offset = 0 ∧ f0.type = 9 ∧ f1.offset = 1 ∧ f1.type = 3 ∧ f2.offset = 2 ∧ f2.type = 4 := by
 have h := Try.underlying136
 exact ⟨_, _, _, h, rfl, rfl, rfl, rfl, rfl, rfl⟩
theorem oneWrites : Try.prog.cellsOf 9 = 1 := by kernel_rfl
theorem oneWritei : Try.prog.cellsOf 3 = 1 := by kernel_rfl
theorem oneWriteb : Try.prog.cellsOf 4 = 1 := by kernel_rfl

theorem decX {H : Type} {enc : TypeId × Value → H} {W : World} (n : Nat) (cs' : List Value) (x : DataW H × List MemPlace) (h : DataW.trod enc Try.prog W 0 (fun _ => true) true n 136 cs' = some x) :
  ∃ a : X, cs' = Elt.cs a ∧ FitX a := by
 obtain ⟨f0, f1, f2, hs, o0, t0, o1, t1, o2, t2⟩ := structLawWrite
 obtain ⟨xs, k, _, _, hl, hxl, hf⟩ := DataW.trod_struct hs h
 rw [cellsLawWrite] at hl
 match xs, hxl, cs', hl with
 | [y0, y1, y2], _, [v0, v1, v2], _ =>
  have g0 := hf 0 f0 rfl
  rw [o0, t0, oneWrites] at g0
  simp only [List.drop_zero, List.take_succ_cons, List.take_zero, List.getElem?_cons_zero] at g0
  obtain ⟨s0, e0, _, z0⟩ := DataW.trod_string Try.underlying9 g0
  simp only [List.cons.injEq, and_true] at e0
  subst e0
  have g1 := hf 1 f1 rfl
  rw [o1, t1, oneWritei] at g1
  simp only [List.drop_zero, List.drop_succ_cons, List.take_succ_cons, List.take_zero, List.getElem?_cons_zero, List.getElem?_cons_succ] at g1
  obtain ⟨s1, e1, _, z1⟩ := DataW.trod_int Try.underlying3 g1
  simp only [List.cons.injEq, and_true] at e1
  subst e1
  have g2 := hf 2 f2 rfl
  rw [o2, t2, oneWriteb] at g2
  simp only [List.drop_zero, List.drop_succ_cons, List.take_succ_cons, List.take_zero, List.getElem?_cons_zero, List.getElem?_cons_succ] at g2
  obtain ⟨s2, e2, _⟩ := DataW.trod_bool Try.underlying4 g2
  simp only [List.cons.injEq, and_true] at e2
  subst e2
  exact ⟨⟨s0, s1, s2⟩, rfl, z0, (fitI_of z1).1, (fitI_of z1).2⟩

theorem openWriteS {H : Type} {enc : TypeId × Value → H} {W : World} {fuel : Nat} {v : Value} {x : DataW H × List MemPlace} (h : DataW.trod enc Try.prog W 0 (fun _ => true) true fuel 85 [v] = some x) :
  ∃ (A : Option Addr) (c : Nat) (l : List X), v = .slice A l.length c ∧ l.length ≤ c ∧ c ≤ maxLen ∧ FitXs l ∧ RdG W W.heap.size A l :=
 openG Try.underlying85 cellsLawWrite FitX decX h

theorem openArgWrite {H : Type} {enc : TypeId × Value → H} {W : World} {r : Reach} {b0 : Nat} {v : Value} {d : DataW H} {p : List MemPlace}
  (hv : Value.okWide Try.prog W r b0 85 v) (h : DataW.Trod enc Try.prog W 0 (fun _ => true) true 85 v d p) :
  ∃ (A : Option Addr) (c : Nat) (l : List X), v = .slice A l.length c ∧ l.length ≤ c ∧ c ≤ maxLen ∧ FitXs l ∧ RdG W W.heap.size A l := by
 obtain ⟨a0, len0, cap0, rfl⟩ := okWide_slice Try.underlying85 hv
 obtain ⟨fuel, hf⟩ := h
 exact openWriteS hf

end Go.Proofs.Ytheblejlmlfddaa
