/- Slices of Ver: how they lie in memory; the laws' own copies, sizes, comparisons and marks of them. -/
import Derived.Test.YtbhdgalkedegjaaGen
import Derived.Test.YtbhdgalkedegjaaEq
import Derived.Test.YtbhdgalkedegjaaSz
import Derived.Deep.RegionHeld3
namespace Go.Proofs.Ytbhdgalkedegjaa
open Go.RowKit
set_option linter.unusedVariables false

structure V where
  k : ByteArray
  n : Int
  f : Int
  t : Int

def csV (x : V) : List Value := [.string x.k, .int .i64 x.n, .int .i64 x.f, .int .i64 x.t]
def agV (x : V) : Value := .agg #[.string x.k, .int .i64 x.n, .int .i64 x.f, .int .i64 x.t]
instance elV : Elt V where
  T := 68
  wd := 4
  byt := 40
  zero := .agg #[.string ByteArray.empty, .int .i64 0, .int .i64 0, .int .i64 0]
  cs := csV
  len := fun _ => rfl
  pos := by omega
  one := by
    intro a u hu
    simp only [csV, List.mem_cons, List.not_mem_nil, or_false] at hu
    rcases hu with rfl | rfl | rfl | rfl <;> rfl
  info := by kernel_rfl
  zsize := rfl
  small := by omega

section
variable {w w' : World} {B : Nat} {A : Option Addr} {l : List V}
theorem RdG.atV (h : RdG w B A l) {i : Nat} (hi : i < l.length) : ∃ b o, A = some ⟨b, o, none⟩ ∧ b < B ∧ w.cell? ⟨b, o + i * 4, none⟩ = some (.string l[i].k) ∧ w.cell? ⟨b, o + i * 4 + 1, none⟩ = some (.int .i64 l[i].n) ∧ w.cell? ⟨b, o + i * 4 + 2, none⟩ = some (.int .i64 l[i].f) ∧ w.cell? ⟨b, o + i * 4 + 3, none⟩ = some (.int .i64 l[i].t) := by
  obtain ⟨b, o, e, hb, h1⟩ := h.at_ hi
  exact ⟨b, o, e, hb, h1 0 _ rfl, h1 1 _ rfl, h1 2 _ rfl, h1 3 _ rfl⟩
theorem RdG.fixV (h : RdG w B A l) {b o : Nat} (e : A = some ⟨b, o, none⟩) {i : Nat} (hi : i < l.length) : w.cell? ⟨b, o + i * 4, none⟩ = some (.string l[i].k) ∧ w.cell? ⟨b, o + i * 4 + 1, none⟩ = some (.int .i64 l[i].n) ∧ w.cell? ⟨b, o + i * 4 + 2, none⟩ = some (.int .i64 l[i].f) ∧ w.cell? ⟨b, o + i * 4 + 3, none⟩ = some (.int .i64 l[i].t) := by
  obtain ⟨hb, h1⟩ := h.fix e hi
  exact ⟨h1 0 _ rfl, h1 1 _ rfl, h1 2 _ rfl, h1 3 _ rfl⟩
end
theorem rdOneV (w : World) (x : V) (t : TypeId) : RdG (w.alloc (.cells #[.string x.k, .int .i64 x.n, .int .i64 x.f, .int .i64 x.t] t)) (w.alloc (.cells #[.string x.k, .int .i64 x.n, .int .i64 x.f, .int .i64 x.t] t)).heap.size (some ⟨w.heap.size, 0, none⟩) [x] :=
  rdOneG w x _ t rfl

/-- it fits Go's kinds -/
def FitV (x : V) : Prop := x.k.size ≤ maxLen ∧ -9223372036854775808 ≤ x.n ∧ x.n ≤ 9223372036854775807 ∧ -9223372036854775808 ≤ x.f ∧ x.f ≤ 9223372036854775807 ∧ -9223372036854775808 ≤ x.t ∧ x.t ≤ 9223372036854775807
def FitVs (l : List V) : Prop := ∀ r ∈ l, FitV r

set_option maxRecDepth 100000 in
set_option maxHeartbeats 1000000 in
theorem toVer_c (x : V) (w : World) :
    Calls Try.prog 108 #[.agg #[.string x.k, .int .i64 x.n, .int .i64 x.f, .int .i64 x.t]] w fun e w' => e = .returned (.agg #[.string x.k, .int .i64 x.n, .int .i64 x.f, .int .i64 x.t]) ∧ Below w.heap.size w w' := by
  go_enter Try.func108, Try.ntmps108
  go_wp2
  exact bodyPost_ret (v := .agg #[.string x.k, .int .i64 x.n, .int .i64 x.f, .int .i64 x.t]) (by simp [results, Try.results108, go_sem]) rfl ⟨rfl, (by (repeat (first | exact Below.refl _ _ | (refine Below.setCell ?_ (by simp <;> omega) _) | (refine Below.alloc ?_ (by simp <;> omega) _) | (refine Below.drew ?_))))⟩

set_option maxRecDepth 100000 in
set_option maxHeartbeats 1000000 in
theorem toVerS_c (A : Option Addr) (c : Nat) (l : List V) (w : World) (hc : l.length ≤ c) (hcm : l.length ≤ 1048576) (hr : RdG w w.heap.size A l) :
    Calls Try.prog 62 #[.slice A l.length c] w fun e w' => ∃ g, e = .returned (.slice (some ⟨g, 0, none⟩) l.length l.length) ∧ w.heap.size ≤ g ∧ Blk w' g 68 (cellsG l).toArray ∧ Below w.heap.size w w' := by
  have hmk := mkG (α := V) 27 Try.underlying27 l.length l.length (Nat.le_refl _) (by omega)
  go_enter Try.func62, Try.ntmps62
  go_wp2
  clear hmk
  go_loopw [4] (fun i W => ∃ k : Nat, k ≤ l.length ∧ i = .int .i64 k ∧ ∃ c : Array Value, Blk W w.heap.size 68 c ∧ c.size = l.length * 4 ∧ FillG l c k ∧ Below w.heap.size w W) (fun i _ => l.length - (intOf i).toNat)
  case atStart => exact ⟨0, Nat.zero_le _, rfl, _, heap_alloc_new _ _, freshG_size (α := V) _, FillG.zero _ _, (Below.refl _ _).alloc (Nat.le_refl _) _⟩
  case round =>
    obtain ⟨k, hk, rfl, cs, hblk, hsz, hcs, hb⟩ := hrel
    by_cases hkl : k < l.length
    · obtain ⟨b, o, rfl, hbB, hc0, hc1, hc2, hc3⟩ := (hr.below hb).atV hkl
      have HCS := Lib.hid hcs
      have HSZ := Lib.hid hsz
      clear hcs hsz
      have hs0 : k * 4 < cs.size := by rw [HSZ.out]; omega
      have hs1 : k * 4 + 1 < cs.size := by rw [HSZ.out]; omega
      have hs2 : k * 4 + 2 < cs.size := by rw [HSZ.out]; omega
      have hs3 : k * 4 + 3 < cs.size := by rw [HSZ.out]; omega
      go_wp2_with ((go_at_call 108; refine (toVer_c l[k] _).mono ?_; rintro e w' ⟨rfl, hb2⟩; have hblk2 := Lib.hid (hblk.next hb2); have g0 : w'.cell? ⟨w.heap.size, k * 4, none⟩ = some cs[k * 4] := by { rw [hblk2.out.cell]; exact Array.getElem?_eq_getElem hs0 }; have z0 := hblk2.out.free (k * 4); have g1 : w'.cell? ⟨w.heap.size, k * 4 + 1, none⟩ = some cs[k * 4 + 1] := by { rw [hblk2.out.cell]; exact Array.getElem?_eq_getElem hs1 }; have z1 := hblk2.out.free (k * 4 + 1); have g2 : w'.cell? ⟨w.heap.size, k * 4 + 2, none⟩ = some cs[k * 4 + 2] := by { rw [hblk2.out.cell]; exact Array.getElem?_eq_getElem hs2 }; have z2 := hblk2.out.free (k * 4 + 2); have g3 : w'.cell? ⟨w.heap.size, k * 4 + 3, none⟩ = some cs[k * 4 + 3] := by { rw [hblk2.out.cell]; exact Array.getElem?_eq_getElem hs3 }; have z3 := hblk2.out.free (k * 4 + 3)))
      go_roundw
      case rel => exact ⟨k + 1, by omega, by go_num, putC cs (k * 4) (csV l[k]), ((((hblk2.out.set_ _ _).set_ _ _).set_ _ _).set_ _ _), (putC_size _ _ _).trans HSZ.out, HCS.out.step hkl (Nat.le_of_eq HSZ.out.symm) _ (List.getElem?_eq_getElem hkl), (((((hb.trans (hb2.mono hb.size)).setCell (Nat.le_refl _) _).setCell (Nat.le_refl _) _).setCell (Nat.le_refl _) _).setCell (Nat.le_refl _) _)⟩
      case measure => simp [intOf]; omega
    · have hkk : k = l.length := by omega
      have HK := Lib.hid hkk
      have HCS := Lib.hid hcs
      have HSZ := Lib.hid hsz
      clear hkk hcs hsz
      go_wp2
      go_ret
      refine ⟨_, rfl, Nat.le_refl _, ?_, hb⟩
      have hf := HCS.out
      rw [HK.out] at hf
      rw [← hf.full HSZ.out]
      exact hblk

theorem toVerOwn_c (A : Option Addr) (c : Nat) (l : List V) (w : World) (hc : l.length ≤ c) (hcm : l.length ≤ 1048576) (hr : RdG w w.heap.size A l) :
    Calls Try.prog 62 #[.slice A l.length c] w fun e w' => ∃ g, e = .returned (.slice (some ⟨g, 0, none⟩) l.length l.length) ∧ OwnG w' w.heap.size (.slice (some ⟨g, 0, none⟩) l.length l.length) l ∧ w.heap.size ≤ g ∧ g < w'.heap.size ∧ Below w.heap.size w w' := by
  refine (toVerS_c A c l w hc hcm hr).mono ?_
  rintro e w' ⟨g, rfl, h1, h2, h3⟩
  exact ⟨g, rfl, OwnG.of_blk h1 h2 (by unfold maxLen; omega), h1, h2.lt, h3⟩

/-- values and letters of a list -/
def totalV (l : List V) : Nat := (l.map fun r => r.k.size + 1).sum
theorem totalV_take_succ (l : List V) (k : Nat) (h : k < l.length) : totalV (l.take (k + 1)) = totalV (l.take k) + (l[k].k.size + 1) := by
  unfold totalV; rw [List.take_succ_eq_append_getElem h, List.map_append, List.sum_append]; simp
theorem totalV_take_le (l : List V) (k : Nat) : totalV (l.take k) ≤ totalV l := by
  conv => rhs; rw [← List.take_append_drop k l]
  unfold totalV; rw [List.map_append, List.sum_append]; omega
theorem totalV_take_ge (l : List V) (k : Nat) : totalV (l.take k) + (l.length - k) ≤ totalV l := by
  have h2 : (l.drop k).length ≤ totalV (l.drop k) := by
    generalize l.drop k = m
    induction m with
    | nil => simp
    | cons a m ih => unfold totalV at ih ⊢; simp only [List.map_cons, List.sum_cons, List.length_cons]; omega
  have h3 : totalV l = totalV (l.take k) + totalV (l.drop k) := by
    conv => lhs; rw [← List.take_append_drop k l]
    unfold totalV; rw [List.map_append, List.sum_append]
  rw [List.length_drop] at h2
  omega
theorem totalV_len (l : List V) : l.length ≤ totalV l := by have := totalV_take_ge l 0; simp [totalV] at this ⊢; omega

set_option maxHeartbeats 1000000 in
theorem szVer_c (x : V) (left : Int) (w : World) (hs : x.k.size ≤ maxLen) (h0 : 0 ≤ left) (h1 : left ≤ 1048576) :
    Calls Try.prog 107 #[.agg #[.string x.k, .int .i64 x.n, .int .i64 x.f, .int .i64 x.t], .int .i64 left] w fun e w' => e = .returned (.int .i64 (szR left x.k.size)) ∧ Below w.heap.size w w' := by
  unfold maxLen at hs
  by_cases h : left < (x.k.size : Int)
  · have hd : decide (left - (x.k.size : Int) < 0) = true := by simp; omega
    have HN := Lib.hid (szR_neg h)
    go_enter Try.func107, Try.ntmps107
    go_wp2
    go_ret
    exact ⟨ret_int HN.out.symm, (by (repeat (first | exact Below.refl _ _ | (refine Below.setCell ?_ (by simp <;> omega) _) | (refine Below.alloc ?_ (by simp <;> omega) _) | (refine Below.drew ?_))))⟩
  · have hd : decide (left - (x.k.size : Int) < 0) = false := by simp; omega
    have HN := Lib.hid (szR_pos (left := left) (k := x.k.size) (by omega))
    go_enter Try.func107, Try.ntmps107
    go_wp2
    go_ret
    exact ⟨ret_int HN.out.symm, (by (repeat (first | exact Below.refl _ _ | (refine Below.setCell ?_ (by simp <;> omega) _) | (refine Below.alloc ?_ (by simp <;> omega) _) | (refine Below.drew ?_))))⟩

set_option maxRecDepth 100000 in
set_option maxHeartbeats 1000000 in
theorem szVerS_c (A : Option Addr) (c : Nat) (l : List V) (left : Int) (w : World) (hfit : FitVs l) (hc : l.length ≤ c) (hcm : c ≤ maxLen) (h0 : 0 ≤ left) (h1 : left ≤ 1048576) (hr : RdG w w.heap.size A l) :
    Calls Try.prog 58 #[.slice A l.length c, .int .i64 left] w fun e w' => e = .returned (.int .i64 (szR left (totalV l))) ∧ Below w.heap.size w w' := by
  unfold maxLen at hcm
  have htl := totalV_len l
  by_cases h : left < (l.length : Int)
  · have hd : decide (left - (l.length : Int) < 0) = true := by simp; omega
    have HN := Lib.hid (szR_neg (left := left) (k := totalV l) (by omega))
    go_enter Try.func58, Try.ntmps58
    go_wp2
    go_ret
    exact ⟨ret_int HN.out.symm, Below.refl _ _⟩
  · have hd : decide (left - (l.length : Int) < 0) = false := by simp; omega
    go_enter Try.func58, Try.ntmps58
    go_wp2
    go_loopw [1, 5] (fun lf i W => ∃ k : Nat, k ≤ l.length ∧ i = .int .i64 k ∧ ∃ z : Int, lf = .int .i64 z ∧ z = left - l.length - totalV (l.take k) + k ∧ 0 ≤ z ∧ z ≤ 1048576 ∧ Below w.heap.size w W) (fun _ i _ => l.length - (intOf i).toNat)
    case atStart => exact ⟨0, Nat.zero_le _, rfl, _, rfl, by simp [totalV], by omega, by omega, Below.refl _ _⟩
    case round =>
      obtain ⟨k, hk, rfl, z, rfl, hz, hz0, hz1, hb⟩ := hrel
      by_cases hkl : k < l.length
      · obtain ⟨b, o, rfl, hbB, hc0, hc1, hc2, hc3⟩ := (hr.below hb).atV hkl
        have hs := (hfit _ (List.getElem_mem hkl)).1
        have ht := totalV_take_succ l k hkl
        have hge := totalV_take_ge l (k + 1)
        have HZ := Lib.hid hz
        have HT := Lib.hid ht
        clear hz ht
        by_cases hlo : z < (l[k].k.size : Int)
        · go_wp2_with ((go_at_call 107; refine (szVer_c l[k] _ _ hs hz0 hz1).mono ?_; rintro e w' ⟨rfl, hb2⟩; rw [szR_neg hlo]))
          go_ret
          exact ⟨ret_int (szR_neg (by have := HZ.out; have := HT.out; omega)).symm, hb.trans (hb2.mono hb.size)⟩
        · have hlo' : (l[k].k.size : Int) ≤ z := by omega
          go_wp2_with ((go_at_call 107; refine (szVer_c l[k] _ _ hs hz0 hz1).mono ?_; rintro e w' ⟨rfl, hb2⟩; rw [szR_pos hlo']))
          go_roundw
          case rel => exact ⟨k + 1, by omega, by go_num, _, rfl, by have := HZ.out; have := HT.out; omega, by omega, by omega, hb.trans (hb2.mono hb.size)⟩
          case measure => simp [intOf]; omega
      · have hkk : k = l.length := by omega
        have HK := Lib.hid hkk
        have HZ := Lib.hid hz
        clear hkk hz
        go_wp2
        go_ret
        refine ⟨ret_int ?_, hb⟩
        have e1 := HZ.out
        rw [HK.out, List.take_length] at e1
        rw [szR_pos (by omega)]
        omega

open Classical in
noncomputable def eqV (a b : V) : Bool := decide (a = b)
theorem eqV_yes {a b : V} (h : a = b) : eqV a b = true := by unfold eqV; simp [h]
theorem eqV_no {a b : V} (h : a ≠ b) : eqV a b = false := by unfold eqV; simp [h]
theorem eqV_iff {a b : V} : eqV a b = true ↔ a = b := by unfold eqV; simp
open Classical in
noncomputable def eqVs (a b : List V) : Bool := decide (a = b)
theorem eqVs_yes {a b : List V} (h : a = b) : eqVs a b = true := by unfold eqVs; simp [h]
theorem eqVs_no {a b : List V} (h : a ≠ b) : eqVs a b = false := by unfold eqVs; simp [h]
theorem eqVs_iff {a b : List V} : eqVs a b = true ↔ a = b := by unfold eqVs; simp

set_option maxHeartbeats 1000000 in
theorem eqVer_c (x y : V) (w : World) :
    Calls Try.prog 110 #[.agg #[.string x.k, .int .i64 x.n, .int .i64 x.f, .int .i64 x.t], .agg #[.string y.k, .int .i64 y.n, .int .i64 y.f, .int .i64 y.t]] w fun e w' => e = .returned (.bool (eqV x y)) ∧ Below w.heap.size w w' := by
  by_cases h0 : x.k = y.k
  · have b0 : (x.k.toList == y.k.toList) = true := by rw [h0]; simp
    have H0 := Lib.hid h0
    clear h0
    by_cases h1 : x.n = y.n
    · have b1 : (x.n != y.n) = false := by simp [h1]
      have H1 := Lib.hid h1
      clear h1
      by_cases h2 : x.f = y.f
      · have b2 : (x.f != y.f) = false := by simp [h2]
        have H2 := Lib.hid h2
        clear h2
        by_cases h3 : x.t = y.t
        · have b3 : (x.t != y.t) = false := by simp [h3]
          have H3 := Lib.hid h3
          clear h3
          have HE := Lib.hid (eqV_yes (show x = y from by
            revert H0 H1 H2 H3
            clear b0 b1 b2 b3
            cases x; cases y
            intro H0 H1 H2 H3
            have e0 := H0.out
            have e1 := H1.out
            have e2 := H2.out
            have e3 := H3.out
            simp only at e0 e1 e2 e3
            subst e0 e1 e2 e3
            rfl))
          go_enter Try.func110, Try.ntmps110
          go_wp2
          go_ret
          exact ⟨ret_bool HE.out.symm, (by (repeat (first | exact Below.refl _ _ | (refine Below.setCell ?_ (by simp <;> omega) _) | (refine Below.alloc ?_ (by simp <;> omega) _) | (refine Below.drew ?_))))⟩
        · have b3 : (x.t != y.t) = true := by simp [h3]
          have HE := Lib.hid (eqV_no (show x ≠ y from fun e => h3 (by rw [e])))
          go_enter Try.func110, Try.ntmps110
          go_wp2
          go_ret
          exact ⟨ret_bool HE.out.symm, (by (repeat (first | exact Below.refl _ _ | (refine Below.setCell ?_ (by simp <;> omega) _) | (refine Below.alloc ?_ (by simp <;> omega) _) | (refine Below.drew ?_))))⟩
      · have b2 : (x.f != y.f) = true := by simp [h2]
        have HE := Lib.hid (eqV_no (show x ≠ y from fun e => h2 (by rw [e])))
        go_enter Try.func110, Try.ntmps110
        go_wp2
        go_ret
        exact ⟨ret_bool HE.out.symm, (by (repeat (first | exact Below.refl _ _ | (refine Below.setCell ?_ (by simp <;> omega) _) | (refine Below.alloc ?_ (by simp <;> omega) _) | (refine Below.drew ?_))))⟩
    · have b1 : (x.n != y.n) = true := by simp [h1]
      have HE := Lib.hid (eqV_no (show x ≠ y from fun e => h1 (by rw [e])))
      go_enter Try.func110, Try.ntmps110
      go_wp2
      go_ret
      exact ⟨ret_bool HE.out.symm, (by (repeat (first | exact Below.refl _ _ | (refine Below.setCell ?_ (by simp <;> omega) _) | (refine Below.alloc ?_ (by simp <;> omega) _) | (refine Below.drew ?_))))⟩
  · have b0 := str_ne h0
    have HE := Lib.hid (eqV_no (show x ≠ y from fun e => h0 (by rw [e])))
    go_enter Try.func110, Try.ntmps110
    go_wp2
    go_ret
    exact ⟨ret_bool HE.out.symm, (by (repeat (first | exact Below.refl _ _ | (refine Below.setCell ?_ (by simp <;> omega) _) | (refine Below.alloc ?_ (by simp <;> omega) _) | (refine Below.drew ?_))))⟩

set_option maxRecDepth 100000 in
set_option maxHeartbeats 1000000 in
theorem eqVerS_c (A A' : Option Addr) (c c' : Nat) (l l' : List V) (w : World) (hc : l.length ≤ 2097152) (hc' : l'.length ≤ 2097152) (hr : RdG w w.heap.size A l) (hr' : RdG w w.heap.size A' l') :
    Calls Try.prog 67 #[.slice A l.length c, .slice A' l'.length c'] w fun e w' => e = .returned (.bool (eqVs l l')) ∧ Below w.heap.size w w' := by
  by_cases hlen : l.length = l'.length
  · have hne : ((l.length : Int) != (l'.length : Int)) = false := by simp [hlen]
    have HL := Lib.hid hlen
    have hle1 : l.length ≤ l'.length := by omega
    have hle2 : l'.length ≤ l.length := by omega
    clear hlen
    go_enter Try.func67, Try.ntmps67
    go_wp2
    go_loopw [5] (fun i W => ∃ k : Nat, k ≤ l.length ∧ i = .int .i64 k ∧ Below w.heap.size w W ∧ l.take k = l'.take k) (fun i _ => l.length - (intOf i).toNat)
    case atStart => exact ⟨0, Nat.zero_le _, rfl, Below.refl _ _, rfl⟩
    case round =>
      obtain ⟨k, hk, rfl, hb, ht⟩ := hrel
      have HT := Lib.hid ht
      clear ht
      by_cases hkl : k < l.length
      · have hkl' : k < l'.length := by omega
        obtain ⟨b, o, rfl, hbB, hc0, hc1, hc2, hc3⟩ := (hr.below hb).atV hkl
        obtain ⟨b', o', rfl, hbB', hd0, hd1, hd2, hd3⟩ := (hr'.below hb).atV hkl'
        have hq : b < wr.heap.size := Nat.lt_of_lt_of_le hbB hb.size
        have hq' : b' < wr.heap.size := Nat.lt_of_lt_of_le hbB' hb.size
        cases he : eqV l[k] l'[k]
        · have HN := Lib.hid (eqVs_no fun h : l = l' => by
            have e : eqV l[k] l'[k] = true := eqV_yes (by subst h; rfl)
            rw [he] at e; cases e)
          go_wp2
          go_region_held3 (fun W => W.cell? ⟨b, o + k * 4, none⟩ = some (.string l[k].k) ∧ W.cell? ⟨b, o + k * 4 + 1, none⟩ = some (.int .i64 l[k].n) ∧ W.cell? ⟨b, o + k * 4 + 2, none⟩ = some (.int .i64 l[k].f) ∧ W.cell? ⟨b, o + k * 4 + 3, none⟩ = some (.int .i64 l[k].t) ∧ W.cell? ⟨b', o' + k * 4, none⟩ = some (.string l'[k].k) ∧ W.cell? ⟨b', o' + k * 4 + 1, none⟩ = some (.int .i64 l'[k].n) ∧ W.cell? ⟨b', o' + k * 4 + 2, none⟩ = some (.int .i64 l'[k].f) ∧ W.cell? ⟨b', o' + k * 4 + 3, none⟩ = some (.int .i64 l'[k].t)) (first | exact ⟨hc0, hc1, hc2, hc3, hd0, hd1, hd2, hd3⟩ | exact ⟨(hb2.cell hq).trans hc0, (hb2.cell hq).trans hc1, (hb2.cell hq).trans hc2, (hb2.cell hq).trans hc3, (hb2.cell hq').trans hd0, (hb2.cell hq').trans hd1, (hb2.cell hq').trans hd2, (hb2.cell hq').trans hd3⟩)
            (first | (go_at_call 110; refine (eqVer_c l[k] l'[k] _).mono ?_; rintro e w' ⟨rfl, hb2⟩))
          go_wp2
          go_ret
          exact ⟨ret_bool HN.out.symm, hb.trans ((Below.drew (Below.refl _ _)).trans (hb2.mono hb.size))⟩
        · have HE := Lib.hid (eqV_iff.1 he)
          go_wp2
          go_region_held3 (fun W => W.cell? ⟨b, o + k * 4, none⟩ = some (.string l[k].k) ∧ W.cell? ⟨b, o + k * 4 + 1, none⟩ = some (.int .i64 l[k].n) ∧ W.cell? ⟨b, o + k * 4 + 2, none⟩ = some (.int .i64 l[k].f) ∧ W.cell? ⟨b, o + k * 4 + 3, none⟩ = some (.int .i64 l[k].t) ∧ W.cell? ⟨b', o' + k * 4, none⟩ = some (.string l'[k].k) ∧ W.cell? ⟨b', o' + k * 4 + 1, none⟩ = some (.int .i64 l'[k].n) ∧ W.cell? ⟨b', o' + k * 4 + 2, none⟩ = some (.int .i64 l'[k].f) ∧ W.cell? ⟨b', o' + k * 4 + 3, none⟩ = some (.int .i64 l'[k].t)) (first | exact ⟨hc0, hc1, hc2, hc3, hd0, hd1, hd2, hd3⟩ | exact ⟨(hb2.cell hq).trans hc0, (hb2.cell hq).trans hc1, (hb2.cell hq).trans hc2, (hb2.cell hq).trans hc3, (hb2.cell hq').trans hd0, (hb2.cell hq').trans hd1, (hb2.cell hq').trans hd2, (hb2.cell hq').trans hd3⟩)
            (first | (go_at_call 110; refine (eqVer_c l[k] l'[k] _).mono ?_; rintro e w' ⟨rfl, hb2⟩))
          go_wp2
          go_roundw
          case rel => exact ⟨k + 1, by omega, by go_num, hb.trans ((Below.drew (Below.refl _ _)).trans (hb2.mono hb.size)), by rw [List.take_succ_eq_append_getElem hkl, List.take_succ_eq_append_getElem hkl', HT.out, HE.out]⟩
          case measure => simp [intOf]; omega
      · have HN := Lib.hid (show k = l.length from by omega)
        go_wp2
        go_ret
        refine ⟨ret_bool (eqVs_yes ?_).symm, hb⟩
        have e := HT.out
        rw [HN.out, List.take_length, HL.out, List.take_length] at e
        exact e
  · have hne : ((l.length : Int) != (l'.length : Int)) = true := by simp; omega
    have HL := Lib.hid hlen
    clear hlen
    go_enter Try.func67, Try.ntmps67
    go_wp2
    go_ret
    exact ⟨ret_bool (eqVs_no fun h => HL.out (congrArg List.length h)).symm, Below.refl _ _⟩

theorem eqVerOwn_c (v v' : Value) (l l' : List V) (base base' : Nat) (w : World) (h : OwnG w base v l) (h' : OwnG w base' v' l') (hl : l.length ≤ 2097152) (hl' : l'.length ≤ 2097152) :
    Calls Try.prog 67 #[v, v'] w fun e w' => e = .returned (.bool (eqVs l l')) ∧ Below w.heap.size w w' := by
  obtain ⟨A, c, rfl, _, _, hr⟩ := h.read
  obtain ⟨A', c', rfl, _, _, hr'⟩ := h'.read
  exact eqVerS_c A A' c c' l l' w hl hl' hr hr'

def markV (k : Nat) : V := ⟨mt k, (k : Int) + 1, (k : Int) + 2, (k : Int) + 3⟩

set_option maxRecDepth 100000 in
set_option maxHeartbeats 2000000 in
theorem markVerS_some (g n cap k : Nat) (cur : Array Value) (w : World) (hblk : Blk w g 68 cur) (hn : n ≤ cap) (hs : cur.size = cap * 4) (h0 : 0 < k) (hk : k + 4 * n ≤ 8388608) :
    Calls Try.prog 70 #[.slice (some ⟨g, 0, none⟩) n cap, .int .i64 k] w fun e w' => e = .returned (.int .i64 (k + 4 * n : Nat)) ∧
      ∃ cur', Blk w' g 68 cur' ∧ cur'.size = cap * 4 ∧ FillG (marksG markV n k) cur' n ∧ w.grownBy w' (some g) := by
  go_enter Try.func70, Try.ntmps70
  go_wp2
  go_loopw [1, 5] (fun kk i W => ∃ j : Nat, j ≤ n ∧ i = .int .i64 j ∧ kk = .int .i64 (k + 4 * j : Nat) ∧ ∃ cs : Array Value, Blk W g 68 cs ∧ cs.size = cap * 4 ∧ FillG (marksG markV n k) cs j ∧ w.grownBy W (some g)) (fun _ i _ => n - (intOf i).toNat)
  case atStart => exact ⟨0, Nat.zero_le _, rfl, rfl, cur, hblk, hs, FillG.zero _ _, World.grownBy.refl _ _⟩
  case round =>
    obtain ⟨j, hj, rfl, rfl, cs, hb, hsz, hcs, hg⟩ := hrel
    have HCS := Lib.hid hcs
    have HSZ := Lib.hid hsz
    clear hcs hsz
    by_cases hjn : j < n
    · have HG := Lib.hid (marksG_get markV n k j hjn)
      have hs0 : j * 4 < cs.size := by rw [HSZ.out]; omega
      have hs1 : j * 4 + 1 < cs.size := by rw [HSZ.out]; omega
      have hs2 : j * 4 + 2 < cs.size := by rw [HSZ.out]; omega
      have hs3 : j * 4 + 3 < cs.size := by rw [HSZ.out]; omega
      have hkj : 0 < k + 4 * j := by omega
      have hkj2 : k + 4 * j + 4 ≤ 8388608 := by omega
      obtain ⟨K, HK⟩ : ∃ K, Hid (k + 4 * j = K) := ⟨_, Lib.hid rfl⟩
      rw [HK.out] at hkj hkj2 ⊢
      go_wp2_with ((go_at_call 71; refine (markText_c K _ hkj (by omega)).mono ?_; rintro e w' ⟨rfl, hb2⟩; have hblk2 := Lib.hid (hb.next hb2); have g0 : w'.cell? ⟨g, j * 4, none⟩ = some cs[j * 4] := by { rw [hblk2.out.cell]; exact Array.getElem?_eq_getElem hs0 }; have z0 := hblk2.out.free (j * 4); have g1 : w'.cell? ⟨g, j * 4 + 1, none⟩ = some cs[j * 4 + 1] := by { rw [hblk2.out.cell]; exact Array.getElem?_eq_getElem hs1 }; have z1 := hblk2.out.free (j * 4 + 1); have g2 : w'.cell? ⟨g, j * 4 + 2, none⟩ = some cs[j * 4 + 2] := by { rw [hblk2.out.cell]; exact Array.getElem?_eq_getElem hs2 }; have z2 := hblk2.out.free (j * 4 + 2); have g3 : w'.cell? ⟨g, j * 4 + 3, none⟩ = some cs[j * 4 + 3] := by { rw [hblk2.out.cell]; exact Array.getElem?_eq_getElem hs3 }; have z3 := hblk2.out.free (j * 4 + 3)))
      go_roundw
      case rel => exact ⟨j + 1, by omega, by go_num, by rw [← HK.out]; go_num, putC cs (j * 4) (csV (markV K)), ((((hblk2.out.set_ _ _).set_ _ _).set_ _ _).set_ _ _), (putC_size _ _ _).trans HSZ.out, by
        have e := HG.out
        rw [show k + Elt.wd V * j = K from HK.out] at e
        exact HCS.out.step (by rw [marksG_length]; exact hjn) (by rw [marksG_length, HSZ.out]; exact Nat.mul_le_mul_right _ (Nat.le_trans (Nat.le_refl _) hn)) _ e, (grown_set (grown_set (grown_set (grown_set (grown_call hg hb2) _) _) _) _)⟩
      case measure => simp [intOf]; omega
    · have hjj : j = n := by omega
      subst hjj
      go_wp2
      go_ret
      exact ⟨ret_int (by omega), cs, hb, HSZ.out, HCS.out, hg⟩

set_option maxRecDepth 100000 in
set_option maxHeartbeats 1000000 in
theorem markVerS_nil (k : Nat) (w : World) :
    Calls Try.prog 70 #[.slice none 0 0, .int .i64 k] w fun e w' => e = .returned (.int .i64 k) ∧ w = w' := by
  go_enter Try.func70, Try.ntmps70
  go_wp2
  go_loop [1, 5] (fun kk i => kk = .int .i64 k ∧ i = .int .i64 0) (fun _ _ => 0)
  case atStart => exact ⟨rfl, rfl⟩
  case round =>
    obtain ⟨rfl, rfl⟩ := hrel
    go_wp2
    go_ret
    exact ⟨rfl, rfl⟩

theorem markV_c (v : Value) (l : List V) (base k : Nat) (w : World) (h : OwnG w base v l) (h0 : 0 < k) (hk : k + 4 * l.length ≤ 8388608) :
    Calls Try.prog 70 #[v, .int .i64 k] w fun e w' => e = .returned (.int .i64 (k + 4 * l.length : Nat)) ∧ OwnG w' base v (marksG markV l.length k) ∧ w.grownBy w' v.ownBlock := by
  rcases h.cases with ⟨rfl, rfl⟩ | ⟨g, cap, cur, rfl, hb, hblk, hl, hm, hs, ht⟩
  · refine (markVerS_nil k w).mono ?_
    rintro e w' ⟨rfl, rfl⟩
    exact ⟨rfl, OwnG.nil _ _, World.grownBy.refl _ _⟩
  · refine (markVerS_some g l.length cap k cur w hblk hl hs h0 hk).mono ?_
    rintro e w' ⟨rfl, cur', h1, h2, h3, h4⟩
    exact ⟨rfl, OwnG.of_fill _ (marksG_length _ _ _) hb h1 hl hm h2 h3, h4⟩

set_option maxRecDepth 100000 in
set_option maxHeartbeats 2000000 in
theorem heldVerS_c (A : Option Addr) (c n k : Nat) (w : World) (h0 : 0 < k) (hk : k + 4 * n ≤ 8388608) (hr : RdG w w.heap.size A (marksG markV n k)) :
    Calls Try.prog 86 #[.slice A n c, .int .i64 k] w fun e w' => e = .returned (.int .i64 (k + 4 * n : Nat)) ∧ Below w.heap.size w w' := by
  go_enter Try.func86, Try.ntmps86
  go_wp2
  go_loopw [1, 5] (fun kk i W => ∃ j : Nat, j ≤ n ∧ i = .int .i64 j ∧ kk = .int .i64 (k + 4 * j : Nat) ∧ Below w.heap.size w W) (fun _ i _ => n - (intOf i).toNat)
  case atStart => exact ⟨0, Nat.zero_le _, rfl, rfl, Below.refl _ _⟩
  case round =>
    obtain ⟨j, hj, rfl, rfl, hb⟩ := hrel
    by_cases hjn : j < n
    · obtain ⟨b, o, hA, hbB, hcs⟩ := (hr.below hb) j _ (marksG_get markV n k j hjn)
      subst hA
      have hkj : 0 < k + 4 * j := by omega
      have hkj2 : k + 4 * j + 4 ≤ 8388608 := by omega
      have hq : b < wr.heap.size := Nat.lt_of_lt_of_le hbB hb.size
      obtain ⟨K, HK⟩ : ∃ K, Hid (k + 4 * j = K) := ⟨_, Lib.hid rfl⟩
      rw [show k + Elt.wd V * j = K from HK.out] at hcs
      rw [HK.out] at hkj hkj2 ⊢
      have hc0 : wr.cell? ⟨b, o + j * 4, none⟩ = some (.string (mt K)) := hcs 0 _ rfl
      have hc1 : wr.cell? ⟨b, o + j * 4 + 1, none⟩ = some (.int .i64 ((K : Int) + 1)) := hcs 1 _ rfl
      have hc2 : wr.cell? ⟨b, o + j * 4 + 2, none⟩ = some (.int .i64 ((K : Int) + 2)) := hcs 2 _ rfl
      have hc3 : wr.cell? ⟨b, o + j * 4 + 3, none⟩ = some (.int .i64 ((K : Int) + 3)) := hcs 3 _ rfl
      clear hcs
      have hbT : Below wr.heap.size wr wr.drew := (Below.refl _ _).drew
      go_wp2
      go_region_held3 (fun W => W.cell? ⟨b, o + j * 4, none⟩ = some (.string (mt K))) (first | exact hc0 | exact (hbT.cell hq).trans hc0)
        (first | (go_at_call 71; refine (markText_c K _ hkj (by omega)).mono ?_; rintro e w' ⟨rfl, hb2⟩; have hbT := hbT.trans (hb2.mono hbT.size); clear hb2))
      have hx1 := (hbT.cell (p := ⟨b, o + j * 4 + 1, none⟩) hq).trans hc1
      have hx2 := (hbT.cell (p := ⟨b, o + j * 4 + 2, none⟩) hq).trans hc2
      have hx3 := (hbT.cell (p := ⟨b, o + j * 4 + 3, none⟩) hq).trans hc3
      go_wp2
      go_roundw
      case rel => exact ⟨j + 1, by omega, by go_num, by rw [← HK.out]; go_num, hb.trans (hbT.mono hb.size)⟩
      case measure => simp [intOf]; omega
    · have hjj : j = n := by omega
      subst hjj
      go_wp2
      go_ret
      exact ⟨rfl, hb⟩

theorem heldV_c (v : Value) (n base k : Nat) (w : World) (h : OwnG w base v (marksG markV n k)) (h0 : 0 < k) (hk : k + 4 * n ≤ 8388608) :
    Calls Try.prog 86 #[v, .int .i64 k] w fun e w' => e = .returned (.int .i64 (k + 4 * n : Nat)) ∧ Below w.heap.size w w' := by
  obtain ⟨A, c, rfl, _, _, hr⟩ := h.read
  rw [marksG_length]
  exact heldVerS_c A c n k w h0 hk hr

end Go.Proofs.Ytbhdgalkedegjaa
