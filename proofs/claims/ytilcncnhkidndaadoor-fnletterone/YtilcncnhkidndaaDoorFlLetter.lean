/- Slices of Letter: how they lie in memory; the laws' own copies, sizes, comparisons and marks of them. -/
import Derived.Test.YtilcncnhkidndaaDoorE1
import Derived.Test.YtilcncnhkidndaaDoorA4
import Derived.Deep.RegionHeld3
namespace Go.Proofs.YtilcncnhkidndaaDoor
open Go.RowKit
set_option linter.unusedVariables false
set_option maxRecDepth 100000

structure LE where
 s : ByteArray
 b : ByteArray

def csLE (x : LE) : List Value := [.string x.s, .string x.b]
def agLE (x : LE) : Value := .agg #[.string x.s, .string x.b]
instance elLE : Elt LE where
 T := 24
 wd := 2
 byt := 32
 zero := .agg #[.string ByteArray.empty, .string ByteArray.empty]
 cs := csLE
 len := fun _ => rfl
 pos := by omega
 one := by
  intro a u hu
  simp only [csLE, List.mem_cons, List.not_mem_nil, or_false] at hu
  rcases hu with rfl | rfl <;> rfl
 info := by kernel_rfl
 zsize := rfl
 small := by omega

section
variable {w w' : World} {B : Nat} {A : Option Addr} {l : List LE}
theorem RdG.atLE (h : RdG w B A l) {i : Nat} (hi : i < l.length) : ∃ b o, A = some ⟨b, o, none⟩ ∧ b < B ∧ w.cell? ⟨b, o + i * 2, none⟩ = some (.string l[i].s) ∧ w.cell? ⟨b, o + i * 2 + 1, none⟩ = some (.string l[i].b) := by
 obtain ⟨b, o, e, hb, h1⟩ := h.at_ hi
 exact ⟨b, o, e, hb, h1 0 _ rfl, h1 1 _ rfl⟩
theorem RdG.fixLE (h : RdG w B A l) {b o : Nat} (e : A = some ⟨b, o, none⟩) {i : Nat} (hi : i < l.length) : w.cell? ⟨b, o + i * 2, none⟩ = some (.string l[i].s) ∧ w.cell? ⟨b, o + i * 2 + 1, none⟩ = some (.string l[i].b) := by
 obtain ⟨hb, h1⟩ := h.fix e hi
 exact ⟨h1 0 _ rfl, h1 1 _ rfl⟩
end
theorem rdOneLE (w : World) (x : LE) (t : TypeId) : RdG (w.alloc (.cells #[.string x.s, .string x.b] t)) (w.alloc (.cells #[.string x.s, .string x.b] t)).heap.size (some ⟨w.heap.size, 0, none⟩) [x] :=
 rdOneG w x _ t rfl

/-- it fits Go's kinds -/
def FitLE (x : LE) : Prop := x.s.size ≤ maxLen ∧ x.b.size ≤ maxLen
def FitLEs (l : List LE) : Prop := ∀ r ∈ l, FitLE r

/-- values and letters of a list -/
def totalLE (l : List LE) : Nat := (l.map fun r => (r.s.size + r.b.size) + 1).sum
theorem totalLE_take_succ (l : List LE) (k : Nat) (h : k < l.length) : totalLE (l.take (k + 1)) = totalLE (l.take k) + ((l[k].s.size + l[k].b.size) + 1) := by
 unfold totalLE; rw [List.take_succ_eq_append_getElem h, List.map_append, List.sum_append]; simp
theorem totalLE_take_le (l : List LE) (k : Nat) : totalLE (l.take k) ≤ totalLE l := by
 conv => rhs; rw [← List.take_append_drop k l]
 unfold totalLE; rw [List.map_append, List.sum_append]; omega
theorem totalLE_take_ge (l : List LE) (k : Nat) : totalLE (l.take k) + (l.length - k) ≤ totalLE l := by
 have h2 : (l.drop k).length ≤ totalLE (l.drop k) := by
  generalize l.drop k = m
  induction m with
  | nil => simp
  | cons a m ih => unfold totalLE at ih ⊢; simp only [List.map_cons, List.sum_cons, List.length_cons]; omega
 have h3 : totalLE l = totalLE (l.take k) + totalLE (l.drop k) := by
  conv => lhs; rw [← List.take_append_drop k l]
  unfold totalLE; rw [List.map_append, List.sum_append]
 rw [List.length_drop] at h2
 omega
theorem totalLE_len (l : List LE) : l.length ≤ totalLE l := by have := totalLE_take_ge l 0; simp [totalLE] at this ⊢; omega

open Classical in
noncomputable def eqLE (a b : LE) : Bool := decide (a = b)
theorem eqLE_yes {a b : LE} (h : a = b) : eqLE a b = true := by unfold eqLE; simp [h]
theorem eqLE_no {a b : LE} (h : a ≠ b) : eqLE a b = false := by unfold eqLE; simp [h]
theorem eqLE_iff {a b : LE} : eqLE a b = true ↔ a = b := by unfold eqLE; simp
open Classical in
noncomputable def eqLEs (a b : List LE) : Bool := decide (a = b)
theorem eqLEs_yes {a b : List LE} (h : a = b) : eqLEs a b = true := by unfold eqLEs; simp [h]
theorem eqLEs_no {a b : List LE} (h : a ≠ b) : eqLEs a b = false := by unfold eqLEs; simp [h]
theorem eqLEs_iff {a b : List LE} : eqLEs a b = true ↔ a = b := by unfold eqLEs; simp

set_option maxHeartbeats 1000000 in
theorem eqLetter_c (x y : LE) (w : World) :
  Calls Tryd.prog 28 #[.agg #[.string x.s, .string x.b], .agg #[.string y.s, .string y.b]] w fun e w' => e = .returned (.bool (eqLE x y)) ∧ Below w.heap.size w w' := by
 by_cases h0 : x.s = y.s
 ·
  have b0 : (x.s.toList == y.s.toList) = true := by rw [h0]; simp
  have H0 := Lib.hid h0
  clear h0
  by_cases h1 : x.b = y.b
  ·
   have b1 : (x.b.toList == y.b.toList) = true := by rw [h1]; simp
   have H1 := Lib.hid h1
   clear h1
   have HE := Lib.hid (eqLE_yes (show x = y from by
    revert H0 H1
    clear b0 b1
    cases x; cases y
    intro H0 H1
    have e0 := H0.out
    have e1 := H1.out
    simp only at e0 e1
    subst e0 e1
    rfl))
   go_enter Tryd.func28, Tryd.ntmps28
   go_wp2
   go_ret
   exact ⟨ret_bool HE.out.symm, (by (repeat (first | exact Below.refl _ _ | (refine Below.setCell ?_ (by simp <;> omega) _) | (refine Below.alloc ?_ (by simp <;> omega) _) | (refine Below.drew ?_))))⟩
  ·
   have b1 := str_ne h1
   have HE := Lib.hid (eqLE_no (show x ≠ y from fun e => h1 (by rw [e])))
   go_enter Tryd.func28, Tryd.ntmps28
   go_wp2
   go_ret
   exact ⟨ret_bool HE.out.symm, (by (repeat (first | exact Below.refl _ _ | (refine Below.setCell ?_ (by simp <;> omega) _) | (refine Below.alloc ?_ (by simp <;> omega) _) | (refine Below.drew ?_))))⟩
 ·
  have b0 := str_ne h0
  have HE := Lib.hid (eqLE_no (show x ≠ y from fun e => h0 (by rw [e])))
  go_enter Tryd.func28, Tryd.ntmps28
  go_wp2
  go_ret
  exact ⟨ret_bool HE.out.symm, (by (repeat (first | exact Below.refl _ _ | (refine Below.setCell ?_ (by simp <;> omega) _) | (refine Below.alloc ?_ (by simp <;> omega) _) | (refine Below.drew ?_))))⟩

set_option maxRecDepth 100000 in
set_option maxHeartbeats 1000000 in
theorem eqLetterS_c (A A' : Option Addr) (c c' : Nat) (l l' : List LE) (w : World) (hc : l.length ≤ 2097152) (hc' : l'.length ≤ 2097152) (hr : RdG w w.heap.size A l) (hr' : RdG w w.heap.size A' l') :
  Calls Tryd.prog 29 #[.slice A l.length c, .slice A' l'.length c'] w fun e w' => e = .returned (.bool (eqLEs l l')) ∧ Below w.heap.size w w' := by
 by_cases hlen : l.length = l'.length
 ·
  have hne : ((l.length : Int) != (l'.length : Int)) = false := by simp [hlen]
  have HL := Lib.hid hlen
  have hle1 : l.length ≤ l'.length := by omega
  have hle2 : l'.length ≤ l.length := by omega
  clear hlen
  go_enter Tryd.func29, Tryd.ntmps29
  go_wp2
  go_loopw [5] (fun i W => ∃ k : Nat, k ≤ l.length ∧ i = .int .i64 k ∧ Below w.heap.size w W ∧ l.take k = l'.take k) (fun i _ => l.length - (intOf i).toNat)
  case atStart => exact ⟨0, Nat.zero_le _, rfl, Below.refl _ _, rfl⟩
  case round =>
   obtain ⟨k, hk, rfl, hb, ht⟩ := hrel
   have HT := Lib.hid ht
   clear ht
   by_cases hkl : k < l.length
   ·
    have hkl' : k < l'.length := by omega
    obtain ⟨b, o, rfl, hbB, hc0, hc1⟩ := (hr.below hb).atLE hkl
    obtain ⟨b', o', rfl, hbB', hd0, hd1⟩ := (hr'.below hb).atLE hkl'
    have hq : b < wr.heap.size := Nat.lt_of_lt_of_le hbB hb.size
    have hq' : b' < wr.heap.size := Nat.lt_of_lt_of_le hbB' hb.size
    cases he : eqLE l[k] l'[k]
    ·
     have HN := Lib.hid (eqLEs_no fun h : l = l' => by
      have e : eqLE l[k] l'[k] = true := eqLE_yes (by subst h; rfl)
      rw [he] at e; cases e)
     go_wp2
     go_region_held3 (fun W => W.cell? ⟨b, o + k * 2, none⟩ = some (.string l[k].s) ∧ W.cell? ⟨b, o + k * 2 + 1, none⟩ = some (.string l[k].b) ∧ W.cell? ⟨b', o' + k * 2, none⟩ = some (.string l'[k].s) ∧ W.cell? ⟨b', o' + k * 2 + 1, none⟩ = some (.string l'[k].b)) (first | exact ⟨hc0, hc1, hd0, hd1⟩ | exact ⟨(hb2.cell hq).trans hc0, (hb2.cell hq).trans hc1, (hb2.cell hq').trans hd0, (hb2.cell hq').trans hd1⟩)
      (first | (go_at_call 28; refine (eqLetter_c l[k] l'[k] _).mono ?_; rintro e w' ⟨rfl, hb2⟩))
     go_wp2
     go_ret
     exact ⟨ret_bool HN.out.symm, hb.trans ((Below.drew (Below.refl _ _)).trans (hb2.mono hb.size))⟩
    ·
     have HE := Lib.hid (eqLE_iff.1 he)
     go_wp2
     go_region_held3 (fun W => W.cell? ⟨b, o + k * 2, none⟩ = some (.string l[k].s) ∧ W.cell? ⟨b, o + k * 2 + 1, none⟩ = some (.string l[k].b) ∧ W.cell? ⟨b', o' + k * 2, none⟩ = some (.string l'[k].s) ∧ W.cell? ⟨b', o' + k * 2 + 1, none⟩ = some (.string l'[k].b)) (first | exact ⟨hc0, hc1, hd0, hd1⟩ | exact ⟨(hb2.cell hq).trans hc0, (hb2.cell hq).trans hc1, (hb2.cell hq').trans hd0, (hb2.cell hq').trans hd1⟩)
      (first | (go_at_call 28; refine (eqLetter_c l[k] l'[k] _).mono ?_; rintro e w' ⟨rfl, hb2⟩))
     go_wp2
     go_roundw
     case rel => exact ⟨k + 1, by omega, by go_num, hb.trans ((Below.drew (Below.refl _ _)).trans (hb2.mono hb.size)), by rw [List.take_succ_eq_append_getElem hkl, List.take_succ_eq_append_getElem hkl', HT.out, HE.out]⟩
     case measure => simp [intOf]; omega
   ·
    have HN := Lib.hid (show k = l.length from by omega)
    go_wp2
    go_ret
    refine ⟨ret_bool (eqLEs_yes ?_).symm, hb⟩
    have e := HT.out
    rw [HN.out, List.take_length, HL.out, List.take_length] at e
    exact e
 ·
  have hne : ((l.length : Int) != (l'.length : Int)) = true := by simp; omega
  have HL := Lib.hid hlen
  clear hlen
  go_enter Tryd.func29, Tryd.ntmps29
  go_wp2
  go_ret
  exact ⟨ret_bool (eqLEs_no fun h => HL.out (congrArg List.length h)).symm, Below.refl _ _⟩

theorem eqLetterOwn_c (v v' : Value) (l l' : List LE) (base base' : Nat) (w : World) (h : OwnG w base v l) (h' : OwnG w base' v' l') (hl : l.length ≤ 2097152) (hl' : l'.length ≤ 2097152) :
  Calls Tryd.prog 29 #[v, v'] w fun e w' => e = .returned (.bool (eqLEs l l')) ∧ Below w.heap.size w w' := by
 obtain ⟨A, c, rfl, _, _, hr⟩ := h.read
 obtain ⟨A', c', rfl, _, _, hr'⟩ := h'.read
 exact eqLetterS_c A A' c c' l l' w hl hl' hr hr'

def markLE (k : Nat) : LE := ⟨mt k, mt (k + 1)⟩


set_option maxRecDepth 100000 in
set_option maxHeartbeats 2000000 in
theorem markLetterS_some (g n cap k : Nat) (cur : Array Value) (w : World) (hblk : Blk w g 24 cur) (hn : n ≤ cap) (hs : cur.size = cap * 2) (h0 : 0 < k) (hk : k + 2 * n ≤ 8388608) :
  Calls Tryd.prog 30 #[.slice (some ⟨g, 0, none⟩) n cap, .int .i64 k] w fun e w' => e = .returned (.int .i64 (k + 2 * n : Nat)) ∧
   ∃ cur', Blk w' g 24 cur' ∧ cur'.size = cap * 2 ∧ FillG (marksG markLE n k) cur' n ∧ w.grownBy w' (some g) := by
 go_enter Tryd.func30, Tryd.ntmps30
 go_wp2
 go_loopw [1, 5] (fun kk i W => ∃ j : Nat, j ≤ n ∧ i = .int .i64 j ∧ kk = .int .i64 (k + 2 * j : Nat) ∧ ∃ cs : Array Value, Blk W g 24 cs ∧ cs.size = cap * 2 ∧ FillG (marksG markLE n k) cs j ∧ w.grownBy W (some g)) (fun _ i _ => n - (intOf i).toNat)
 case atStart => exact ⟨0, Nat.zero_le _, rfl, rfl, cur, hblk, hs, FillG.zero _ _, World.grownBy.refl _ _⟩
 case round =>
  obtain ⟨j, hj, rfl, rfl, cs, hb, hsz, hcs, hg⟩ := hrel
  have HCS := Lib.hid hcs
  have HSZ := Lib.hid hsz
  clear hcs hsz
  by_cases hjn : j < n
  ·
   have HG := Lib.hid (marksG_get markLE n k j hjn)
   have hs0 : j * 2 < cs.size := by rw [HSZ.out]; omega
   have hs1 : j * 2 + 1 < cs.size := by rw [HSZ.out]; omega
   have hkj : 0 < k + 2 * j := by omega
   have hkj2 : k + 2 * j + 2 ≤ 8388608 := by omega
   obtain ⟨K, HK⟩ : ∃ K, Hid (k + 2 * j = K) := ⟨_, Lib.hid rfl⟩
   rw [HK.out] at hkj hkj2 ⊢
   have hK1 : 0 < K + 1 := by omega
   have ec : ((K + 1 : Nat) : Int) = (K : Int) + 1 := by omega
   have hmt := fun W => markText_c (K + 1) W hK1 (by omega)
   simp only [ec] at hmt
   clear ec
   go_wp2_with fail
   refine (markText_c K _ hkj (by omega)).mono ?_
   rintro e w' ⟨rfl, hb2⟩
   have hblk2 := Lib.hid (hb.next hb2)
   have g0 : w'.cell? ⟨g, j * 2, none⟩ = some cs[j * 2] := by { rw [hblk2.out.cell]; exact Array.getElem?_eq_getElem hs0 }
   have z0 := hblk2.out.free (j * 2)
   have hgl := hblk2.out.lt
   go_wp2_with fail
   refine (hmt _).mono ?_
   rintro e w'' ⟨rfl, hb3⟩
   have hblk3 := Lib.hid ((hblk2.out.set_ (j * 2) (.string (mt K))).next hb3)
   have hs1' : j * 2 + 1 < (cs.setIfInBounds (j * 2) (.string (mt K))).size := by rw [Array.size_setIfInBounds]; exact hs1
   have g1 : w''.cell? ⟨g, j * 2 + 1, none⟩ = some (cs.setIfInBounds (j * 2) (.string (mt K)))[j * 2 + 1] := by { rw [hblk3.out.cell]; exact Array.getElem?_eq_getElem hs1' }
   have z1 := hblk3.out.free (j * 2 + 1)
   go_wp2
   go_roundw
   case rel => exact ⟨j + 1, by omega, by go_num, by rw [← HK.out]; go_num, putC cs (j * 2) (csLE (markLE K)), (hblk3.out.set_ _ _), (putC_size _ _ _).trans HSZ.out, by
    have e := HG.out
    rw [show k + Elt.wd LE * j = K from HK.out] at e
    exact HCS.out.step (by rw [marksG_length]; exact hjn) (by rw [marksG_length, HSZ.out]; exact Nat.mul_le_mul_right _ (Nat.le_trans (Nat.le_refl _) hn)) _ e, (grown_set (grown_call (grown_set (grown_call hg hb2) _) hb3) _)⟩
   case measure => simp [intOf]; omega
  ·
   have hjj : j = n := by omega
   subst hjj
   go_wp2
   go_ret
   exact ⟨ret_int (by omega), cs, hb, HSZ.out, HCS.out, hg⟩

set_option maxRecDepth 100000 in
set_option maxHeartbeats 1000000 in
theorem markLetterS_nil (k : Nat) (w : World) :
  Calls Tryd.prog 30 #[.slice none 0 0, .int .i64 k] w fun e w' => e = .returned (.int .i64 k) ∧ w = w' := by
 go_enter Tryd.func30, Tryd.ntmps30
 go_wp2
 go_loop [1, 5] (fun kk i => kk = .int .i64 k ∧ i = .int .i64 0) (fun _ _ => 0)
 case atStart => exact ⟨rfl, rfl⟩
 case round =>
  obtain ⟨rfl, rfl⟩ := hrel
  go_wp2
  go_ret
  exact ⟨rfl, rfl⟩

theorem markLE_c (v : Value) (l : List LE) (base k : Nat) (w : World) (h : OwnG w base v l) (h0 : 0 < k) (hk : k + 2 * l.length ≤ 8388608) :
  Calls Tryd.prog 30 #[v, .int .i64 k] w fun e w' => e = .returned (.int .i64 (k + 2 * l.length : Nat)) ∧ OwnG w' base v (marksG markLE l.length k) ∧ w.grownBy w' v.ownBlock := by
 rcases h.cases with ⟨rfl, rfl⟩ | ⟨g, cap, cur, rfl, hb, hblk, hl, hm, hs, ht⟩
 ·
  refine (markLetterS_nil k w).mono ?_
  rintro e w' ⟨rfl, rfl⟩
  exact ⟨rfl, OwnG.nil _ _, World.grownBy.refl _ _⟩
 ·
  refine (markLetterS_some g l.length cap k cur w hblk hl hs h0 hk).mono ?_
  rintro e w' ⟨rfl, cur', h1, h2, h3, h4⟩
  exact ⟨rfl, OwnG.of_fill _ (marksG_length _ _ _) hb h1 hl hm h2 h3, h4⟩

set_option maxRecDepth 100000 in
set_option maxHeartbeats 2000000 in
theorem heldLetterS_c (A : Option Addr) (c n k : Nat) (w : World) (h0 : 0 < k) (hk : k + 2 * n ≤ 8388608) (hr : RdG w w.heap.size A (marksG markLE n k)) :
  Calls Tryd.prog 31 #[.slice A n c, .int .i64 k] w fun e w' => e = .returned (.int .i64 (k + 2 * n : Nat)) ∧ Below w.heap.size w w' := by
 go_enter Tryd.func31, Tryd.ntmps31
 go_wp2
 go_loopw [1, 5] (fun kk i W => ∃ j : Nat, j ≤ n ∧ i = .int .i64 j ∧ kk = .int .i64 (k + 2 * j : Nat) ∧ Below w.heap.size w W) (fun _ i _ => n - (intOf i).toNat)
 case atStart => exact ⟨0, Nat.zero_le _, rfl, rfl, Below.refl _ _⟩
 case round =>
  obtain ⟨j, hj, rfl, rfl, hb⟩ := hrel
  by_cases hjn : j < n
  ·
   obtain ⟨b, o, hA, hbB, hcs⟩ := (hr.below hb) j _ (marksG_get markLE n k j hjn)
   subst hA
   have hkj : 0 < k + 2 * j := by omega
   have hkj2 : k + 2 * j + 2 ≤ 8388608 := by omega
   have hq : b < wr.heap.size := Nat.lt_of_lt_of_le hbB hb.size
   have e0 := hcs 0 _ rfl
   have e1 := hcs 1 _ rfl
   obtain ⟨K, HK⟩ : ∃ K, Hid (k + 2 * j = K) := ⟨_, Lib.hid rfl⟩
   change wr.cell? ⟨b, o + j * 2, none⟩ = some (.string (mt (k + 2 * j))) at e0
   change wr.cell? ⟨b, o + j * 2 + 1, none⟩ = some (.string (mt (k + 2 * j + 1))) at e1
   rw [HK.out] at hkj hkj2 e0 e1 ⊢
   have hK1 : 0 < K + 1 := by omega
   have ec : ((K + 1 : Nat) : Int) = (K : Int) + 1 := by omega
   have hmt := fun W => markText_c (K + 1) W hK1 (by omega)
   simp only [ec] at hmt
   clear ec
   have hc0 := e0
   have hc1 := e1
   have hbT : Below wr.heap.size wr wr.drew := (Below.refl _ _).drew
   go_wp2
   go_region_held3 (fun W => W.cell? ⟨b, o + j * 2, none⟩ = some (.string (mt K))) (first | exact hc0 | exact (hbT.cell hq).trans hc0)
    (first | (go_at_call 47; refine (markText_c K _ hkj (by omega)).mono ?_; rintro e w' ⟨rfl, hb2⟩; have hbT := hbT.trans (hb2.mono hbT.size); clear hb2))
   obtain ⟨W2, HW2⟩ : ∃ W2, Hid (w' = W2) := ⟨_, Lib.hid rfl⟩
   rw [HW2.out] at hbT ⊢
   have hbU : Below W2.heap.size W2 W2.drew := (Below.refl _ _).drew
   have hq2 : b < W2.heap.size := Nat.lt_of_lt_of_le hq hbT.size
   have hd1 : W2.cell? ⟨b, o + j * 2 + 1, none⟩ = some (.string (mt (K + 1))) := (hbT.cell (p := ⟨b, o + j * 2 + 1, none⟩) hq).trans hc1
   go_wp2
   go_region_held3 (fun W => W.cell? ⟨b, o + j * 2 + 1, none⟩ = some (.string (mt (K + 1)))) (first | exact hd1 | exact (hbU.cell hq2).trans hd1)
    (first | (go_at_call 47; refine (hmt _).mono ?_; rintro e w'' ⟨rfl, hb3⟩; have hbU := hbU.trans (hb3.mono hbU.size); clear hb3))
   go_wp2
   go_roundw
   case rel => exact ⟨j + 1, by omega, by go_num, by rw [← HK.out]; go_num, hb.trans ((below_next hbT hbU).mono hb.size)⟩
   case measure => simp [intOf]; omega
  ·
   have hjj : j = n := by omega
   subst hjj
   go_wp2
   go_ret
   exact ⟨rfl, hb⟩

theorem heldLE_c (v : Value) (n base k : Nat) (w : World) (h : OwnG w base v (marksG markLE n k)) (h0 : 0 < k) (hk : k + 2 * n ≤ 8388608) :
  Calls Tryd.prog 31 #[v, .int .i64 k] w fun e w' => e = .returned (.int .i64 (k + 2 * n : Nat)) ∧ Below w.heap.size w w' := by
 obtain ⟨A, c, rfl, _, _, hr⟩ := h.read
 rw [marksG_length]
 exact heldLetterS_c A c n k w h0 hk hr

end Go.Proofs.YtilcncnhkidndaaDoor

namespace Go.Proofs.YtilcncnhkidndaaDoor
open Go.ChangeShapes Go.WideShapes Go.ChangeAt Go.RowKit Go.Deep
set_option linter.unusedVariables false
set_option maxRecDepth 100000

theorem oneLetters : Tryd.prog.cellsOf 9 = 1 := by kernel_rfl
theorem oneLetteri : Tryd.prog.cellsOf 3 = 1 := by kernel_rfl
theorem oneLetterb : Tryd.prog.cellsOf 4 = 1 := by kernel_rfl

end Go.Proofs.YtilcncnhkidndaaDoor
