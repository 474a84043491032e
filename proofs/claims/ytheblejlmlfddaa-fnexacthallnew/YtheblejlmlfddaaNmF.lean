/- What may be asked by a name: slices of it; the laws' own copies, sizes, comparisons of it; it as an argument. -/
import Derived.Test.YtheblejlmlfddaaArAsk
import Derived.Deep.RegionHeld3
namespace Go.Proofs.Ytheblejlmlfddaa
open Go.RowKit
set_option linter.unusedVariables false
set_option maxRecDepth 100000

structure N5 where
 nm : ByteArray
 kind : Int
 key : ByteArray
 hi : ByteArray
 num : Int

def csN5 (x : N5) : List Value := [.string x.nm, .int .i64 x.kind, .string x.key, .string x.hi, .int .i64 x.num]
def agN5 (x : N5) : Value := .agg #[.string x.nm, .int .i64 x.kind, .string x.key, .string x.hi, .int .i64 x.num]
instance elN5 : Elt N5 where
 T := 99
 wd := 5
 byt := 64
 zero := .agg #[.string ByteArray.empty, .int .i64 0, .string ByteArray.empty, .string ByteArray.empty, .int .i64 0]
 cs := csN5
 len := fun _ => rfl
 pos := by omega
 one := by
  intro a u hu
  simp only [csN5, List.mem_cons, List.not_mem_nil, or_false] at hu
  rcases hu with rfl | rfl | rfl | rfl | rfl <;> rfl
 info := by kernel_rfl
 zsize := rfl
 small := by omega

section
variable {w w' : World} {B : Nat} {A : Option Addr} {l : List N5}
theorem RdG.atN5 (h : RdG w B A l) {i : Nat} (hi : i < l.length) : ∃ b o, A = some ⟨b, o, none⟩ ∧ b < B ∧ w.cell? ⟨b, o + i * 5, none⟩ = some (.string l[i].nm) ∧ w.cell? ⟨b, o + i * 5 + 1, none⟩ = some (.int .i64 l[i].kind) ∧ w.cell? ⟨b, o + i * 5 + 2, none⟩ = some (.string l[i].key) ∧ w.cell? ⟨b, o + i * 5 + 3, none⟩ = some (.string l[i].hi) ∧ w.cell? ⟨b, o + i * 5 + 4, none⟩ = some (.int .i64 l[i].num) := by
 obtain ⟨b, o, e, hb, h1⟩ := h.at_ hi
 exact ⟨b, o, e, hb, h1 0 _ rfl, h1 1 _ rfl, h1 2 _ rfl, h1 3 _ rfl, h1 4 _ rfl⟩
theorem RdG.fixN5 (h : RdG w B A l) {b o : Nat} (e : A = some ⟨b, o, none⟩) {i : Nat} (hi : i < l.length) : w.cell? ⟨b, o + i * 5, none⟩ = some (.string l[i].nm) ∧ w.cell? ⟨b, o + i * 5 + 1, none⟩ = some (.int .i64 l[i].kind) ∧ w.cell? ⟨b, o + i * 5 + 2, none⟩ = some (.string l[i].key) ∧ w.cell? ⟨b, o + i * 5 + 3, none⟩ = some (.string l[i].hi) ∧ w.cell? ⟨b, o + i * 5 + 4, none⟩ = some (.int .i64 l[i].num) := by
 obtain ⟨hb, h1⟩ := h.fix e hi
 exact ⟨h1 0 _ rfl, h1 1 _ rfl, h1 2 _ rfl, h1 3 _ rfl, h1 4 _ rfl⟩
end
theorem rdOneN5 (w : World) (x : N5) (t : TypeId) : RdG (w.alloc (.cells #[.string x.nm, .int .i64 x.kind, .string x.key, .string x.hi, .int .i64 x.num] t)) (w.alloc (.cells #[.string x.nm, .int .i64 x.kind, .string x.key, .string x.hi, .int .i64 x.num] t)).heap.size (some ⟨w.heap.size, 0, none⟩) [x] :=
 rdOneG w x _ t rfl

/-- it fits Go's kinds -/
def FitN5 (x : N5) : Prop := x.nm.size ≤ maxLen ∧ x.key.size ≤ maxLen ∧ x.hi.size ≤ maxLen ∧ -9223372036854775808 ≤ x.kind ∧ x.kind ≤ 9223372036854775807 ∧ -9223372036854775808 ≤ x.num ∧ x.num ≤ 9223372036854775807
def FitN5s (l : List N5) : Prop := ∀ r ∈ l, FitN5 r

theorem c5N {W : World} {g : Nat} {t : TypeId} {a b c d e : Value} (B : Blk W g t #[a, b, c, d, e]) : C4 W g a b c d ∧ W.cell? ⟨g, 4, none⟩ = some e := ⟨⟨B.cell 0, B.cell 1, B.cell 2, B.cell 3⟩, B.cell 4⟩
theorem s5a {W : World} {g : Nat} {t : TypeId} {a b c d e : Value} (B : Blk W g t #[a, b, c, d, e]) (x : Value) : ∃ V, W.setCell ⟨g, 0, none⟩ x = V ∧ V.heap.size = W.heap.size ∧ Blk V g t #[x, b, c, d, e] ∧ Chg (fun k => k = g) W V :=
 ⟨_, rfl, by simp [World.setCell], B.set_ 0 x, (Chg.refl _ _).st _ x⟩
theorem s5b {W : World} {g : Nat} {t : TypeId} {a b c d e : Value} (B : Blk W g t #[a, b, c, d, e]) (x y z u : Value) : ∃ V, (((W.setCell ⟨g, 1, none⟩ x).setCell ⟨g, 2, none⟩ y).setCell ⟨g, 3, none⟩ z).setCell ⟨g, 4, none⟩ u = V ∧ V.heap.size = W.heap.size ∧ Blk V g t #[a, x, y, z, u] ∧ Chg (fun k => k = g) W V :=
 ⟨_, rfl, by simp [World.setCell], (((B.set_ 1 x).set_ 2 y).set_ 3 z).set_ 4 u, ((((Chg.refl _ _).st _ x).st _ y).st _ z).st _ u⟩
theorem s5 {W : World} {g : Nat} {t : TypeId} {a b c d e : Value} (B : Blk W g t #[a, b, c, d, e]) (x y z u v : Value) : ∃ V, ((((W.setCell ⟨g, 0, none⟩ x).setCell ⟨g, 1, none⟩ y).setCell ⟨g, 2, none⟩ z).setCell ⟨g, 3, none⟩ u).setCell ⟨g, 4, none⟩ v = V ∧ V.heap.size = W.heap.size ∧ Blk V g t #[x, y, z, u, v] ∧ Chg (fun k => k = g) W V :=
 ⟨_, rfl, by simp [World.setCell], ((((B.set_ 0 x).set_ 1 y).set_ 2 z).set_ 3 u).set_ 4 v, (((((Chg.refl _ _).st _ x).st _ y).st _ z).st _ u).st _ v⟩
theorem belowChgd {w W V : World} {g : Nat} (hb : Below w.heap.size w W) (h : Chg (fun k => k = g) W V) (hg : w.heap.size ≤ g) : Below w.heap.size w V :=
 ⟨h.os.trans hb.os, h.tape.trans hb.tape, h.output.trans hb.output, Nat.le_trans hb.size h.size, fun i hi => (h.block i (Nat.lt_of_lt_of_le hi hb.size) (fun e => absurd (e ▸ hg : w.heap.size ≤ i) (Nat.not_le.2 hi))).trans (hb.block i hi)⟩
set_option maxHeartbeats 2000000 in
theorem toNamed_c (x : N5) (w : World) :
  Calls Try.prog 78 #[.agg #[.string x.nm, .int .i64 x.kind, .string x.key, .string x.hi, .int .i64 x.num]] w fun e w' => e = .returned (.agg #[.string x.nm, .int .i64 x.kind, .string x.key, .string x.hi, .int .i64 x.num]) ∧ Below w.heap.size w w' := by
 obtain ⟨W1, e1, hs1, P1, hb1⟩ := al1 w rfl #[.string x.nm, .int .i64 x.kind, .string x.key, .string x.hi, .int .i64 x.num] 125
 obtain ⟨W2, e2, hs2, R2, hb2⟩ := al1 W1 hs1 #[.string ⟨#[]⟩, .int .i64 0, .string ⟨#[]⟩, .string ⟨#[]⟩, .int .i64 0] 99
 obtain ⟨W3, e3, hs3, O3, hb3⟩ := al1 W2 hs2 #[.string ⟨#[]⟩, .int .i64 0, .string ⟨#[]⟩, .string ⟨#[]⟩, .int .i64 0] 99
 have hbw := below_next (below_next hb1 hb2) hb3
 have P3 := (P1.next hb2).next hb3
 have R3 := R2.next hb3
 have q3 := c5N P3
 have p3 := c5N O3
 have f3 := O3.fz
 obtain ⟨V1, eV1, hV1, O4, hc1⟩ := s5a O3 (.string x.nm)
 have P4 := P3.chg1 hc1
 have R4 := R3.chg1 hc1
 have hbw1 := belowChgd hbw hc1 (by omega)
 have q4 := c5N P4
 go_enter Try.func78, Try.ntmps78
 go_wp2_with fail
 refine (toAsk_c ⟨x.kind, x.key, x.hi, x.num⟩ _).mono ?_
 rintro e U ⟨rfl, hbu⟩
 have hbw2 := below_next hbw1 hbu
 have hsu := hbu.size
 have R5 := R4.next hbu
 have O5 := O4.next hbu
 clear P1 P3 P4 R2 R3 R4 O3 O4 q3 p3 f3 q4 hb1 hb2 hb3 hbw hbw1
 have p5 := c5N O5
 have f5 := O5.fz
 obtain ⟨V2, eV2, hV2, O6, hc2⟩ := s5b O5 (.int .i64 x.kind) (.string x.key) (.string x.hi) (.int .i64 x.num)
 have R6 := R5.chg1 hc2
 have p6 := c5N O6
 have r6 := c5N R6
 have g6 := R6.fz
 obtain ⟨V3, eV3, hV3, R7, hc3⟩ := s5 R6 (.string x.nm) (.int .i64 x.kind) (.string x.key) (.string x.hi) (.int .i64 x.num)
 have r7 := c5N R7
 have hbf := belowChgd (belowChgd hbw2 hc2 (by omega)) hc3 (by omega)
 clear R5 R6 R7 O5 O6 hc2 hc3 hbw2 hbu
 go_wp2
 exact bodyPost_ret (v := .agg #[.string x.nm, .int .i64 x.kind, .string x.key, .string x.hi, .int .i64 x.num]) (by simp [results, Try.results78, go_sem, r7]) rfl ⟨rfl, hbf⟩

set_option maxRecDepth 100000 in
set_option maxHeartbeats 1000000 in
theorem toNamedS_c (A : Option Addr) (c : Nat) (l : List N5) (w : World) (hc : l.length ≤ c) (hcm : l.length ≤ 1048576) (hr : RdG w w.heap.size A l) :
  Calls Try.prog 71 #[.slice A l.length c] w fun e w' => ∃ g, e = .returned (.slice (some ⟨g, 0, none⟩) l.length l.length) ∧ w.heap.size ≤ g ∧ Blk w' g 99 (cellsG l).toArray ∧ Below w.heap.size w w' := by
 have hmk := mkG (α := N5) 55 Try.underlying55 l.length l.length (Nat.le_refl _) (by omega)
 go_enter Try.func71, Try.ntmps71
 go_wp2
 clear hmk
 go_loopw [4] (fun i W => ∃ k : Nat, k ≤ l.length ∧ i = .int .i64 k ∧ ∃ c : Array Value, Blk W w.heap.size 99 c ∧ c.size = l.length * 5 ∧ FillG l c k ∧ Below w.heap.size w W) (fun i _ => l.length - (intOf i).toNat)
 case atStart => exact ⟨0, Nat.zero_le _, rfl, _, heap_alloc_new _ _, freshG_size (α := N5) _, FillG.zero _ _, (Below.refl _ _).alloc (Nat.le_refl _) _⟩
 case round =>
  obtain ⟨k, hk, rfl, cs, hblk, hsz, hcs, hb⟩ := hrel
  by_cases hkl : k < l.length
  ·
   obtain ⟨b, o, rfl, hbB, hc0, hc1, hc2, hc3, hc4⟩ := (hr.below hb).atN5 hkl
   have HCS := Lib.hid hcs
   have HSZ := Lib.hid hsz
   clear hcs hsz
   have hs0 : k * 5 < cs.size := by rw [HSZ.out]; omega
   have hs1 : k * 5 + 1 < cs.size := by rw [HSZ.out]; omega
   have hs2 : k * 5 + 2 < cs.size := by rw [HSZ.out]; omega
   have hs3 : k * 5 + 3 < cs.size := by rw [HSZ.out]; omega
   have hs4 : k * 5 + 4 < cs.size := by rw [HSZ.out]; omega
   go_wp2_with ((go_at_call 78; refine (toNamed_c l[k] _).mono ?_; rintro e w' ⟨rfl, hb2⟩; have hblk2 := Lib.hid (hblk.next hb2); have g0 : w'.cell? ⟨w.heap.size, k * 5, none⟩ = some cs[k * 5] := by { rw [hblk2.out.cell]; exact Array.getElem?_eq_getElem hs0 }; have z0 := hblk2.out.free (k * 5); have g1 : w'.cell? ⟨w.heap.size, k * 5 + 1, none⟩ = some cs[k * 5 + 1] := by { rw [hblk2.out.cell]; exact Array.getElem?_eq_getElem hs1 }; have z1 := hblk2.out.free (k * 5 + 1); have g2 : w'.cell? ⟨w.heap.size, k * 5 + 2, none⟩ = some cs[k * 5 + 2] := by { rw [hblk2.out.cell]; exact Array.getElem?_eq_getElem hs2 }; have z2 := hblk2.out.free (k * 5 + 2); have g3 : w'.cell? ⟨w.heap.size, k * 5 + 3, none⟩ = some cs[k * 5 + 3] := by { rw [hblk2.out.cell]; exact Array.getElem?_eq_getElem hs3 }; have z3 := hblk2.out.free (k * 5 + 3); have g4 : w'.cell? ⟨w.heap.size, k * 5 + 4, none⟩ = some cs[k * 5 + 4] := by { rw [hblk2.out.cell]; exact Array.getElem?_eq_getElem hs4 }; have z4 := hblk2.out.free (k * 5 + 4)))
   go_roundw
   case rel => exact ⟨k + 1, by omega, by go_num, putC cs (k * 5) (csN5 l[k]), (((((hblk2.out.set_ _ _).set_ _ _).set_ _ _).set_ _ _).set_ _ _), (putC_size _ _ _).trans HSZ.out, HCS.out.step hkl (Nat.le_of_eq HSZ.out.symm) _ (List.getElem?_eq_getElem hkl), ((((((hb.trans (hb2.mono hb.size)).setCell (Nat.le_refl _) _).setCell (Nat.le_refl _) _).setCell (Nat.le_refl _) _).setCell (Nat.le_refl _) _).setCell (Nat.le_refl _) _)⟩
   case measure => simp [intOf]; omega
  ·
   have hkk : k = l.length := by omega
   have HK := Lib.hid hkk
   have HCS := Lib.hid hcs
   have HSZ := Lib.hid hsz
   clear hkk hcs hsz
   go_wp2
   go_ret
   refine ⟨_, rfl, Nat.le_refl _, ?_, hb⟩
   have hf := HCS.out
   rw [HK.out] at hf
   rw [← hf.full HSZ.out]
   exact hblk

theorem toNamedOwn_c (A : Option Addr) (c : Nat) (l : List N5) (w : World) (hc : l.length ≤ c) (hcm : l.length ≤ 1048576) (hr : RdG w w.heap.size A l) :
  Calls Try.prog 71 #[.slice A l.length c] w fun e w' => ∃ g, e = .returned (.slice (some ⟨g, 0, none⟩) l.length l.length) ∧ OwnG w' w.heap.size (.slice (some ⟨g, 0, none⟩) l.length l.length) l ∧ w.heap.size ≤ g ∧ g < w'.heap.size ∧ Below w.heap.size w w' := by
 refine (toNamedS_c A c l w hc hcm hr).mono ?_
 rintro e w' ⟨g, rfl, h1, h2, h3⟩
 exact ⟨g, rfl, OwnG.of_blk h1 h2 (by unfold maxLen; omega), h1, h2.lt, h3⟩

/-- values and letters of a list -/
def totalN5 (l : List N5) : Nat := (l.map fun r => (r.nm.size + r.key.size + r.hi.size) + 1).sum
theorem totalN5_take_succ (l : List N5) (k : Nat) (h : k < l.length) : totalN5 (l.take (k + 1)) = totalN5 (l.take k) + ((l[k].nm.size + l[k].key.size + l[k].hi.size) + 1) := by
 unfold totalN5; rw [List.take_succ_eq_append_getElem h, List.map_append, List.sum_append]; simp
theorem totalN5_take_le (l : List N5) (k : Nat) : totalN5 (l.take k) ≤ totalN5 l := by
 conv => rhs; rw [← List.take_append_drop k l]
 unfold totalN5; rw [List.map_append, List.sum_append]; omega
theorem totalN5_take_ge (l : List N5) (k : Nat) : totalN5 (l.take k) + (l.length - k) ≤ totalN5 l := by
 have h2 : (l.drop k).length ≤ totalN5 (l.drop k) := by
  generalize l.drop k = m
  induction m with
  | nil => simp
  | cons a m ih => unfold totalN5 at ih ⊢; simp only [List.map_cons, List.sum_cons, List.length_cons]; omega
 have h3 : totalN5 l = totalN5 (l.take k) + totalN5 (l.drop k) := by
  conv => lhs; rw [← List.take_append_drop k l]
  unfold totalN5; rw [List.map_append, List.sum_append]
 rw [List.length_drop] at h2
 omega
theorem totalN5_len (l : List N5) : l.length ≤ totalN5 l := by have := totalN5_take_ge l 0; simp [totalN5] at this ⊢; omega

set_option maxHeartbeats 1000000 in
theorem szNamed_c (x : N5) (left : Int) (w : World) (hs : x.nm.size ≤ maxLen ∧ x.key.size ≤ maxLen ∧ x.hi.size ≤ maxLen) (h0 : 0 ≤ left) (h1 : left ≤ 1048576) :
  Calls Try.prog 76 #[.agg #[.string x.nm, .int .i64 x.kind, .string x.key, .string x.hi, .int .i64 x.num], .int .i64 left] w fun e w' => e = .returned (.int .i64 (szR left (x.nm.size + x.key.size + x.hi.size))) ∧ Below w.heap.size w w' := by
 unfold maxLen at hs
 by_cases g0 : left < ((x.nm.size) : Nat)
 ·
  have hd0 : decide (left - (x.nm.size : Int) < 0) = true := by simp; omega
  have HN := Lib.hid (szR_neg (left := left) (k := (x.nm.size + x.key.size + x.hi.size)) (by omega))
  go_enter Try.func76, Try.ntmps76
  go_wp2
  go_ret
  exact ⟨ret_int HN.out.symm, (by (repeat (first | exact Below.refl _ _ | (refine Below.setCell ?_ (by simp <;> omega) _) | (refine Below.alloc ?_ (by simp <;> omega) _) | (refine Below.drew ?_))))⟩
 ·
  have hd0 : decide (left - (x.nm.size : Int) < 0) = false := by simp; omega
  by_cases g1 : left < ((x.nm.size + x.key.size) : Nat)
  ·
   have hd1 : decide (left - (x.nm.size : Int) - (x.key.size : Int) < 0) = true := by simp; omega
   have HN := Lib.hid (szR_neg (left := left) (k := (x.nm.size + x.key.size + x.hi.size)) (by omega))
   go_enter Try.func76, Try.ntmps76
   go_wp2
   go_ret
   exact ⟨ret_int HN.out.symm, (by (repeat (first | exact Below.refl _ _ | (refine Below.setCell ?_ (by simp <;> omega) _) | (refine Below.alloc ?_ (by simp <;> omega) _) | (refine Below.drew ?_))))⟩
  ·
   have hd1 : decide (left - (x.nm.size : Int) - (x.key.size : Int) < 0) = false := by simp; omega
   by_cases g2 : left < ((x.nm.size + x.key.size + x.hi.size) : Nat)
   ·
    have hd2 : decide (left - (x.nm.size : Int) - (x.key.size : Int) - (x.hi.size : Int) < 0) = true := by simp; omega
    have HN := Lib.hid (szR_neg (left := left) (k := (x.nm.size + x.key.size + x.hi.size)) (by omega))
    go_enter Try.func76, Try.ntmps76
    go_wp2
    go_ret
    exact ⟨ret_int HN.out.symm, (by (repeat (first | exact Below.refl _ _ | (refine Below.setCell ?_ (by simp <;> omega) _) | (refine Below.alloc ?_ (by simp <;> omega) _) | (refine Below.drew ?_))))⟩
   ·
    have hd2 : decide (left - (x.nm.size : Int) - (x.key.size : Int) - (x.hi.size : Int) < 0) = false := by simp; omega
    have HN := Lib.hid (szR_pos (left := left) (k := (x.nm.size + x.key.size + x.hi.size)) (by omega))
    have HE := Lib.hid (show left - (x.nm.size : Int) - (x.key.size : Int) - (x.hi.size : Int) = left - ((x.nm.size + x.key.size + x.hi.size) : Nat) from by omega)
    go_enter Try.func76, Try.ntmps76
    go_wp2
    go_ret
    exact ⟨ret_int (by rw [HN.out, ← HE.out]), (by (repeat (first | exact Below.refl _ _ | (refine Below.setCell ?_ (by simp <;> omega) _) | (refine Below.alloc ?_ (by simp <;> omega) _) | (refine Below.drew ?_))))⟩

set_option maxRecDepth 100000 in
set_option maxHeartbeats 1000000 in
theorem szNamedS_c (A : Option Addr) (c : Nat) (l : List N5) (left : Int) (w : World) (hfit : FitN5s l) (hc : l.length ≤ c) (hcm : c ≤ maxLen) (h0 : 0 ≤ left) (h1 : left ≤ 1048576) (hr : RdG w w.heap.size A l) :
  Calls Try.prog 67 #[.slice A l.length c, .int .i64 left] w fun e w' => e = .returned (.int .i64 (szR left (totalN5 l))) ∧ Below w.heap.size w w' := by
 unfold maxLen at hcm
 have htl := totalN5_len l
 by_cases h : left < (l.length : Int)
 ·
  have hd : decide (left - (l.length : Int) < 0) = true := by simp; omega
  have HN := Lib.hid (szR_neg (left := left) (k := totalN5 l) (by omega))
  go_enter Try.func67, Try.ntmps67
  go_wp2
  go_ret
  exact ⟨ret_int HN.out.symm, Below.refl _ _⟩
 ·
  have hd : decide (left - (l.length : Int) < 0) = false := by simp; omega
  go_enter Try.func67, Try.ntmps67
  go_wp2
  go_loopw [1, 5] (fun lf i W => ∃ k : Nat, k ≤ l.length ∧ i = .int .i64 k ∧ ∃ z : Int, lf = .int .i64 z ∧ z = left - l.length - totalN5 (l.take k) + k ∧ 0 ≤ z ∧ z ≤ 1048576 ∧ Below w.heap.size w W) (fun _ i _ => l.length - (intOf i).toNat)
  case atStart => exact ⟨0, Nat.zero_le _, rfl, _, rfl, by simp [totalN5], by omega, by omega, Below.refl _ _⟩
  case round =>
   obtain ⟨k, hk, rfl, z, rfl, hz, hz0, hz1, hb⟩ := hrel
   by_cases hkl : k < l.length
   ·
    obtain ⟨b, o, rfl, hbB, hc0, hc1, hc2, hc3, hc4⟩ := (hr.below hb).atN5 hkl
    have hs : l[k].nm.size ≤ maxLen ∧ l[k].key.size ≤ maxLen ∧ l[k].hi.size ≤ maxLen := ⟨(hfit _ (List.getElem_mem hkl)).1, (hfit _ (List.getElem_mem hkl)).2.1, (hfit _ (List.getElem_mem hkl)).2.2.1⟩
    have ht := totalN5_take_succ l k hkl
    have hge := totalN5_take_ge l (k + 1)
    have HZ := Lib.hid hz
    have HT := Lib.hid ht
    clear hz ht
    by_cases hlo : z < ((l[k].nm.size + l[k].key.size + l[k].hi.size) : Int)
    ·
     go_wp2_with ((go_at_call 76; refine (szNamed_c l[k] _ _ hs hz0 hz1).mono ?_; rintro e w' ⟨rfl, hb2⟩; rw [szR_neg hlo]))
     go_ret
     exact ⟨ret_int (szR_neg (by have := HZ.out; have := HT.out; omega)).symm, hb.trans (hb2.mono hb.size)⟩
    ·
     have hlo' : ((l[k].nm.size + l[k].key.size + l[k].hi.size) : Int) ≤ z := by omega
     go_wp2_with ((go_at_call 76; refine (szNamed_c l[k] _ _ hs hz0 hz1).mono ?_; rintro e w' ⟨rfl, hb2⟩; rw [szR_pos hlo']))
     go_roundw
     case rel => exact ⟨k + 1, by omega, by go_num, _, rfl, by have := HZ.out; have := HT.out; omega, by omega, by omega, hb.trans (hb2.mono hb.size)⟩
     case measure => simp [intOf]; omega
   ·
    have hkk : k = l.length := by omega
    have HK := Lib.hid hkk
    have HZ := Lib.hid hz
    clear hkk hz
    go_wp2
    go_ret
    refine ⟨ret_int ?_, hb⟩
    have e1 := HZ.out
    rw [HK.out, List.take_length] at e1
    rw [szR_pos (by omega)]
    omega

open Classical in
noncomputable def eqN5 (a b : N5) : Bool := decide (a = b)
theorem eqN5_yes {a b : N5} (h : a = b) : eqN5 a b = true := by unfold eqN5; simp [h]
theorem eqN5_no {a b : N5} (h : a ≠ b) : eqN5 a b = false := by unfold eqN5; simp [h]
theorem eqN5_iff {a b : N5} : eqN5 a b = true ↔ a = b := by unfold eqN5; simp
open Classical in
noncomputable def eqN5s (a b : List N5) : Bool := decide (a = b)
theorem eqN5s_yes {a b : List N5} (h : a = b) : eqN5s a b = true := by unfold eqN5s; simp [h]
theorem eqN5s_no {a b : List N5} (h : a ≠ b) : eqN5s a b = false := by unfold eqN5s; simp [h]
theorem eqN5s_iff {a b : List N5} : eqN5s a b = true ↔ a = b := by unfold eqN5s; simp

set_option maxHeartbeats 1000000 in
theorem eqNamed_c (x y : N5) (w : World) :
  Calls Try.prog 74 #[.agg #[.string x.nm, .int .i64 x.kind, .string x.key, .string x.hi, .int .i64 x.num], .agg #[.string y.nm, .int .i64 y.kind, .string y.key, .string y.hi, .int .i64 y.num]] w fun e w' => e = .returned (.bool (eqN5 x y)) ∧ Below w.heap.size w w' := by
 by_cases h0 : x.nm = y.nm
 ·
  have b0 : (x.nm.toList == y.nm.toList) = true := by rw [h0]; simp
  have H0 := Lib.hid h0
  clear h0
  by_cases h1 : x.kind = y.kind
  ·
   have b1 : (x.kind != y.kind) = false := by simp [h1]
   have H1 := Lib.hid h1
   clear h1
   by_cases h2 : x.key = y.key
   ·
    have b2 : (x.key.toList == y.key.toList) = true := by rw [h2]; simp
    have H2 := Lib.hid h2
    clear h2
    by_cases h3 : x.hi = y.hi
    ·
     have b3 : (x.hi.toList == y.hi.toList) = true := by rw [h3]; simp
     have H3 := Lib.hid h3
     clear h3
     by_cases h4 : x.num = y.num
     ·
      have b4 : (x.num != y.num) = false := by simp [h4]
      have H4 := Lib.hid h4
      clear h4
      have HE := Lib.hid (eqN5_yes (show x = y from by
       revert H0 H1 H2 H3 H4
       clear b0 b1 b2 b3 b4
       cases x; cases y
       intro H0 H1 H2 H3 H4
       have e0 := H0.out
       have e1 := H1.out
       have e2 := H2.out
       have e3 := H3.out
       have e4 := H4.out
       simp only at e0 e1 e2 e3 e4
       subst e0 e1 e2 e3 e4
       rfl))
      go_enter Try.func74, Try.ntmps74
      go_wp2
      go_ret
      exact ⟨ret_bool HE.out.symm, (by (repeat (first | exact Below.refl _ _ | (refine Below.setCell ?_ (by simp <;> omega) _) | (refine Below.alloc ?_ (by simp <;> omega) _) | (refine Below.drew ?_))))⟩
     ·
      have b4 : (x.num != y.num) = true := by simp [h4]
      have HE := Lib.hid (eqN5_no (show x ≠ y from fun e => h4 (by rw [e])))
      go_enter Try.func74, Try.ntmps74
      go_wp2
      go_ret
      exact ⟨ret_bool HE.out.symm, (by (repeat (first | exact Below.refl _ _ | (refine Below.setCell ?_ (by simp <;> omega) _) | (refine Below.alloc ?_ (by simp <;> omega) _) | (refine Below.drew ?_))))⟩
    ·
     have b3 := str_ne h3
     have HE := Lib.hid (eqN5_no (show x ≠ y from fun e => h3 (by rw [e])))
     go_enter Try.func74, Try.ntmps74
     go_wp2
     go_ret
     exact ⟨ret_bool HE.out.symm, (by (repeat (first | exact Below.refl _ _ | (refine Below.setCell ?_ (by simp <;> omega) _) | (refine Below.alloc ?_ (by simp <;> omega) _) | (refine Below.drew ?_))))⟩
   ·
    have b2 := str_ne h2
    have HE := Lib.hid (eqN5_no (show x ≠ y from fun e => h2 (by rw [e])))
    go_enter Try.func74, Try.ntmps74
    go_wp2
    go_ret
    exact ⟨ret_bool HE.out.symm, (by (repeat (first | exact Below.refl _ _ | (refine Below.setCell ?_ (by simp <;> omega) _) | (refine Below.alloc ?_ (by simp <;> omega) _) | (refine Below.drew ?_))))⟩
  ·
   have b1 : (x.kind != y.kind) = true := by simp [h1]
   have HE := Lib.hid (eqN5_no (show x ≠ y from fun e => h1 (by rw [e])))
   go_enter Try.func74, Try.ntmps74
   go_wp2
   go_ret
   exact ⟨ret_bool HE.out.symm, (by (repeat (first | exact Below.refl _ _ | (refine Below.setCell ?_ (by simp <;> omega) _) | (refine Below.alloc ?_ (by simp <;> omega) _) | (refine Below.drew ?_))))⟩
 ·
  have b0 := str_ne h0
  have HE := Lib.hid (eqN5_no (show x ≠ y from fun e => h0 (by rw [e])))
  go_enter Try.func74, Try.ntmps74
  go_wp2
  go_ret
  exact ⟨ret_bool HE.out.symm, (by (repeat (first | exact Below.refl _ _ | (refine Below.setCell ?_ (by simp <;> omega) _) | (refine Below.alloc ?_ (by simp <;> omega) _) | (refine Below.drew ?_))))⟩

set_option maxRecDepth 100000 in
set_option maxHeartbeats 1000000 in
theorem eqNamedS_c (A A' : Option Addr) (c c' : Nat) (l l' : List N5) (w : World) (hc : l.length ≤ 2097152) (hc' : l'.length ≤ 2097152) (hr : RdG w w.heap.size A l) (hr' : RdG w w.heap.size A' l') :
  Calls Try.prog 64 #[.slice A l.length c, .slice A' l'.length c'] w fun e w' => e = .returned (.bool (eqN5s l l')) ∧ Below w.heap.size w w' := by
 by_cases hlen : l.length = l'.length
 ·
  have hne : ((l.length : Int) != (l'.length : Int)) = false := by simp [hlen]
  have HL := Lib.hid hlen
  have hle1 : l.length ≤ l'.length := by omega
  have hle2 : l'.length ≤ l.length := by omega
  clear hlen
  go_enter Try.func64, Try.ntmps64
  go_wp2
  go_loopw [5] (fun i W => ∃ k : Nat, k ≤ l.length ∧ i = .int .i64 k ∧ Below w.heap.size w W ∧ l.take k = l'.take k) (fun i _ => l.length - (intOf i).toNat)
  case atStart => exact ⟨0, Nat.zero_le _, rfl, Below.refl _ _, rfl⟩
  case round =>
   obtain ⟨k, hk, rfl, hb, ht⟩ := hrel
   have HT := Lib.hid ht
   clear ht
   by_cases hkl : k < l.length
   ·
    have hkl' : k < l'.length := by omega
    obtain ⟨b, o, rfl, hbB, hc0, hc1, hc2, hc3, hc4⟩ := (hr.below hb).atN5 hkl
    obtain ⟨b', o', rfl, hbB', hd0, hd1, hd2, hd3, hd4⟩ := (hr'.below hb).atN5 hkl'
    have hq : b < wr.heap.size := Nat.lt_of_lt_of_le hbB hb.size
    have hq' : b' < wr.heap.size := Nat.lt_of_lt_of_le hbB' hb.size
    cases he : eqN5 l[k] l'[k]
    ·
     have HN := Lib.hid (eqN5s_no fun h : l = l' => by
      have e : eqN5 l[k] l'[k] = true := eqN5_yes (by subst h; rfl)
      rw [he] at e; cases e)
     go_wp2
     go_region_held3 (fun W => W.cell? ⟨b, o + k * 5, none⟩ = some (.string l[k].nm) ∧ W.cell? ⟨b, o + k * 5 + 1, none⟩ = some (.int .i64 l[k].kind) ∧ W.cell? ⟨b, o + k * 5 + 2, none⟩ = some (.string l[k].key) ∧ W.cell? ⟨b, o + k * 5 + 3, none⟩ = some (.string l[k].hi) ∧ W.cell? ⟨b, o + k * 5 + 4, none⟩ = some (.int .i64 l[k].num) ∧ W.cell? ⟨b', o' + k * 5, none⟩ = some (.string l'[k].nm) ∧ W.cell? ⟨b', o' + k * 5 + 1, none⟩ = some (.int .i64 l'[k].kind) ∧ W.cell? ⟨b', o' + k * 5 + 2, none⟩ = some (.string l'[k].key) ∧ W.cell? ⟨b', o' + k * 5 + 3, none⟩ = some (.string l'[k].hi) ∧ W.cell? ⟨b', o' + k * 5 + 4, none⟩ = some (.int .i64 l'[k].num)) (first | exact ⟨hc0, hc1, hc2, hc3, hc4, hd0, hd1, hd2, hd3, hd4⟩ | exact ⟨(hb2.cell hq).trans hc0, (hb2.cell hq).trans hc1, (hb2.cell hq).trans hc2, (hb2.cell hq).trans hc3, (hb2.cell hq).trans hc4, (hb2.cell hq').trans hd0, (hb2.cell hq').trans hd1, (hb2.cell hq').trans hd2, (hb2.cell hq').trans hd3, (hb2.cell hq').trans hd4⟩)
      (first | (go_at_call 74; refine (eqNamed_c l[k] l'[k] _).mono ?_; rintro e w' ⟨rfl, hb2⟩))
     go_wp2
     go_ret
     exact ⟨ret_bool HN.out.symm, hb.trans ((Below.drew (Below.refl _ _)).trans (hb2.mono hb.size))⟩
    ·
     have HE := Lib.hid (eqN5_iff.1 he)
     go_wp2
     go_region_held3 (fun W => W.cell? ⟨b, o + k * 5, none⟩ = some (.string l[k].nm) ∧ W.cell? ⟨b, o + k * 5 + 1, none⟩ = some (.int .i64 l[k].kind) ∧ W.cell? ⟨b, o + k * 5 + 2, none⟩ = some (.string l[k].key) ∧ W.cell? ⟨b, o + k * 5 + 3, none⟩ = some (.string l[k].hi) ∧ W.cell? ⟨b, o + k * 5 + 4, none⟩ = some (.int .i64 l[k].num) ∧ W.cell? ⟨b', o' + k * 5, none⟩ = some (.string l'[k].nm) ∧ W.cell? ⟨b', o' + k * 5 + 1, none⟩ = some (.int .i64 l'[k].kind) ∧ W.cell? ⟨b', o' + k * 5 + 2, none⟩ = some (.string l'[k].key) ∧ W.cell? ⟨b', o' + k * 5 + 3, none⟩ = some (.string l'[k].hi) ∧ W.cell? ⟨b', o' + k * 5 + 4, none⟩ = some (.int .i64 l'[k].num)) (first | exact ⟨hc0, hc1, hc2, hc3, hc4, hd0, hd1, hd2, hd3, hd4⟩ | exact ⟨(hb2.cell hq).trans hc0, (hb2.cell hq).trans hc1, (hb2.cell hq).trans hc2, (hb2.cell hq).trans hc3, (hb2.cell hq).trans hc4, (hb2.cell hq').trans hd0, (hb2.cell hq').trans hd1, (hb2.cell hq').trans hd2, (hb2.cell hq').trans hd3, (hb2.cell hq').trans hd4⟩)
      (first | (go_at_call 74; refine (eqNamed_c l[k] l'[k] _).mono ?_; rintro e w' ⟨rfl, hb2⟩))
     go_wp2
     go_roundw
     case rel => exact ⟨k + 1, by omega, by go_num, hb.trans ((Below.drew (Below.refl _ _)).trans (hb2.mono hb.size)), by rw [List.take_succ_eq_append_getElem hkl, List.take_succ_eq_append_getElem hkl', HT.out, HE.out]⟩
     case measure => simp [intOf]; omega
   ·
    have HN := Lib.hid (show k = l.length from by omega)
    go_wp2
    go_ret
    refine ⟨ret_bool (eqN5s_yes ?_).symm, hb⟩
    have e := HT.out
    rw [HN.out, List.take_length, HL.out, List.take_length] at e
    exact e
 ·
  have hne : ((l.length : Int) != (l'.length : Int)) = true := by simp; omega
  have HL := Lib.hid hlen
  clear hlen
  go_enter Try.func64, Try.ntmps64
  go_wp2
  go_ret
  exact ⟨ret_bool (eqN5s_no fun h => HL.out (congrArg List.length h)).symm, Below.refl _ _⟩

theorem eqNamedOwn_c (v v' : Value) (l l' : List N5) (base base' : Nat) (w : World) (h : OwnG w base v l) (h' : OwnG w base' v' l') (hl : l.length ≤ 2097152) (hl' : l'.length ≤ 2097152) :
  Calls Try.prog 64 #[v, v'] w fun e w' => e = .returned (.bool (eqN5s l l')) ∧ Below w.heap.size w w' := by
 obtain ⟨A, c, rfl, _, _, hr⟩ := h.read
 obtain ⟨A', c', rfl, _, _, hr'⟩ := h'.read
 exact eqNamedS_c A A' c c' l l' w hl hl' hr hr'

def markN5 (k : Nat) : N5 := ⟨mt k, (k : Int) + 1, mt (k + 2), mt (k + 3), (k : Int) + 4⟩

end Go.Proofs.Ytheblejlmlfddaa
namespace Go.Proofs.Ytheblejlmlfddaa
open Go.ChangeShapes Go.WideShapes Go.ChangeAt Go.RowKit Go.Deep
set_option linter.unusedVariables false
set_option maxRecDepth 100000
def N5.q (x : N5) : Q4 := ⟨x.kind, x.key, x.hi, x.num⟩
theorem cellsLawNamed : Try.prog.cellsOf 125 = 5 := by kernel_rfl
theorem structLawNamed : ∃ f0 f1 : Field, Try.prog.underlying 125 = some (.struct #[f0, f1]) ∧ f0.offset = 0 ∧ f0.type = 9 ∧ f1.offset = 1 ∧ f1.type = 123 := by
 have h := Try.underlying125
 exact ⟨_, _, h, rfl, rfl, rfl, rfl⟩
theorem decN5 {H : Type} {enc : TypeId × Value → H} {W : World} (n : Nat) (cs' : List Value) (x : DataW H × List MemPlace) (h : DataW.trod enc Try.prog W 0 (fun _ => true) true n 125 cs' = some x) :
  ∃ a : N5, cs' = Elt.cs a ∧ FitN5 a := by
 obtain ⟨f0, f1, hs, o0, t0, o1, t1⟩ := structLawNamed
 obtain ⟨xs, k, _, _, hl, hxl, hf⟩ := DataW.trod_struct hs h
 rw [cellsLawNamed] at hl
 match xs, hxl, cs', hl with
 | [y0, y1], _, [v0, v1, v2, v3, v4], _ =>
  have g0 := hf 0 f0 rfl
  rw [o0, t0, oneAsks] at g0
  simp only [List.drop_zero, List.take_succ_cons, List.take_zero, List.getElem?_cons_zero] at g0
  obtain ⟨s0, e0, _, z0⟩ := DataW.trod_string Try.underlying9 g0
  simp only [List.cons.injEq, and_true] at e0
  subst e0
  have g1 := hf 1 f1 rfl
  rw [o1, t1, cellsLawAsk] at g1
  simp only [List.drop_zero, List.drop_succ_cons, List.take_succ_cons, List.take_zero, List.getElem?_cons_zero, List.getElem?_cons_succ] at g1
  obtain ⟨q, e1, z1, z2, z3, z4⟩ := decQ4 _ _ _ g1
  simp only [csQ4, List.cons.injEq, and_true] at e1
  obtain ⟨rfl, rfl, rfl, rfl⟩ := e1
  exact ⟨⟨s0, q.kind, q.key, q.hi, q.num⟩, rfl, z0, z2, z3, z1.1, z1.2, z4.1, z4.2⟩
theorem openNamedS {H : Type} {enc : TypeId × Value → H} {W : World} {fuel : Nat} {v : Value} {x : DataW H × List MemPlace} (h : DataW.trod enc Try.prog W 0 (fun _ => true) true fuel 90 [v] = some x) :
  ∃ (A : Option Addr) (c : Nat) (l : List N5), v = .slice A l.length c ∧ l.length ≤ c ∧ c ≤ maxLen ∧ FitN5s l ∧ RdG W W.heap.size A l :=
 openG Try.underlying90 cellsLawNamed FitN5 decN5 h
end Go.Proofs.Ytheblejlmlfddaa
