/- Lists of letters that are drawn. -/
import Derived.Test.YtilcncnhkidndaaDoorD5b
import Derived.Test.YtilcncnhkidndaaDoorL5u
import Derived.Test.YtilcncnhkidndaaDoorL5i
import Derived.Deep.RegionHeld3
namespace Go.Proofs.YtilcncnhkidndaaDoor
open Go.RowKit
set_option linter.unusedVariables false
set_option maxRecDepth 100000

theorem Dw.own {w w1 w2 : World} {g n c p K : Nat} {A : Option Addr} (h : Dw g A n c p K w w1) (hg : g < w.heap.size) (hb : Below w.heap.size w1 w2) : Dw g A n c p K w w2 := by
 obtain ⟨q, h1, h2, h3⟩ := h.rdr
 exact ⟨⟨hb.os.trans h.grown.os, hb.tape.trans h.grown.tape, hb.output.trans h.grown.output, Nat.le_trans h.grown.size hb.size, fun k hk hne => (hb.block k hk).trans (h.grown.block k hk hne)⟩, q, h1, h2, h3.low (hb.mono (by omega))⟩
/-- letters of a bounded size -/
def BdLs (ls : List LE) : Prop := (∀ l ∈ ls, l.s.size ≤ 2 ∧ l.b.size ≤ 10001) ∧ ls.length ≤ 9
def RetLs (g : Nat) (A : Option Addr) (n c p K : Nat) (w : World) (e : Ending) (w' : World) : Prop := ∃ v ls, e = .returned v ∧ OwnG w' w.heap.size v (ls : List LE) ∧ BdLs ls ∧ Dw g A n c p K w w'
theorem nine : ∀ z ∈ ([2, 3, 5, 1, 0, 9] : List Int), 0 ≤ z ∧ z ≤ 9 := by
 intro z hz
 simp only [List.mem_cons, List.not_mem_nil, or_false] at hz
 omega
set_option maxHeartbeats 4000000 in
theorem letters_d (g : Nat) (A : Option Addr) (n c p : Nat) (w : World) (h : Rdr w g A n c p) (hp : p ≤ 900000) :
  Calls Tryd.prog 39 #[.pointer (some ⟨g, 0, none⟩)] w (RetLs g A n c p 55 w) := by
 have hgl := h.lt
 obtain ⟨V1, eV1, -, B1, hV1⟩ := al1 w rfl #[] 24
 have hO : OwnG V1 w.heap.size (.slice (some ⟨w.heap.size, 0, none⟩) 0 0) ([] : List LE) := OwnG.mk (cur := #[]) (Nat.le_refl _) B1 (Nat.le_refl _) (by decide) rfl rfl
 have D1 := (Dw.refl h).call hV1
 have z1 := hV1.size
 have lt1 := B1.lt
 clear B1
 go_enter Tryd.func39, Tryd.ntmps39
 go_wp2_with fail
 obtain ⟨q, hq1, hq2, hq⟩ := D1.rdr
 refine (num_d g A n c q V1.heap.size [2, 3, 5, 1, 0, 9] _ (hq.alloc _) (by omega) (by have := hq.lt; omega) (heap_alloc_new V1 _) 6 rfl (by omega) (by omega)).mono ?_
 rintro e w2 ⟨z, rfl, hz, hd2⟩
 obtain ⟨hz0, hz9⟩ := nine z hz
 obtain ⟨m, rfl⟩ : ∃ m : Nat, z = (m : Int) := ⟨z.toNat, by omega⟩
 have D2 : Dw g A n c p 1 w w2 := Dw.then_ (K := 0) (grown_alloc D1.grown _) hq1 hq2 hd2
 have hO2 := Lib.hid ((hO.alloc _).kept hd2.grown (fun j hj e => by have h1 := (hO.block_lt hj).1; have := Option.some.inj e; omega))
 have HD2 := Lib.hid D2
 have hm9 : m ≤ 9 := by omega
 clear hO D1 hq1 hq2 hq hd2 D2 hz hz0 hz9
 go_wp2
 go_loopw [3, 4] (fun v i W => ∃ (k : Nat) (ls : List LE), i = .int .i64 k ∧ OwnG W w.heap.size v ls ∧ BdLs ls ∧ ls.length + k ≤ 9 ∧ Dw g A n c p (1 + 6 * ls.length) w W) (fun _ i _ => (intOf i).toNat)
 case atStart => exact ⟨m, [], rfl, hO2.out, ⟨fun l hl => by simp at hl, by simp⟩, by simpa using hm9, HD2.out⟩
 case round =>
  obtain ⟨k, ls, rfl, hown, hbd, hk, hD⟩ := hrel
  obtain ⟨vb, vn, vc, rfl⟩ := hown.slice
  have HO := Lib.hid hown
  have HB := Lib.hid hbd
  have HD := Lib.hid hD
  have zr := hD.grown.size
  clear hown hbd hD
  by_cases hk0 : k = 0
  ·
   subst hk0
   go_wp2
   go_ret
   exact ⟨_, ls, rfl, HO.out, HB.out, HD.out.more (by omega)⟩
  ·
   have hki : (0 : Int) < (k : Int) := by omega
   go_wp2_with fail
   obtain ⟨q, hq1, hq2, hq⟩ := HD.out.rdr
   refine (letter_d g A n c q _ hq (by omega)).mono ?_
   rintro e w3 ⟨l, rfl, hls, hlb, hd3⟩
   have D3 : Dw g A n c p (1 + 6 * ls.length + 6) w w3 := Dw.then_ HD.out.grown hq1 hq2 hd3
   have hO3 := HO.out.kept hd3.grown (fun j hj e => by have h1 := (HO.out.block_lt hj).1; have := Option.some.inj e; omega)
   obtain ⟨V4, eV4, -, B4, hV4⟩ := al1 w3 rfl #[.string l.s, .string l.b] 24
   have hR : RdG V4 V4.heap.size (some ⟨w3.heap.size, 0, none⟩) [l] := eV4 ▸ rdOneLE w3 l _
   have HR := Lib.hid hR
   have hO4 := Lib.hid (hO3.next hV4)
   have D4 := Lib.hid (D3.call hV4)
   have z3 := hd3.grown.size
   have z4 := hV4.size
   clear hR B4 hV4 hO3 D3 hd3 hq hq1 hq2
   go_wp2_with (at_builtin; refine wpList_appG (α := LE) V4 rfl _ _ 32 32 24 rfl Tryd.underlying32 Tryd.underlying32 w.heap.size _ ls rfl hO4.out _ _ _ _ [l] rfl rfl HR.out (by simp; omega) (by omega) ?_; intro v5 w5 o5 g5 _; have b5 := Lib.hid (hO4.out.belB g5 (by omega)); have OO5 := Lib.hid o5; clear o5 g5)
   go_roundw
   case rel => exact ⟨k - 1, ls ++ [l], by go_num, OO5.out, ⟨fun m hm => (List.mem_append.1 hm).elim (HB.out.1 m) (fun h => by simp at h; subst h; exact ⟨hls, hlb⟩), by simp; omega⟩, by simp; omega, by have := D4.out.own hgl b5.out; simpa [Nat.mul_add, Nat.add_assoc] using this⟩
   case measure => simp [intOf]; omega
set_option maxHeartbeats 4000000 in
theorem torn_d (g : Nat) (A : Option Addr) (n c p : Nat) (s : ByteArray) (w : World) (h : Rdr w g A n c p) (hp : p ≤ 900000) (hs : s.size ≤ 900000) :
  Calls Tryd.prog 42 #[.pointer (some ⟨g, 0, none⟩), .string s] w fun e w' => ∃ t, e = .returned (.string t) ∧ t.size ≤ s.size + 6 ∧ Dw g A n c p 4 w w' := by
 have hgl := h.lt
 by_cases hz : s.size = 0
 ·
  have hz1 : ((s.size : Int) == 0) = true := beq_iff_eq.2 (by omega)
  go_enter Tryd.func42, Tryd.ntmps42
  go_wp2
  go_ret
  exact ⟨s, rfl, by omega, (Dw.refl h).more (by omega)⟩
 have hz1 : ((s.size : Int) == 0) = false := beq_eq_false_iff_ne.2 (by omega)
 go_enter Tryd.func42, Tryd.ntmps42
 go_wp2_with fail
 refine (pick_d g A n c p 2 _ h (by omega) (by omega) (by omega)).mono ?_
 rintro e w1 ⟨j, rfl, hj, D1⟩
 by_cases hj0 : j = 0
 ·
  have hj1 : ((j : Int) == 0) = true := by simp; omega
  go_wp2
  go_ret
  exact ⟨s, rfl, by omega, D1.more (by omega)⟩
 have hj1 : ((j : Int) == 0) = false := by simp; omega
 go_wp2_with fail
 obtain ⟨q, hq1, hq2, hq⟩ := D1.rdr
 refine (pick_d g A n c q s.size _ hq (by omega) (by omega) (by omega)).mono ?_
 rintro e w2 ⟨k, rfl, hk, hd2⟩
 have D2 : Dw g A n c p 2 w w2 := Dw.then_ (K := 1) D1.grown hq1 hq2 hd2
 clear hq1 hq2 hq hd2 D1
 go_wp2_with fail
 obtain ⟨q, hq1, hq2, hq⟩ := D2.rdr
 refine (pick_d g A n c q 4 _ hq (by omega) (by omega) (by omega)).mono ?_
 rintro e w3 ⟨x, rfl, hx, hd3⟩
 have D3 : Dw g A n c p 3 w w3 := Dw.then_ (K := 2) D2.grown hq1 hq2 hd3
 clear hq1 hq2 hq hd3 D2
 have HD := Lib.hid D3
 clear D3
 have i1 : (k : Int) ≤ (s.size : Int) := by omega
 have i2 : (k : Int) + 1 ≤ (s.size : Int) := by omega
 have i3 : k ≤ s.size := by omega
 have i4 : k + 1 ≤ s.size := by omega
 by_cases hx0 : x = 0
 ·
  subst hx0
  go_wp2
  go_ret
  exact ⟨_, rfl, by simp [ByteArray.size_extract]; omega, HD.out.more (by omega)⟩
 by_cases hx1 : x = 1
 ·
  subst hx1
  go_wp2
  go_region
  all_goals go_wp2
  go_ret
  exact ⟨_, rfl, by rw [ByteArray.size_append]; simp [ByteArray.size_extract]; omega, (HD.out.own hgl ((Below.refl _ _).drew)).more (by omega)⟩
 by_cases hx2 : x = 2
 ·
  subst hx2
  go_wp2
  obtain ⟨q, hq1, hq2, hq⟩ := HD.out.rdr
  obtain ⟨wd, HW⟩ : ∃ wd, (w3.alloc (.cells #[.string ⟨#[48]⟩, .string ⟨#[57]⟩, .string ⟨#[81]⟩, .string ⟨#[120]⟩, .string ⟨#[10]⟩, .string ⟨#[32]⟩, .string ⟨#[53, 48]⟩] 9)).drew = wd := ⟨_, rfl⟩
  have hB0 : Below w.heap.size w3 wd := HW ▸ ((Below.refl _ _).alloc (by have := HD.out.grown.size; omega) _).drew
  have HDD := Lib.hid (HD.out.own hgl hB0)
  have hqd : Rdr wd g A n c q := HW ▸ (hq.alloc _).low (Below.refl _ _).drew
  have hA : Blk wd w3.heap.size 9 (ssTo1.map Value.string).toArray := HW ▸ heap_alloc_new w3 (.cells #[.string ⟨#[48]⟩, .string ⟨#[57]⟩, .string ⟨#[81]⟩, .string ⟨#[120]⟩, .string ⟨#[10]⟩, .string ⟨#[32]⟩, .string ⟨#[53, 48]⟩] 9)
  have HQ := Lib.hid hqd
  have HA := Lib.hid hA
  have hqs : g < w3.heap.size := hq.lt
  have HWW := Lib.hid HW
  clear hA hqd hB0 hq HW
  go_region_with (first
   | (go_at_call 48; rw [HWW.out]; refine (of_d g A n c q w3.heap.size ssTo1 wd HQ.out (by omega) (by omega) HA.out 7 rfl (by omega) (by omega)).mono ?_; rintro e w4 ⟨t, rfl, ht, hd4⟩; have ht2 := ssTo1_s t ht; have HD4 := Lib.hid (Dw.then_ (K := 3) HDD.out.grown hq1 hq2 hd4); clear hd4 ht))
  all_goals go_wp2
  go_ret
  exact ⟨_, rfl, by rw [ByteArray.size_append, ByteArray.size_append]; simp [ByteArray.size_extract]; omega, HD4.out⟩
 ·
  have hx3 : x = 3 := by omega
  subst hx3
  go_wp2_with fail
  obtain ⟨q, hq1, hq2, hq⟩ := HD.out.rdr
  refine (of_d g A n c q w3.heap.size ssTo2 _ (hq.alloc _) (by omega) (by have := hq.lt; omega) (heap_alloc_new w3 _) 8 rfl (by omega) (by omega)).mono ?_
  rintro e w4 ⟨t, rfl, ht, hd4⟩
  have ht2 := ssTo2_s t ht
  have D4 : Dw g A n c p 4 w w4 := Dw.then_ (K := 3) (grown_alloc HD.out.grown _) hq1 hq2 hd4
  have HD4 := Lib.hid D4
  clear D4 hd4 hq hq1 hq2 ht
  have y1 : ¬ (9223372036854775807 < s.size + t.size) := by omega
  go_wp2
  go_ret
  exact ⟨_, rfl, by rw [ByteArray.size_append]; omega, HD4.out⟩
end Go.Proofs.YtilcncnhkidndaaDoor
