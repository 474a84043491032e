/- Letters and bytes that are drawn off a code. -/
import Derived.Test.YtilcncnhkidndaaDoorL5u
import Derived.Test.YtilcncnhkidndaaDoorA3
namespace Go.Proofs.YtilcncnhkidndaaDoor
open Go.RowKit
set_option linter.unusedVariables false
set_option maxRecDepth 100000

/-- a reader is opened at the code's beginning -/
def Opened (A : Option Addr) (c : Nat) (w : World) (e : Ending) (w' : World) : Prop := ∃ m, e = .returned (.pointer (some ⟨w.heap.size, 0, none⟩)) ∧ Rdr w' w.heap.size A m c 0 ∧ Below w.heap.size w w'

set_option maxHeartbeats 1000000 in
theorem open_d (A : Option Addr) (n c : Nat) (w : World) (hc : n ≤ c) (hcm : c ≤ maxLen) (hr : RdB w w.heap.size A n) :
  Calls Tryd.prog 33 #[.slice A n c] w (Opened A c w) := by
 unfold maxLen at hcm
 by_cases hn : n ≤ 2000
 ·
  have hn1 : ¬ ((2000 : Int) < (n : Int)) := by omega
  go_enter Tryd.func33, Tryd.ntmps33
  go_wp2
  go_ret
  refine ⟨n, rfl, ⟨heap_alloc_new _ _, hn, fun i hi => ?_⟩, below_alloc (Below.refl _ _) _⟩
  obtain ⟨b, o, z, e, hb, h1, h2⟩ := hr i hi
  exact ⟨b, o, z, e, hb, (World.cell?_alloc_lt w _ ⟨b, o + i, none⟩ hb).trans h1, h2⟩
 ·
  have hn1 : ((2000 : Int) < (n : Int)) := by omega
  have hc1 : ((2000 : Int) ≤ (c : Int)) := by omega
  go_enter Tryd.func33, Tryd.ntmps33
  go_wp2
  go_ret
  refine ⟨2000, rfl, ⟨heap_alloc_new _ _, Nat.le_refl _, fun i hi => ?_⟩, below_alloc (Below.refl _ _) _⟩
  obtain ⟨b, o, z, e, hb, h1, h2⟩ := hr i (by omega)
  exact ⟨b, o, z, e, hb, (World.cell?_alloc_lt w _ ⟨b, o + i, none⟩ hb).trans h1, h2⟩

section
variable {w w1 w2 : World} {g n c p K K' b : Nat} {A : Option Addr}
theorem Rdr.low (h : Rdr w g A n c p) (hb : Below (g + 1) w w1) : Rdr w1 g A n c p :=
 ⟨h.blk.below hb (by omega), h.len, fun i hi => by
  obtain ⟨b, o, z, e, hbb, hc, hz⟩ := h.bytes i hi
  exact ⟨b, o, z, e, hbb, (hb.cell (p := ⟨b, o + i, none⟩) (by show b < g + 1; omega)).trans hc, hz⟩⟩
theorem Dw.set (h : Dw g A n c p K w w1) (hb : w.heap.size ≤ b) (hg : g < w.heap.size) (i : Nat) (u : Value) : Dw g A n c p K w (w1.setCell ⟨b, i, none⟩ u) := by
 obtain ⟨q, h1, h2, h3⟩ := h.rdr
 refine ⟨⟨h.grown.os, h.grown.tape, h.grown.output, by simpa [World.setCell] using h.grown.size, fun k hk hne => (Below.heap_setCell w1 ⟨b, i, none⟩ u k (by show k ≠ b; omega)).trans (h.grown.block k hk hne)⟩, q, h1, h2, h3.low ?_⟩
 exact Below.setCell (Below.refl _ _) (by show g + 1 ≤ b; omega) _
/-- a step further -/
theorem Dw.step (h : Dw g A n c p K w w1) (k : ∀ q, p ≤ q → q ≤ p + K → Rdr w1 g A n c q → Dw g A n c q K' w1 w2) : Dw g A n c p (K + K') w w2 := by
 obtain ⟨q, h1, h2, h3⟩ := h.rdr
 exact Dw.then_ h.grown h1 h2 (k q h1 h2 h3)
end

def ssSg : List ByteArray := [⟨#[81]⟩, ⟨#[80]⟩, ⟨#[69]⟩, ⟨#[83]⟩, ⟨#[88]⟩, ⟨#[90]⟩, ⟨#[49]⟩]
def ssBd : List ByteArray := [⟨#[]⟩, ⟨#[103, 101, 116, 32, 97]⟩, ⟨#[112, 117, 116, 32, 97, 98, 32, 45, 55]⟩, ⟨#[110, 32, 103, 101, 116, 32, 97]⟩, ⟨#[110]⟩, ⟨#[98, 101, 103, 105, 110]⟩, ⟨#[97, 108, 108, 32, 97, 32, 122, 122]⟩]
def ssSgB : List ByteArray := [⟨#[]⟩, ⟨#[113]⟩, ⟨#[81, 81]⟩, ⟨#[32]⟩]
def ssTo1 : List ByteArray := [⟨#[48]⟩, ⟨#[57]⟩, ⟨#[81]⟩, ⟨#[120]⟩, ⟨#[10]⟩, ⟨#[32]⟩, ⟨#[53, 48]⟩]
def ssTo2 : List ByteArray := [⟨#[81]⟩, ⟨#[81, 48]⟩, ⟨#[81, 48, 53]⟩, ⟨#[81, 48, 53, 103, 101, 116]⟩, ⟨#[113]⟩, ⟨#[81, 53]⟩, ⟨#[81, 120]⟩, ⟨#[81, 52, 49]⟩]
theorem ssSg_s : ∀ s ∈ ssSg, s.size ≤ 2 := by
 intro s hs; simp only [ssSg, List.mem_cons, List.not_mem_nil, or_false] at hs; rcases hs with rfl | rfl | rfl | rfl | rfl | rfl | rfl <;> decide
theorem ssBd_s : ∀ s ∈ ssBd, s.size ≤ 9 := by
 intro s hs; simp only [ssBd, List.mem_cons, List.not_mem_nil, or_false] at hs; rcases hs with rfl | rfl | rfl | rfl | rfl | rfl | rfl <;> decide
theorem ssSgB_s : ∀ s ∈ ssSgB, s.size ≤ 2 := by
 intro s hs; simp only [ssSgB, List.mem_cons, List.not_mem_nil, or_false] at hs; rcases hs with rfl | rfl | rfl | rfl <;> decide
theorem ssTo1_s : ∀ s ∈ ssTo1, s.size ≤ 6 := by
 intro s hs; simp only [ssTo1, List.mem_cons, List.not_mem_nil, or_false] at hs; rcases hs with rfl | rfl | rfl | rfl | rfl | rfl | rfl <;> decide
theorem ssTo2_s : ∀ s ∈ ssTo2, s.size ≤ 6 := by
 intro s hs; simp only [ssTo2, List.mem_cons, List.not_mem_nil, or_false] at hs; rcases hs with rfl | rfl | rfl | rfl | rfl | rfl | rfl | rfl <;> decide

/-- a text so many times: a bound on its length -/
theorem many_c (s : ByteArray) (n : Nat) (w : World) (hs : s.size ≤ 10) (hn : n ≤ 1000) :
  Calls Tryd.prog 41 #[.string s, .int .i64 n] w fun e w' => ∃ r, e = .returned (.string r) ∧ r.size ≤ 10000 ∧ w = w' := by
 go_enter Tryd.func41, Tryd.ntmps41
 go_wp2
 go_loop [0, 1, 5] (fun a i o => ∃ (m : Nat) (x r : ByteArray), m ≤ 1000 ∧ i = .int .i64 m ∧ a = .string x ∧ o = .string r ∧ (0 < m → r.size + x.size * m ≤ 10000) ∧ r.size ≤ 10000) (fun _ i _ => (intOf i).toNat)
 case atStart => exact ⟨n, s, ByteArray.empty, hn, rfl, rfl, rfl, fun _ => by have := Nat.mul_le_mul hs hn; simp; omega, by simp⟩
 case round =>
  obtain ⟨m, x, r, hm1000, rfl, rfl, rfl, hr, hr2⟩ := hrel
  by_cases hm : 0 < m
  ·
   have hb := hr hm
   have hmi : (0 : Int) < (m : Int) := by omega
   have hxm : x.size ≤ x.size * m := Nat.le_mul_of_pos_right _ hm
   have HX := Lib.hid hxm
   have HB := Lib.hid hb
   have hx : x.size ≤ 10000 := by omega
   clear hr hb hxm
   have ho : (m : Int).tmod 2 = ((m % 2 : Nat) : Int) := by rw [Int.ofNat_tmod]; rfl
   by_cases h1 : m % 2 = 1
   ·
    have hd : ((m : Int) % 2 == 1) = true := by simp; omega
    have y1 : ¬ (9223372036854775807 < r.size + x.size) := by omega
    have y2 : ¬ (9223372036854775807 < x.size + x.size) := by omega
    go_wp2
    go_round
    case rel =>
     refine ⟨m / 2, x ++ x, r ++ x, by omega, by go_num, rfl, rfl, fun h => ?_, ?_⟩
     ·
      rw [ByteArray.size_append, ByteArray.size_append]
      have := HB.out
      have e : m = 2 * (m / 2) + 1 := by omega
      rw [e, Nat.mul_add, Nat.mul_one, ← Nat.mul_assoc, Nat.mul_comm x.size 2, Nat.two_mul] at this
      omega
     ·
      rw [ByteArray.size_append]
      have := HB.out; have := HX.out; omega
    case measure => simp [intOf]; omega
   ·
    have hd : ((m : Int) % 2 == 1) = false := by simp; omega
    have y2 : ¬ (9223372036854775807 < x.size + x.size) := by omega
    go_wp2
    go_round
    case rel =>
     refine ⟨m / 2, x ++ x, r, by omega, by go_num, rfl, rfl, fun h => ?_, hr2⟩
     rw [ByteArray.size_append]
     have := HB.out
     have e : m = 2 * (m / 2) := by omega
     rw [e, ← Nat.mul_assoc, Nat.mul_comm x.size 2, Nat.two_mul] at this
     omega
    case measure => simp [intOf]; omega
  ·
   have hm0 : m = 0 := by omega
   subst hm0
   go_wp2
   go_ret
   exact ⟨r, rfl, hr2, rfl⟩
-- DRAWN
section
variable {w W : World} {g n c p K b : Nat} {A : Option Addr} {t : TypeId} {cs : Array Value} {a0 a1 : Value}
theorem dset1 (D : Dw g A n c p K w W) (hg : g < w.heap.size) (B : Blk W b t cs) (hb : w.heap.size ≤ b) (i : Nat) (u : Value) : ∃ V, W.setCell ⟨b, i, none⟩ u = V ∧ Blk V b t (cs.setIfInBounds i u) ∧ Dw g A n c p K w V ∧ (∀ b' t' cs', b' ≠ b → Blk W b' t' cs' → Blk V b' t' cs') :=
 ⟨_, rfl, B.set_ i u, D.set hb hg i u, fun b' t' cs' hne h => h.setOther hne u⟩
theorem dset2 (D : Dw g A n c p K w W) (hg : g < w.heap.size) (B : Blk W b t #[a0, a1]) (hb : w.heap.size ≤ b) (x y : Value) : ∃ V, (W.setCell ⟨b, 0, none⟩ x).setCell ⟨b, 1, none⟩ y = V ∧ Blk V b t #[x, y] ∧ Dw g A n c p K w V :=
 ⟨_, rfl, B.s2 x y, (D.set hb hg 0 x).set hb hg 1 y⟩
end
/-- what is drawn: some letter of a bounded size -/
def RetL (g : Nat) (A : Option Addr) (n c p K : Nat) (w : World) (e : Ending) (w' : World) : Prop := ∃ l : LE, e = .returned (.agg #[.string l.s, .string l.b]) ∧ l.s.size ≤ 2 ∧ l.b.size ≤ 10001 ∧ Dw g A n c p K w w'
set_option maxHeartbeats 4000000 in
theorem letter_d (g : Nat) (A : Option Addr) (n c p : Nat) (w : World) (h : Rdr w g A n c p) (hp : p ≤ 990000) :
  Calls Tryd.prog 32 #[.pointer (some ⟨g, 0, none⟩)] w (RetL g A n c p 6 w) := by
 have hgl := h.lt
 have D0 := Dw.refl h
 obtain ⟨V1, eV1, -, BR_n, hV1⟩ := al1 w rfl #[.string ⟨#[]⟩, .string ⟨#[]⟩] 24
 have D1 := D0.call hV1
 have z1 := D1.grown.size
 clear D0
 have qBR0 : V1.cell? ⟨w.heap.size, 0, none⟩ = some (.string ⟨#[]⟩) := BR_n.cell 0
 have qBR1 : V1.cell? ⟨w.heap.size, 1, none⟩ = some (.string ⟨#[]⟩) := BR_n.cell 1
 go_enter Tryd.func32, Tryd.ntmps32
 go_wp2_with fail
 clear qBR0 qBR1
 obtain ⟨q, hq1, hq2, hq⟩ := D1.rdr
 refine (of_d g A n c q V1.heap.size ssSg _ (hq.alloc _) (by omega) (by have := hq.lt; omega) (heap_alloc_new V1 _) 7 rfl (by omega) (by omega)).mono ?_
 rintro e w2 ⟨s, rfl, hs, hd2⟩
 have D2 : Dw g A n c p 1 w w2 := Dw.then_ (K := 0) (grown_alloc D1.grown _) hq1 hq2 hd2
 have BR_2 := (BR_n.alloc _).grown hd2.grown (by simp; omega)
 clear BR_n
 have z2 := D2.grown.size
 clear D1 hq1 hq2 hq hd2
 have qBR0 : w2.cell? ⟨w.heap.size, 0, none⟩ = some (.string ⟨#[]⟩) := BR_2.cell 0
 have qBR1 : w2.cell? ⟨w.heap.size, 1, none⟩ = some (.string ⟨#[]⟩) := BR_2.cell 1
 have hs2 := ssSg_s s hs
 clear hs
 go_wp2_with fail
 clear qBR0 qBR1
 obtain ⟨q, hq1, hq2, hq⟩ := D2.rdr
 refine (of_d g A n c q w2.heap.size ssBd _ (hq.alloc _) (by omega) (by have := hq.lt; omega) (heap_alloc_new w2 _) 7 rfl (by omega) (by omega)).mono ?_
 rintro e w3 ⟨t, rfl, ht, hd3⟩
 have D3 : Dw g A n c p 2 w w3 := Dw.then_ (K := 1) (grown_alloc D2.grown _) hq1 hq2 hd3
 have BR_3 := (BR_2.alloc _).grown hd3.grown (by simp; omega)
 clear BR_2
 have z3 := D3.grown.size
 clear D2 hq1 hq2 hq hd3
 have qBR0 : w3.cell? ⟨w.heap.size, 0, none⟩ = some (.string ⟨#[]⟩) := BR_3.cell 0
 have qBR1 : w3.cell? ⟨w.heap.size, 1, none⟩ = some (.string ⟨#[]⟩) := BR_3.cell 1
 have ht2 := ssBd_s t ht
 clear ht
 have lt3 := BR_3.lt
 clear qBR0 qBR1
 obtain ⟨V4, eV4, -, BL_n, hV4⟩ := al1 w3 rfl #[.string s, .string t] 24
 have D4 := D3.call hV4
 have BR_4 := BR_3.next hV4
 clear BR_3
 have z4 := D4.grown.size
 clear D3
 have qBR0 : V4.cell? ⟨w.heap.size, 0, none⟩ = some (.string ⟨#[]⟩) := BR_4.cell 0
 have qBR1 : V4.cell? ⟨w.heap.size, 1, none⟩ = some (.string ⟨#[]⟩) := BR_4.cell 1
 have qBL0 : V4.cell? ⟨w3.heap.size, 0, none⟩ = some (.string s) := BL_n.cell 0
 have qBL1 : V4.cell? ⟨w3.heap.size, 1, none⟩ = some (.string t) := BL_n.cell 1
 go_wp2_with fail
 clear qBR0 qBR1
 clear qBL0 qBL1
 obtain ⟨q, hq1, hq2, hq⟩ := D4.rdr
 refine (pick_d g A n c q 48 _ hq (by omega) (by omega) (by omega)).mono ?_
 rintro e w5 ⟨k, rfl, hk, hd5⟩
 have D5 : Dw g A n c p 3 w w5 := Dw.then_ (K := 2) D4.grown hq1 hq2 hd5
 have BR_5 := BR_4.grown hd5.grown (by simp; omega)
 clear BR_4
 have BL_5 := BL_n.grown hd5.grown (by simp; omega)
 clear BL_n
 have z5 := D5.grown.size
 clear D4 hq1 hq2 hq hd5
 have qBR0 : w5.cell? ⟨w.heap.size, 0, none⟩ = some (.string ⟨#[]⟩) := BR_5.cell 0
 have qBR1 : w5.cell? ⟨w.heap.size, 1, none⟩ = some (.string ⟨#[]⟩) := BR_5.cell 1
 have qBL0 : w5.cell? ⟨w3.heap.size, 0, none⟩ = some (.string s) := BL_5.cell 0
 have qBL1 : w5.cell? ⟨w3.heap.size, 1, none⟩ = some (.string t) := BL_5.cell 1
 by_cases k0 : k = 0
 ·
  have kk0 : ((k : Int) == 0) = true := by simp; omega
  go_wp2_with fail
  clear qBR0 qBR1
  clear qBL0 qBL1
  obtain ⟨q, hq1, hq2, hq⟩ := D5.rdr
  refine (of_d g A n c q w5.heap.size ssSgB _ (hq.alloc _) (by omega) (by have := hq.lt; omega) (heap_alloc_new w5 _) 4 rfl (by omega) (by omega)).mono ?_
  rintro e w6 ⟨s2, rfl, hs3, hd6⟩
  have D6 : Dw g A n c p 4 w w6 := Dw.then_ (K := 3) (grown_alloc D5.grown _) hq1 hq2 hd6
  have BR_6 := (BR_5.alloc _).grown hd6.grown (by simp; omega)
  clear BR_5
  have BL_6 := (BL_5.alloc _).grown hd6.grown (by simp; omega)
  clear BL_5
  have z6 := D6.grown.size
  clear D5 hq1 hq2 hq hd6
  have qBR0 : w6.cell? ⟨w.heap.size, 0, none⟩ = some (.string ⟨#[]⟩) := BR_6.cell 0
  have qBR1 : w6.cell? ⟨w.heap.size, 1, none⟩ = some (.string ⟨#[]⟩) := BR_6.cell 1
  have qBL0 : w6.cell? ⟨w3.heap.size, 0, none⟩ = some (.string s) := BL_6.cell 0
  have qBL1 : w6.cell? ⟨w3.heap.size, 1, none⟩ = some (.string t) := BL_6.cell 1
  have hs4 := ssSgB_s s2 hs3
  clear hs3
  clear qBR0 qBR1
  clear qBL0 qBL1
  have fL0 := BL_6.free 0
  have fR0 := BR_6.free 0
  have fL1 := BL_6.free 1
  have fR1 := BR_6.free 1
  have qBR0 : w6.cell? ⟨w.heap.size, 0, none⟩ = some (.string ⟨#[]⟩) := BR_6.cell 0
  have qBR1 : w6.cell? ⟨w.heap.size, 1, none⟩ = some (.string ⟨#[]⟩) := BR_6.cell 1
  have qBL0 : w6.cell? ⟨w3.heap.size, 0, none⟩ = some (.string s) := BL_6.cell 0
  have qBL1 : w6.cell? ⟨w3.heap.size, 1, none⟩ = some (.string t) := BL_6.cell 1
  obtain ⟨X1, eX1, BX, DX, OX⟩ := dset1 D6 hgl BL_6 (by omega) 0 (.string s2)
  have BY := OX _ _ _ (by omega) BR_6
  have x0 : X1.cell? ⟨w3.heap.size, 0, none⟩ = some (.string s2) := BX.cell 0
  have x1 : X1.cell? ⟨w3.heap.size, 1, none⟩ = some (.string t) := BX.cell 1
  have y0 := BY.c2
  have gg0 := BY.free 0
  have gg1 := BY.free 1
  obtain ⟨X2, eX2, BZ, DZ⟩ := dset2 DX hgl BY (by omega) (.string s2) (.string t)
  have d0 : X2.cell? ⟨w.heap.size, 0, none⟩ = some (.string s2) := BZ.cell 0
  have d1 : X2.cell? ⟨w.heap.size, 1, none⟩ = some (.string t) := BZ.cell 1
  go_wp2
  exact bodyPost_ret (v := .agg #[.string s2, .string t]) (by simp [results, Tryd.results32, go_sem, d0, d1]) rfl ⟨⟨s2, t⟩, rfl, hs4, (show t.size ≤ 10001 from by omega), DZ.more (by omega)⟩
 by_cases k1 : k = 1
 ·
  have kk0 : ((k : Int) == 0) = false := by simp; omega
  have kk1 : ((k : Int) == 1) = true := by simp; omega
  have y3 : ¬ (9223372036854775807 < t.size + 1) := by omega
  clear qBR0 qBR1
  clear qBL0 qBL1
  have fL0 := BL_5.free 0
  have fR0 := BR_5.free 0
  have fL1 := BL_5.free 1
  have fR1 := BR_5.free 1
  have qBR0 : w5.cell? ⟨w.heap.size, 0, none⟩ = some (.string ⟨#[]⟩) := BR_5.cell 0
  have qBR1 : w5.cell? ⟨w.heap.size, 1, none⟩ = some (.string ⟨#[]⟩) := BR_5.cell 1
  have qBL0 : w5.cell? ⟨w3.heap.size, 0, none⟩ = some (.string s) := BL_5.cell 0
  have qBL1 : w5.cell? ⟨w3.heap.size, 1, none⟩ = some (.string t) := BL_5.cell 1
  obtain ⟨X1, eX1, BX, DX, OX⟩ := dset1 D5 hgl BL_5 (by omega) 1 (.string (t ++ ⟨#[10]⟩))
  have BY := OX _ _ _ (by omega) BR_5
  have x0 : X1.cell? ⟨w3.heap.size, 0, none⟩ = some (.string s) := BX.cell 0
  have x1 : X1.cell? ⟨w3.heap.size, 1, none⟩ = some (.string (t ++ ⟨#[10]⟩)) := BX.cell 1
  have y0 := BY.c2
  have gg0 := BY.free 0
  have gg1 := BY.free 1
  obtain ⟨X2, eX2, BZ, DZ⟩ := dset2 DX hgl BY (by omega) (.string s) (.string (t ++ ⟨#[10]⟩))
  have d0 : X2.cell? ⟨w.heap.size, 0, none⟩ = some (.string s) := BZ.cell 0
  have d1 : X2.cell? ⟨w.heap.size, 1, none⟩ = some (.string (t ++ ⟨#[10]⟩)) := BZ.cell 1
  go_wp2
  exact bodyPost_ret (v := .agg #[.string s, .string (t ++ ⟨#[10]⟩)]) (by simp [results, Tryd.results32, go_sem, d0, d1]) rfl ⟨⟨s, (t ++ ⟨#[10]⟩)⟩, rfl, hs2, (by show (t ++ _).size ≤ 10001; rw [ByteArray.size_append]; show t.size + 1 ≤ 10001; omega), DZ.more (by omega)⟩
 by_cases k2 : k = 2
 ·
  have kk0 : ((k : Int) == 0) = false := by simp; omega
  have kk1 : ((k : Int) == 1) = false := by simp; omega
  have kk2 : ((k : Int) == 2) = true := by simp; omega
  go_wp2_with fail
  clear qBR0 qBR1
  clear qBL0 qBL1
  obtain ⟨q, hq1, hq2, hq⟩ := D5.rdr
  refine (pick_d g A n c q 2 _ hq (by omega) (by omega) (by omega)).mono ?_
  rintro e w6 ⟨m, rfl, hm, hd6⟩
  have D6 : Dw g A n c p 4 w w6 := Dw.then_ (K := 3) D5.grown hq1 hq2 hd6
  have BR_6 := BR_5.grown hd6.grown (by simp; omega)
  clear BR_5
  have BL_6 := BL_5.grown hd6.grown (by simp; omega)
  clear BL_5
  have z6 := D6.grown.size
  clear D5 hq1 hq2 hq hd6
  have qBR0 : w6.cell? ⟨w.heap.size, 0, none⟩ = some (.string ⟨#[]⟩) := BR_6.cell 0
  have qBR1 : w6.cell? ⟨w.heap.size, 1, none⟩ = some (.string ⟨#[]⟩) := BR_6.cell 1
  have qBL0 : w6.cell? ⟨w3.heap.size, 0, none⟩ = some (.string s) := BL_6.cell 0
  have qBL1 : w6.cell? ⟨w3.heap.size, 1, none⟩ = some (.string t) := BL_6.cell 1
  have em : ((40 + m : Nat) : Int) = 40 + (m : Int) := by omega
  have hmany := fun W => many_c ⟨#[120]⟩ (40 + m) W (by decide) (by omega)
  simp only [em] at hmany
  clear em
  go_wp2_with fail
  refine (hmany _).mono ?_
  rintro e wm ⟨r, rfl, hr, rfl⟩
  clear qBR0 qBR1
  clear qBL0 qBL1
  have fL0 := BL_6.free 0
  have fR0 := BR_6.free 0
  have fL1 := BL_6.free 1
  have fR1 := BR_6.free 1
  have qBR0 : w6.cell? ⟨w.heap.size, 0, none⟩ = some (.string ⟨#[]⟩) := BR_6.cell 0
  have qBR1 : w6.cell? ⟨w.heap.size, 1, none⟩ = some (.string ⟨#[]⟩) := BR_6.cell 1
  have qBL0 : w6.cell? ⟨w3.heap.size, 0, none⟩ = some (.string s) := BL_6.cell 0
  have qBL1 : w6.cell? ⟨w3.heap.size, 1, none⟩ = some (.string t) := BL_6.cell 1
  obtain ⟨X1, eX1, BX, DX, OX⟩ := dset1 D6 hgl BL_6 (by omega) 1 (.string r)
  have BY := OX _ _ _ (by omega) BR_6
  have x0 : X1.cell? ⟨w3.heap.size, 0, none⟩ = some (.string s) := BX.cell 0
  have x1 : X1.cell? ⟨w3.heap.size, 1, none⟩ = some (.string r) := BX.cell 1
  have y0 := BY.c2
  have gg0 := BY.free 0
  have gg1 := BY.free 1
  obtain ⟨X2, eX2, BZ, DZ⟩ := dset2 DX hgl BY (by omega) (.string s) (.string r)
  have d0 : X2.cell? ⟨w.heap.size, 0, none⟩ = some (.string s) := BZ.cell 0
  have d1 : X2.cell? ⟨w.heap.size, 1, none⟩ = some (.string r) := BZ.cell 1
  go_wp2
  exact bodyPost_ret (v := .agg #[.string s, .string r]) (by simp [results, Tryd.results32, go_sem, d0, d1]) rfl ⟨⟨s, r⟩, rfl, hs2, (show r.size ≤ 10001 from by omega), DZ.more (by omega)⟩
 by_cases k3 : k = 3
 ·
  have kk0 : ((k : Int) == 0) = false := by simp; omega
  have kk1 : ((k : Int) == 1) = false := by simp; omega
  have kk2 : ((k : Int) == 2) = false := by simp; omega
  have kk3 : ((k : Int) == 3) = true := by simp; omega
  have y3 : ¬ (9223372036854775807 < 1 + t.size) := by omega
  clear qBR0 qBR1
  clear qBL0 qBL1
  have fL0 := BL_5.free 0
  have fR0 := BR_5.free 0
  have fL1 := BL_5.free 1
  have fR1 := BR_5.free 1
  have qBR0 : w5.cell? ⟨w.heap.size, 0, none⟩ = some (.string ⟨#[]⟩) := BR_5.cell 0
  have qBR1 : w5.cell? ⟨w.heap.size, 1, none⟩ = some (.string ⟨#[]⟩) := BR_5.cell 1
  have qBL0 : w5.cell? ⟨w3.heap.size, 0, none⟩ = some (.string s) := BL_5.cell 0
  have qBL1 : w5.cell? ⟨w3.heap.size, 1, none⟩ = some (.string t) := BL_5.cell 1
  obtain ⟨X1, eX1, BX, DX, OX⟩ := dset1 D5 hgl BL_5 (by omega) 1 (.string ((⟨#[127]⟩ : ByteArray) ++ t))
  have BY := OX _ _ _ (by omega) BR_5
  have x0 : X1.cell? ⟨w3.heap.size, 0, none⟩ = some (.string s) := BX.cell 0
  have x1 : X1.cell? ⟨w3.heap.size, 1, none⟩ = some (.string ((⟨#[127]⟩ : ByteArray) ++ t)) := BX.cell 1
  have y0 := BY.c2
  have gg0 := BY.free 0
  have gg1 := BY.free 1
  obtain ⟨X2, eX2, BZ, DZ⟩ := dset2 DX hgl BY (by omega) (.string s) (.string ((⟨#[127]⟩ : ByteArray) ++ t))
  have d0 : X2.cell? ⟨w.heap.size, 0, none⟩ = some (.string s) := BZ.cell 0
  have d1 : X2.cell? ⟨w.heap.size, 1, none⟩ = some (.string ((⟨#[127]⟩ : ByteArray) ++ t)) := BZ.cell 1
  go_wp2
  exact bodyPost_ret (v := .agg #[.string s, .string ((⟨#[127]⟩ : ByteArray) ++ t)]) (by simp [results, Tryd.results32, go_sem, d0, d1]) rfl ⟨⟨s, ((⟨#[127]⟩ : ByteArray) ++ t)⟩, rfl, hs2, (by show (_ ++ t).size ≤ 10001; rw [ByteArray.size_append]; show 1 + t.size ≤ 10001; omega), DZ.more (by omega)⟩
 ·
  have kk0 : ((k : Int) == 0) = false := by simp; omega
  have kk1 : ((k : Int) == 1) = false := by simp; omega
  have kk2 : ((k : Int) == 2) = false := by simp; omega
  have kk3 : ((k : Int) == 3) = false := by simp; omega
  clear qBR0 qBR1
  clear qBL0 qBL1
  have fL0 := BL_5.free 0
  have fR0 := BR_5.free 0
  have fL1 := BL_5.free 1
  have fR1 := BR_5.free 1
  have qBR0 : w5.cell? ⟨w.heap.size, 0, none⟩ = some (.string ⟨#[]⟩) := BR_5.cell 0
  have qBR1 : w5.cell? ⟨w.heap.size, 1, none⟩ = some (.string ⟨#[]⟩) := BR_5.cell 1
  have qBL0 : w5.cell? ⟨w3.heap.size, 0, none⟩ = some (.string s) := BL_5.cell 0
  have qBL1 : w5.cell? ⟨w3.heap.size, 1, none⟩ = some (.string t) := BL_5.cell 1
  have BY := BR_5
  have DX := D5
  have y0 := BY.c2
  have gg0 := BY.free 0
  have gg1 := BY.free 1
  obtain ⟨X2, eX2, BZ, DZ⟩ := dset2 DX hgl BY (by omega) (.string s) (.string t)
  have d0 : X2.cell? ⟨w.heap.size, 0, none⟩ = some (.string s) := BZ.cell 0
  have d1 : X2.cell? ⟨w.heap.size, 1, none⟩ = some (.string t) := BZ.cell 1
  go_wp2
  exact bodyPost_ret (v := .agg #[.string s, .string t]) (by simp [results, Tryd.results32, go_sem, d0, d1]) rfl ⟨⟨s, t⟩, rfl, hs2, (show t.size ≤ 10001 from by omega), DZ.more (by omega)⟩
end Go.Proofs.YtilcncnhkidndaaDoor
