/- What one asks is drawn. -/
import Derived.Test.YtjgfbcmgnjgapaaDoorAkS
import Derived.Test.YtjgfbcmgnjgapaaDoorA4
import Derived.Deep.DeepCutAuto
namespace Go.Proofs.YtjgfbcmgnjgapaaDoor
open Go.RowKit
set_option linter.unusedVariables false
set_option maxRecDepth 100000

set_option maxRecDepth 100000
/-- a reader is opened at the code's beginning -/
def Opened (A : Option Addr) (c : Nat) (w : World) (e : Ending) (w' : World) : Prop := ∃ m, e = .returned (.pointer (some ⟨w.heap.size, 0, none⟩)) ∧ Rdr w' w.heap.size A m c 0 ∧ Below w.heap.size w w'
set_option maxHeartbeats 1000000 in
theorem open_d (A : Option Addr) (n c : Nat) (w : World) (hc : n ≤ c) (hcm : c ≤ maxLen) (hr : RdB w w.heap.size A n) :
  Calls Tryd.prog 30 #[.slice A n c] w (Opened A c w) := by
 unfold maxLen at hcm
 by_cases hn : n ≤ 2000
 ·
  have hn1 : ¬ ((2000 : Int) < (n : Int)) := by omega
  go_enter Tryd.func30, Tryd.ntmps30
  go_wp2
  go_ret
  refine ⟨n, rfl, ⟨heap_alloc_new _ _, hn, fun i hi => ?_⟩, below_alloc (Below.refl _ _) _⟩
  obtain ⟨b, o, z, e, hb, h1, h2⟩ := hr i hi
  exact ⟨b, o, z, e, hb, (World.cell?_alloc_lt w _ ⟨b, o + i, none⟩ hb).trans h1, h2⟩
 ·
  have hn1 : ((2000 : Int) < (n : Int)) := by omega
  have hc1 : ((2000 : Int) ≤ (c : Int)) := by omega
  go_enter Tryd.func30, Tryd.ntmps30
  go_wp2
  go_ret
  refine ⟨2000, rfl, ⟨heap_alloc_new _ _, Nat.le_refl _, fun i hi => ?_⟩, below_alloc (Below.refl _ _) _⟩
  obtain ⟨b, o, z, e, hb, h1, h2⟩ := hr i (by omega)
  exact ⟨b, o, z, e, hb, (World.cell?_alloc_lt w _ ⟨b, o + i, none⟩ hb).trans h1, h2⟩
section
variable {w w1 w2 : World} {g n c p K K' b : Nat} {A : Option Addr}
theorem Rdr.low (h : Rdr w g A n c p) (hb : Below (g + 1) w w1) : Rdr w1 g A n c p :=
 ⟨h.blk.below hb (by omega), h.len, fun i hi => by
  obtain ⟨b, o, z, e, hbb, hc, hz⟩ := h.bytes i hi
  exact ⟨b, o, z, e, hbb, (hb.cell (p := ⟨b, o + i, none⟩) (by show b < g + 1; omega)).trans hc, hz⟩⟩
theorem Dw.set (h : Dw g A n c p K w w1) (hb : w.heap.size ≤ b) (hg : g < w.heap.size) (i : Nat) (u : Value) : Dw g A n c p K w (w1.setCell ⟨b, i, none⟩ u) := by
 obtain ⟨q, h1, h2, h3⟩ := h.rdr
 refine ⟨⟨h.grown.os, h.grown.tape, h.grown.output, by simpa [World.setCell] using h.grown.size, fun k hk hne => (Below.heap_setCell w1 ⟨b, i, none⟩ u k (by show k ≠ b; omega)).trans (h.grown.block k hk hne)⟩, q, h1, h2, h3.low ?_⟩
 exact Below.setCell (Below.refl _ _) (by show g + 1 ≤ b; omega) _
/-- a step further -/
theorem Dw.step (h : Dw g A n c p K w w1) (k : ∀ q, p ≤ q → q ≤ p + K → Rdr w1 g A n c q → Dw g A n c q K' w1 w2) : Dw g A n c p (K + K') w w2 := by
 obtain ⟨q, h1, h2, h3⟩ := h.rdr
 exact Dw.then_ h.grown h1 h2 (k q h1 h2 h3)
end
set_option maxRecDepth 100000
theorem Dw.own {w w1 w2 : World} {g n c p K : Nat} {A : Option Addr} (h : Dw g A n c p K w w1) (hg : g < w.heap.size) (hb : Below w.heap.size w1 w2) : Dw g A n c p K w w2 := by
 obtain ⟨q, h1, h2, h3⟩ := h.rdr
 exact ⟨⟨hb.os.trans h.grown.os, hb.tape.trans h.grown.tape, hb.output.trans h.grown.output, Nat.le_trans h.grown.size hb.size, fun k hk hne => (hb.block k hk).trans (h.grown.block k hk hne)⟩, q, h1, h2, h3.low (hb.mono (by omega))⟩
set_option maxRecDepth 100000 in
set_option maxHeartbeats 1000000 in
theorem near_d (g : Nat) (A : Option Addr) (n c p : Nat) (A' : Option Addr) (c' : Nat) (l : List R) (w : World) (h : Rdr w g A n c p) (hp : p ≤ 999000) (hfit : FitR l) (hl : l.length ≤ 1000) (base : Nat) (hg : g < base) (hown : OwnR w base (.slice A' l.length c') l) :
  Calls Tryd.prog 45 #[.pointer (some ⟨g, 0, none⟩), .slice A' l.length c'] w fun e w' => ∃ s, e = .returned (.string s) ∧ s.size ≤ maxLen ∧ Dw g A n c p 3 w w' := by
 have hd0 := Dw.refl h
 by_cases h0 : 0 < l.length
 ·
  have h01 : (0 : Int) < (l.length : Int) := by omega
  go_enter Tryd.func45, Tryd.ntmps45
  go_wp2_with fail
  refine (pick_d g A n c p 2 w h (by omega) (by omega) (by omega)).mono ?_
  rintro e w1 ⟨k, rfl, hk, hd1⟩
  obtain ⟨q1, h11, h12, hq1⟩ := hd1.rdr
  have hown1 := hown.drawn hg hd1.grown
  by_cases hk0 : k = 0
  ·
   have s0 : ((k : Int) == 0) = true := beq_iff_eq.2 (by omega)
   have K0 := Lib.hid hk0
   clear hk0
   go_wp2_with fail
   refine (pick_d g A n c q1 l.length w1 hq1 (by omega) (by omega) (by omega)).mono ?_
   rintro e w2 ⟨j, rfl, hj, hd2⟩
   obtain ⟨q2, h21, h22, hq2⟩ := hd2.rdr
   have hown2 := hown1.drawn hg hd2.grown
   obtain ⟨A2, c2, ev, _, _, hrd⟩ := hown2.read
   injection ev with ev1 ev2 ev3
   subst ev1 ev3
   obtain ⟨b, o, rfl, hbB, hc1, hc2⟩ := hrd.at_ hj
   have hf := (hfit _ (List.getElem_mem hj)).1
   have hi1 : (j : Int) < (l.length : Int) := by omega
   go_wp2
   go_ret
   exact ⟨_, rfl, hf, (Dw.then_ (K := 1) hd1.grown h11 h12 hd2).more (by omega)⟩
  ·
   have s0 : ((k : Int) == 0) = false := beq_eq_false_iff_ne.2 (by omega)
   go_wp2_with fail
   refine (key_d g A n c q1 w1 hq1 (by omega)).mono ?_
   rintro e w2 ⟨s, rfl, hs, hd2⟩
   go_wp2
   go_ret
   exact ⟨s, rfl, by unfold maxLen; omega, (Dw.then_ (K := 1) hd1.grown h11 h12 hd2).more (by omega)⟩
 ·
  have h01 : decide ((0 : Int) < (l.length : Int)) = false := decide_eq_false (by omega)
  have h02 : decide (0 < l.length) = false := decide_eq_false (by omega)
  go_enter Tryd.func45, Tryd.ntmps45
  go_wp2_with fail
  refine (key_d g A n c p w h (by omega)).mono ?_
  rintro e w2 ⟨s, rfl, hs, hd2⟩
  go_wp2
  go_ret
  exact ⟨s, rfl, by unfold maxLen; omega, hd2.more (by omega)⟩
theorem Blk.drawn {w w' : World} {b g : Nat} {t : TypeId} {cs : Array Value} (h : Blk w b t cs) (hg : b ≠ g) (hd : w.grownBy w' (some g)) : Blk w' b t cs := h.grown hd (fun e => hg (Option.some.inj e))
theorem rdr_same {w : World} {g : Nat} {A : Option Addr} {n c s s' : Nat} (h : Rdr w g A n c s) (h' : Rdr w g A n c s') : s = s' := by
 have e := h.blk.symm.trans h'.blk
 simp only [Option.some.injEq, Obj.cells.injEq] at e
 have e1 := congrArg Array.toList e.1
 simp at e1
 omega
theorem Dw.rlt {w w1 : World} {g n c p K : Nat} {A : Option Addr} (h : Dw g A n c p K w w1) : g + 1 ≤ w1.heap.size := by
 obtain ⟨q, -, -, hq⟩ := h.rdr
 exact hq.lt
section
variable {W W' : World} {g : Nat} {t : TypeId} {a b c d : Value}
theorem d3z (B : Blk W g t #[a, b, c, d]) : ∃ U, ((W.setCell ⟨g, 1, none⟩ b).setCell ⟨g, 2, none⟩ c).setCell ⟨g, 3, none⟩ d = U ∧ Blk U g t #[a, b, c, d] ∧ Chg (fun k => k = g) W U :=
 ⟨_, rfl, ((B.set_ 1 b).set_ 2 c).set_ 3 d, (((Chg.refl _ _).st _ b).st _ c).st _ d⟩
theorem d4 (B : Blk W g t #[a, b, c, d]) (x y z u : Value) : ∃ U, (((W.setCell ⟨g, 0, none⟩ x).setCell ⟨g, 1, none⟩ y).setCell ⟨g, 2, none⟩ z).setCell ⟨g, 3, none⟩ u = U ∧ Blk U g t #[x, y, z, u] ∧ Chg (fun k => k = g) W U :=
 ⟨_, rfl, B.s4 x y z u, chg_s4 W g x y z u⟩
theorem d0 (B : Blk W g t #[a, b, c, d]) (x : Value) : ∃ U, W.setCell ⟨g, 0, none⟩ x = U ∧ Blk U g t #[x, b, c, d] ∧ Chg (fun k => k = g) W U := ⟨_, rfl, B.set_ 0 x, (Chg.refl _ _).st _ x⟩
theorem d1 (B : Blk W g t #[a, b, c, d]) (x : Value) : ∃ U, W.setCell ⟨g, 1, none⟩ x = U ∧ Blk U g t #[a, x, c, d] ∧ Chg (fun k => k = g) W U := ⟨_, rfl, B.set_ 1 x, (Chg.refl _ _).st _ x⟩
theorem d2 (B : Blk W g t #[a, b, c, d]) (x : Value) : ∃ U, W.setCell ⟨g, 2, none⟩ x = U ∧ Blk U g t #[a, b, x, d] ∧ Chg (fun k => k = g) W U := ⟨_, rfl, B.set_ 2 x, (Chg.refl _ _).st _ x⟩
theorem d3 (B : Blk W g t #[a, b, c, d]) (x : Value) : ∃ U, W.setCell ⟨g, 3, none⟩ x = U ∧ Blk U g t #[a, b, c, x] ∧ Chg (fun k => k = g) W U := ⟨_, rfl, B.set_ 3 x, (Chg.refl _ _).st _ x⟩
end
def zsKind : List Int := [1, 1, 2, 3, 4, 4, 4, 5, 5, 6, 7, 7, 8, 8, 9]
theorem zsKind_in : ∀ z ∈ zsKind, 1 ≤ z ∧ z ≤ 9 := by
 intro z hz
 simp only [zsKind, List.mem_cons, List.not_mem_nil, or_false] at hz
 omega
def zsNone : List Int := [0, 10, -1]
theorem zsNone_in : ∀ z ∈ zsNone, -1 ≤ z ∧ z ≤ 10 := by
 intro z hz
 simp only [zsNone, List.mem_cons, List.not_mem_nil, or_false] at hz
 omega
def ssHi : List ByteArray := [⟨#[122]⟩, ⟨#[99]⟩, ⟨#[122, 122]⟩, ⟨#[98]⟩, ⟨#[97]⟩]
theorem ssHi_s : ∀ s ∈ ssHi, s.size ≤ 2 := by
 intro s hs
 simp only [ssHi, List.mem_cons, List.not_mem_nil, or_false] at hs
 rcases hs with rfl | rfl | rfl | rfl | rfl <;> decide
def ssAsk : List ByteArray := [⟨#[]⟩, ⟨#[32]⟩, ⟨#[48]⟩, ⟨#[45]⟩, ⟨#[49]⟩, ⟨#[97]⟩, ⟨#[65]⟩, ⟨#[98]⟩]
theorem ssAsk_s : ∀ s ∈ ssAsk, s.size ≤ 1 := by
 intro s hs
 simp only [ssAsk, List.mem_cons, List.not_mem_nil, or_false] at hs
 rcases hs with rfl | rfl | rfl | rfl | rfl | rfl | rfl | rfl <;> decide
/-- a statement lies at a while it is drawn; r is the result's cell -/
def StD (g : Nat) (A : Option Addr) (n c p K a r : Nat) (w : World) (q : Q4) (V : World) : Prop :=
 Blk V a 24 #[.int .i64 q.kind, .string q.key, .string q.hi, .int .i64 q.num] ∧ FitQ q ∧ Blk V r 24 #[.int .i64 0, .string ⟨#[]⟩, .string ⟨#[]⟩, .int .i64 0] ∧ Dw g A n c p K w V
section
variable {g n c p K K' a r : Nat} {A : Option Addr} {w V V' : World} {q q' : Q4}
theorem StD.call (h : StD g A n c p K a r w q V) (hag : a ≠ g) (hrg : r ≠ g) (k : ∀ s, p ≤ s → s ≤ p + K → Rdr V g A n c s → Dw g A n c s K' V V') : StD g A n c p (K + K') a r w q V' := by
 obtain ⟨h1, h2, h3, h4⟩ := h
 obtain ⟨s, s1, s2, s3⟩ := h4.rdr
 have hd := k s s1 s2 s3
 exact ⟨h1.drawn hag hd.grown, h2, h3.drawn hrg hd.grown, Dw.step h4 k⟩
theorem StD.next (h : StD g A n c p K a r w q V) (hg : g < w.heap.size) (hb : Below V.heap.size V V') : StD g A n c p K a r w q V' :=
 ⟨h.1.next hb, h.2.1, h.2.2.1.next hb, h.2.2.2.own hg (hb.mono h.2.2.2.grown.size)⟩
theorem StD.set (h : StD g A n c p K a r w q V) (hg : g < w.heap.size) (hwa : w.heap.size ≤ a) (hra : r ≠ a) (hA : Blk V' a 24 #[.int .i64 q'.kind, .string q'.key, .string q'.hi, .int .i64 q'.num]) (hf : FitQ q') (hc : Chg (fun k => k = a) V V') : StD g A n c p K a r w q' V' :=
 ⟨hA, hf, h.2.2.1.chg1 hc hra, h.2.2.2.own hg (hc.toBelow h.2.2.2.grown.size fun k hk => by rw [hk]; exact hwa)⟩
end
def RetQd (g : Nat) (A : Option Addr) (n c p K : Nat) (w : World) (e : Ending) (w' : World) : Prop := ∃ q : Q4, e = .returned (.agg #[.int .i64 q.kind, .string q.key, .string q.hi, .int .i64 q.num]) ∧ FitQ q ∧ Dw g A n c p K w w'
theorem fit_z {z : Int} (hz : 1 ≤ z ∧ z ≤ 9) : FitQ ⟨z, ⟨#[]⟩, ⟨#[]⟩, 0⟩ := by
 have e : (⟨#[]⟩ : ByteArray).size = 0 := rfl
 unfold FitQ FitI maxLen
 dsimp only
 omega
theorem fit_kind {q : Q4} {z : Int} (h : FitQ q) (hz : -1 ≤ z ∧ z ≤ 10) : FitQ ⟨z, q.key, q.hi, q.num⟩ := ⟨by unfold FitI; dsimp only; omega, h.2.1, h.2.2.1, h.2.2.2⟩
theorem fit_key {q : Q4} {s : ByteArray} (h : FitQ q) (hs : s.size ≤ maxLen) : FitQ ⟨q.kind, s, q.hi, q.num⟩ := ⟨h.1, hs, h.2.2.1, h.2.2.2⟩
theorem fit_hi {q : Q4} {s : ByteArray} (h : FitQ q) (hs : s.size ≤ 2) : FitQ ⟨q.kind, q.key, s, q.num⟩ := ⟨h.1, h.2.1, by show s.size ≤ maxLen; unfold maxLen; omega, h.2.2.2⟩
theorem fit_num {q : Q4} {z : Int} (h : FitQ q) (hz : FitI z) : FitQ ⟨q.kind, q.key, q.hi, z⟩ := ⟨h.1, h.2.1, h.2.2.1, hz⟩
set_option maxHeartbeats 16000000 in
theorem ask_d (g : Nat) (A : Option Addr) (n c p : Nat) (A' : Option Addr) (c' : Nat) (l : List R) (w : World) (h : Rdr w g A n c p) (hp : p ≤ 900000) (hfit : FitR l) (hl : l.length ≤ 1000) (base : Nat) (hgb : g < base) (hown : OwnR w base (.slice A' l.length c') l) :
  Calls Tryd.prog 31 #[.pointer (some ⟨g, 0, none⟩), .slice A' l.length c'] w (RetQd g A n c p 20 w) := by
 have hgl := h.lt
 obtain ⟨u1, e1, -, R1, hb1⟩ := al1 w rfl #[.int .i64 0, .string ⟨#[]⟩, .string ⟨#[]⟩, .int .i64 0] 24
 obtain ⟨r, hr⟩ : ∃ r, w.heap.size = r := ⟨_, rfl⟩
 have hrl := R1.lt
 rw [hr] at R1 hrl
 obtain ⟨u2, e2, -, N2, hb2⟩ := al1 u1 rfl #[.int .i64 1, .int .i64 1, .int .i64 2, .int .i64 3, .int .i64 4, .int .i64 4, .int .i64 4, .int .i64 5, .int .i64 5, .int .i64 6, .int .i64 7, .int .i64 7, .int .i64 8, .int .i64 8, .int .i64 9] 3
 have R2 := R1.next hb2
 have hw2 := below_next hb1 hb2
 have hq2 : Rdr u2 g A n c p := h.low (hw2.mono (by omega))
 have D2 : Dw g A n c p 0 w u2 := (Dw.refl h).own hgl hw2
 have NM := Lib.hid (num_d g A n c p u1.heap.size zsKind u2 hq2 (by omega) (by omega) N2 15 rfl (by omega) (by omega))
 clear N2
 go_enter Tryd.func31, Tryd.ntmps31
 go_wp2_with fail
 refine NM.out.mono ?_
 rintro e u3 ⟨z, rfl, hz, hd3⟩
 clear NM e1 e2
 have hz9 := zsKind_in z hz
 have R3 := R2.drawn (by omega) hd3.grown
 have D3 : Dw g A n c p (0 + 1) w u3 := by
  obtain ⟨s, s1, s2, s3⟩ := hd3.rdr
  exact ⟨D2.grown.trans hd3.grown, s, by omega, by omega, s3⟩
 have hs3 : r < u3.heap.size := R3.lt
 obtain ⟨a, ha⟩ : ∃ a, u3.heap.size = a := ⟨_, rfl⟩
 obtain ⟨u4, e4, -, A4, hb4⟩ := al1 u3 ha #[.int .i64 z, .string ⟨#[]⟩, .string ⟨#[]⟩, .int .i64 0] 24
 obtain ⟨u5, e5, A5, hc5⟩ := d3z A4
 have hra : r < a := by omega
 have hwa : w.heap.size ≤ a := by omega
 have ST4 : StD g A n c p 1 a r w ⟨z, ⟨#[]⟩, ⟨#[]⟩, 0⟩ u4 := ⟨A4, fit_z hz9, R3.next hb4, D3.own hgl (hb4.mono D3.grown.size)⟩
 have ST := Lib.hid (ST4.set (q' := ⟨z, ⟨#[]⟩, ⟨#[]⟩, 0⟩) hgl hwa (by omega) A5 ST4.2.1 hc5)
 have c4 := A4.c4
 have c4f := A4.fz
 have c4a := c4f 1
 have c4b := c4f 2
 have c4c := c4f 3
 have c5 := A5.c4
 have hO := Lib.hid hown
 have OW : Hid (∀ V, Dw g A n c p 1 w V → OwnR V base (.slice A' l.length c') l) := Lib.hid (fun V hV => hown.drawn hgb hV.grown)
 obtain ⟨KK, HK, NK, HS⟩ : ∃ a b c, Hid (keyK z = a ∧ hiK z = b ∧ numK z = c) := ⟨_, _, _, Lib.hid ⟨rfl, rfl, rfl⟩⟩
 have HSH := Lib.hid (fun V => shape_c z V)
 rw [HS.out.1, HS.out.2.1, HS.out.2.2] at HSH
 clear c4f hown R1 R2 R3 A4 A5 ST4 hb1 hb2 hb4 hw2 hq2 D2 D3 hd3 hc5
 go_wp2_with fail
 clear c4 c4a c4b c4c c5 e4 e5 ha
 refine (HSH.out _).mono ?_
 rintro e wc ⟨rfl, hb6⟩
 replace ST := Lib.hid (show ∃ q, StD g A n c p 1 a r w q wc from ⟨_, ST.out.next hgl hb6⟩)
 clear hb6
 go_upto_if 20 with fail
 go_cut [6] (fun z V => z = .bool KK ∧ ∃ q, StD g A n c p 4 a r w q V)
 case first =>
  obtain ⟨q, hST⟩ := ST.out
  cases KK
  ·
   have hS2 := Lib.hid (show StD g A n c p 4 a r w q wc from ⟨hST.1, hST.2.1, hST.2.2.1, hST.2.2.2.more (by omega)⟩)
   clear hST
   go_wp2
   go_meet
   exact ⟨rfl, q, hS2.out⟩
  ·
   obtain ⟨qk, qx, qy, qn⟩ := q
   obtain ⟨s, s1, s2, s3⟩ := hST.2.2.2.rdr
   have hS := Lib.hid hST
   have hag : a ≠ g := by omega
   have hrg : r ≠ g := by omega
   have HCL := Lib.hid (near_d g A n c s A' c' l wc s3 (by omega) hfit hl base hgb (OW.out wc hST.2.2.2))
   clear hST
   go_wp2_with fail
   refine HCL.out.mono ?_
   rintro e u7 ⟨x, rfl, hx, hd7⟩
   have hS7 := hS.out.call hag hrg (K' := 3) (fun s' a1 a2 a3 => by
    obtain ⟨s'', b1, b2, b3⟩ := hd7.rdr
    have : s' = s := rdr_same a3 s3
    subst this
    exact hd7)
   obtain ⟨U, eU, AU, hcU⟩ := d1 hS7.1 (.string x)
   have hSU := Lib.hid (hS7.set (q' := ⟨qk, x, qy, qn⟩) hgl hwa (by omega) AU (fit_key hS7.2.1 hx) hcU)
   have c7 := hS7.1.c4
   have f7 := hS7.1.free 1
   clear HCL hS7 AU hcU s1 s2 s3
   go_wp2
   go_meet
   exact ⟨rfl, _, hSU.out⟩
 case rest =>
  obtain ⟨rfl, hq⟩ := hcut
  replace ST := Lib.hid hq
  clear hq
  go_upto_if 25 with fail
  go_cut [7] (fun z V => z = .bool HK ∧ ∃ q, StD g A n c p 5 a r w q V)
  case first =>
   obtain ⟨q, hST⟩ := ST.out
   cases HK
   ·
    have hS2 := Lib.hid (show StD g A n c p 5 a r w q wc from ⟨hST.1, hST.2.1, hST.2.2.1, hST.2.2.2.more (by omega)⟩)
    clear hST
    go_wp2
    go_meet
    exact ⟨rfl, q, hS2.out⟩
   ·
    obtain ⟨qk, qx, qy, qn⟩ := q
    obtain ⟨s, s1, s2, s3⟩ := hST.2.2.2.rdr
    have hS := Lib.hid hST
    have hag : a ≠ g := by omega
    have hrg : r ≠ g := by omega
    obtain ⟨uN, eN, -, NN, hbN⟩ := al1 wc rfl #[.string ⟨#[122]⟩, .string ⟨#[99]⟩, .string ⟨#[122, 122]⟩, .string ⟨#[98]⟩, .string ⟨#[97]⟩] 9
    have hSN := hST.next hgl hbN
    have HCL := Lib.hid (of_d g A n c s wc.heap.size ssHi uN (s3.low (hbN.mono hST.2.2.2.rlt)) (by omega) (by have := hST.2.2.2.rlt; omega) NN 5 rfl (by omega) (by omega))
    go_wp2_with fail
    refine HCL.out.mono ?_
    rintro e u7 ⟨x, rfl, hx, hd7⟩
    have hS7 := hSN.call hag hrg (K' := 1) (fun s' a1 a2 a3 => by
     obtain ⟨s'', b1, b2, b3⟩ := hd7.rdr
     have : s' = s := rdr_same a3 (s3.low (hbN.mono hST.2.2.2.rlt))
     subst this
     exact hd7)
    obtain ⟨U, eU, AU, hcU⟩ := d2 hS7.1 (.string x)
    have hSU := Lib.hid (hS7.set (q' := ⟨qk, qx, x, qn⟩) hgl hwa (by omega) AU (fit_hi hS7.2.1 (ssHi_s x hx)) hcU)
    have c7 := hS7.1.c4
    have f7 := hS7.1.free 2
    clear HCL hS7 AU hcU s1 s2 s3 hST hSN
    go_wp2
    go_meet
    exact ⟨rfl, _, hSU.out⟩
  case rest =>
   obtain ⟨rfl, hq⟩ := hcut
   replace ST := Lib.hid hq
   clear hq
   go_upto_if 30 with fail
   go_cut [8] (fun z V => z = .bool NK ∧ ∃ q, StD g A n c p 7 a r w q V)
   case first =>
    obtain ⟨q, hST⟩ := ST.out
    cases NK
    ·
     have hS2 := Lib.hid (show StD g A n c p 7 a r w q wc from ⟨hST.1, hST.2.1, hST.2.2.1, hST.2.2.2.more (by omega)⟩)
     clear hST
     go_wp2
     go_meet
     exact ⟨rfl, q, hS2.out⟩
    ·
     obtain ⟨qk, qx, qy, qn⟩ := q
     obtain ⟨s, s1, s2, s3⟩ := hST.2.2.2.rdr
     have hS := Lib.hid hST
     have hag : a ≠ g := by omega
     have hrg : r ≠ g := by omega
     have HCL := Lib.hid (value_d g A n c s wc s3 (by omega))
     clear hST
     go_wp2_with fail
     refine HCL.out.mono ?_
     rintro e u7 ⟨x, rfl, hx, hd7⟩
     have hS7 := hS.out.call hag hrg (K' := 2) (fun s' a1 a2 a3 => by
      obtain ⟨s'', b1, b2, b3⟩ := hd7.rdr
      have : s' = s := rdr_same a3 s3
      subst this
      exact hd7)
     obtain ⟨U, eU, AU, hcU⟩ := d3 hS7.1 (.int .i64 x)
     have hSU := Lib.hid (hS7.set (q' := ⟨qk, qx, qy, x⟩) hgl hwa (by omega) AU (fit_num hS7.2.1 hx) hcU)
     have c7 := hS7.1.c4
     have f7 := hS7.1.free 3
     clear HCL hS7 AU hcU s1 s2 s3
     go_wp2
     go_meet
     exact ⟨rfl, _, hSU.out⟩
   case rest =>
    obtain ⟨rfl, hq⟩ := hcut
    replace ST := Lib.hid hq
    clear hq
    obtain ⟨q, hST⟩ := ST.out
    obtain ⟨qk, qx, qy, qn⟩ := q
    obtain ⟨s, s1, s2, s3⟩ := hST.2.2.2.rdr
    have hS := Lib.hid hST
    have hag : a ≠ g := by omega
    have hrg : r ≠ g := by omega
    have HPK := Lib.hid (pick_d g A n c s 64 wc s3 (by omega) (by omega) (by omega))
    clear hST
    go_wp2_with fail
    refine HPK.out.mono ?_
    rintro e u8 ⟨k, rfl, hk, hd8⟩
    have S8 := hS.out.call hag hrg (K' := 1) (fun s' a1 a2 a3 => by
     have : s' = s := rdr_same a3 s3
     subst this
     exact hd8)
    clear HPK s1 s2 s3
    by_cases k0 : k = 0
    ·
     subst k0
     obtain ⟨s, s1, s2, s3⟩ := S8.2.2.2.rdr
     obtain ⟨uN, eN, -, NN, hbN⟩ := al1 u8 rfl #[.int .i64 0, .int .i64 10, .int .i64 (-1)] 3
     have hSN := S8.next hgl hbN
     have s3N := s3.low (hbN.mono S8.2.2.2.rlt)
     have HCL := Lib.hid (num_d g A n c s u8.heap.size zsNone uN s3N (by omega) (by have := S8.2.2.2.rlt; omega) NN 3 rfl (by omega) (by omega))
     go_wp2_with fail
     refine HCL.out.mono ?_
     rintro e u9 ⟨x, rfl, hx, hd9⟩
     have S9 := hSN.call hag hrg (K' := 1) (fun s' a1 a2 a3 => by
      have : s' = s := rdr_same a3 s3N
      subst this
      exact hd9)
     obtain ⟨X, eX, AX, hcX⟩ := d0 S9.1 (.int .i64 x)
     have SX := S9.set (q' := ⟨x, qx, qy, qn⟩) hgl hwa (by omega) AX (fit_kind S9.2.1 (zsNone_in x hx)) hcX
     have c9 := S9.1.c4
     have f9 := S9.1.free 0
     clear HCL s1 s2 s3 s3N hSN S8
     obtain ⟨U, eU, RU, hcU⟩ := d4 SX.2.2.1 (.int .i64 (x)) (.string qx) (.string qy) (.int .i64 (qn))
     have z4 := SX.2.2.1.c4
     have zf := SX.2.2.1.fz
     have z0 := zf 0
     have z1 := zf 1
     have z2 := zf 2
     have z3 := zf 3
     have zU := RU.c4
     have zA := SX.1.c4
     have hDU : Dw g A n c p 20 w U := (SX.2.2.2.own hgl (hcU.toBelow SX.2.2.2.grown.size fun k hk => by rw [hk]; omega)).more (by omega)
     clear zf
     go_wp2
     exact bodyPost_ret (v := .agg #[.int .i64 (x), .string qx, .string qy, .int .i64 (qn)]) (by simp [results, Tryd.results31, go_sem, zU]) rfl ⟨⟨x, qx, qy, qn⟩, rfl, SX.2.1, hDU⟩
    by_cases k1 : k = 1
    ·
     subst k1
     obtain ⟨X, eX, AX, hcX⟩ := d2 S8.1 (.string ⟨#[98]⟩)
     have SX := S8.set (q' := ⟨qk, qx, ⟨#[98]⟩, qn⟩) hgl hwa (by omega) AX (fit_hi S8.2.1 (by decide)) hcX
     have c9 := S8.1.c4
     have f9 := S8.1.free 2
     obtain ⟨U, eU, RU, hcU⟩ := d4 SX.2.2.1 (.int .i64 (qk)) (.string qx) (.string ⟨#[98]⟩) (.int .i64 (qn))
     have z4 := SX.2.2.1.c4
     have zf := SX.2.2.1.fz
     have z0 := zf 0
     have z1 := zf 1
     have z2 := zf 2
     have z3 := zf 3
     have zU := RU.c4
     have zA := SX.1.c4
     have hDU : Dw g A n c p 20 w U := (SX.2.2.2.own hgl (hcU.toBelow SX.2.2.2.grown.size fun k hk => by rw [hk]; omega)).more (by omega)
     clear zf
     go_wp2
     exact bodyPost_ret (v := .agg #[.int .i64 (qk), .string qx, .string ⟨#[98]⟩, .int .i64 (qn)]) (by simp [results, Tryd.results31, go_sem, zU]) rfl ⟨⟨qk, qx, ⟨#[98]⟩, qn⟩, rfl, SX.2.1, hDU⟩
    by_cases k2 : k = 2
    ·
     subst k2
     obtain ⟨X, eX, AX, hcX⟩ := d3 S8.1 (.int .i64 5)
     have SX := S8.set (q' := ⟨qk, qx, qy, 5⟩) hgl hwa (by omega) AX (fit_num S8.2.1 (by unfold FitI; decide)) hcX
     have c9 := S8.1.c4
     have f9 := S8.1.free 3
     obtain ⟨U, eU, RU, hcU⟩ := d4 SX.2.2.1 (.int .i64 (qk)) (.string qx) (.string qy) (.int .i64 (5))
     have z4 := SX.2.2.1.c4
     have zf := SX.2.2.1.fz
     have z0 := zf 0
     have z1 := zf 1
     have z2 := zf 2
     have z3 := zf 3
     have zU := RU.c4
     have zA := SX.1.c4
     have hDU : Dw g A n c p 20 w U := (SX.2.2.2.own hgl (hcU.toBelow SX.2.2.2.grown.size fun k hk => by rw [hk]; omega)).more (by omega)
     clear zf
     go_wp2
     exact bodyPost_ret (v := .agg #[.int .i64 (qk), .string qx, .string qy, .int .i64 (5)]) (by simp [results, Tryd.results31, go_sem, zU]) rfl ⟨⟨qk, qx, qy, 5⟩, rfl, SX.2.1, hDU⟩
    by_cases k3 : k = 3
    ·
     subst k3
     obtain ⟨X, eX, AX, hcX⟩ := d1 S8.1 (.string ⟨#[]⟩)
     have SX := S8.set (q' := ⟨qk, ⟨#[]⟩, qy, qn⟩) hgl hwa (by omega) AX (fit_key S8.2.1 (by unfold maxLen; decide)) hcX
     have c9 := S8.1.c4
     have f9 := S8.1.free 1
     obtain ⟨U, eU, RU, hcU⟩ := d4 SX.2.2.1 (.int .i64 (qk)) (.string ⟨#[]⟩) (.string qy) (.int .i64 (qn))
     have z4 := SX.2.2.1.c4
     have zf := SX.2.2.1.fz
     have z0 := zf 0
     have z1 := zf 1
     have z2 := zf 2
     have z3 := zf 3
     have zU := RU.c4
     have zA := SX.1.c4
     have hDU : Dw g A n c p 20 w U := (SX.2.2.2.own hgl (hcU.toBelow SX.2.2.2.grown.size fun k hk => by rw [hk]; omega)).more (by omega)
     clear zf
     go_wp2
     exact bodyPost_ret (v := .agg #[.int .i64 (qk), .string ⟨#[]⟩, .string qy, .int .i64 (qn)]) (by simp [results, Tryd.results31, go_sem, zU]) rfl ⟨⟨qk, ⟨#[]⟩, qy, qn⟩, rfl, SX.2.1, hDU⟩
    have b0 : ((k : Int) == 0) = false := beq_eq_false_iff_ne.2 (by omega)
    have b1 : ((k : Int) == 1) = false := beq_eq_false_iff_ne.2 (by omega)
    have b2 : ((k : Int) == 2) = false := beq_eq_false_iff_ne.2 (by omega)
    have b3 : ((k : Int) == 3) = false := beq_eq_false_iff_ne.2 (by omega)
    obtain ⟨U, eU, RU, hcU⟩ := d4 S8.2.2.1 (.int .i64 (qk)) (.string qx) (.string qy) (.int .i64 (qn))
    have z4 := S8.2.2.1.c4
    have zf := S8.2.2.1.fz
    have z0 := zf 0
    have z1 := zf 1
    have z2 := zf 2
    have z3 := zf 3
    have zU := RU.c4
    have zA := S8.1.c4
    have hDU : Dw g A n c p 20 w U := (S8.2.2.2.own hgl (hcU.toBelow S8.2.2.2.grown.size fun k hk => by rw [hk]; omega)).more (by omega)
    clear zf
    go_wp2
    exact bodyPost_ret (v := .agg #[.int .i64 (qk), .string qx, .string qy, .int .i64 (qn)]) (by simp [results, Tryd.results31, go_sem, zU]) rfl ⟨⟨qk, qx, qy, qn⟩, rfl, S8.2.1, hDU⟩
end Go.Proofs.YtjgfbcmgnjgapaaDoor
