/- Halls: the laws' own copies, sizes, comparisons of them; a hall as an argument. -/
import Derived.Test.YtheblejlmlfddaaHlF
namespace Go.Proofs.Ytheblejlmlfddaa
open Go.RowKit
set_option linter.unusedVariables false
set_option maxRecDepth 100000

section
variable {W : World} {g : Nat} {t : TypeId} {a b c : Value}
theorem s3a (B : Blk W g t #[a, b, c]) (x y : Value) : ∃ V, (W.setCell ⟨g, 0, none⟩ x).setCell ⟨g, 1, none⟩ y = V ∧ V.heap.size = W.heap.size ∧ Blk V g t #[x, y, c] ∧ Chg (fun k => k = g) W V :=
 ⟨_, rfl, by simp [World.setCell], (B.set_ 0 x).set_ 1 y, ((Chg.refl _ _).st _ x).st _ y⟩
theorem s3b (B : Blk W g t #[a, b, c]) (x : Value) : ∃ V, W.setCell ⟨g, 2, none⟩ x = V ∧ V.heap.size = W.heap.size ∧ Blk V g t #[a, b, x] ∧ Chg (fun k => k = g) W V :=
 ⟨_, rfl, by simp [World.setCell], B.set_ 2 x, (Chg.refl _ _).st _ x⟩
theorem s3 (B : Blk W g t #[a, b, c]) (x y z : Value) : ∃ V, ((W.setCell ⟨g, 0, none⟩ x).setCell ⟨g, 1, none⟩ y).setCell ⟨g, 2, none⟩ z = V ∧ V.heap.size = W.heap.size ∧ Blk V g t #[x, y, z] ∧ Chg (fun k => k = g) W V :=
 ⟨_, rfl, by simp [World.setCell], ((B.set_ 0 x).set_ 1 y).set_ 2 z, (((Chg.refl _ _).st _ x).st _ y).st _ z⟩
end
section
variable {z : Int} {A C : Option Addr} {c m : Nat} {l : List V} {r : List TT} {w : World}
set_option maxHeartbeats 2000000 in
theorem szHall_c (left : Int) (hf : FitVs l) (hc : l.length ≤ c) (hcm : c ≤ maxLen) (hr : RdG w w.heap.size A l) (hg : FitTTs w w.heap.size r) (hm : r.length ≤ m) (hmm : m ≤ maxLen) (hs : RdG w w.heap.size C r) (h0 : 0 ≤ left) (h1 : left ≤ 1048576) :
  Calls Try.prog 18 #[.agg #[.int .i64 z, .slice A l.length c, .slice C r.length m], .int .i64 left] w fun e w' => e = .returned (.int .i64 (szR left (totalV l + totalTT r))) ∧ Below w.heap.size w w' := by
 obtain ⟨W, e, hsz, B0, hb0⟩ := al1 w rfl #[.int .i64 z, .slice A l.length c, .slice C r.length m] 45
 have q0 := B0.c3
 have hg' : FitTTs W W.heap.size r := fun x hx => ⟨(hg x hx).1, (hg x hx).2.next hb0⟩
 by_cases g1 : ((totalV l : Nat) : Int) ≤ left; rotate_left
 ·
  have H1 := Lib.hid (szR_neg (left := left) (k := totalV l) (by omega))
  have HN := Lib.hid (szR_neg (left := left) (k := totalV l + totalTT r) (by omega))
  go_enter Try.func18, Try.ntmps18
  go_wp2_with fail
  refine (szVers_c z A c l left _ hf hc hcm h0 h1 (hr.next hb0)).mono ?_
  rintro e w1 ⟨rfl, hb1⟩
  rw [H1.out]
  go_wp2
  go_ret
  exact ⟨ret_int HN.out.symm, below_next hb0 hb1⟩
 obtain ⟨L1, H1, HL1, hL1, hL1x⟩ : ∃ L : Int, Hid (szR left (totalV l) = L) ∧ Hid (L = left - totalV l) ∧ 0 ≤ L ∧ L ≤ 1048576 := ⟨_, Lib.hid rfl, Lib.hid (szR_pos g1), by rw [szR_pos g1]; omega, by rw [szR_pos g1]; omega⟩
 by_cases g2 : ((totalTT r : Nat) : Int) ≤ L1
 ·
  have H2 := Lib.hid (szR_pos (left := L1) (k := totalTT r) g2)
  have HN := Lib.hid (show szR left (totalV l + totalTT r) = L1 - totalTT r from by have := HL1.out; rw [szR_pos (by omega)]; omega)
  have hd : decide (L1 - (totalTT r : Int) < 0) = false := by simp; omega
  go_enter Try.func18, Try.ntmps18
  go_wp2_with fail
  refine (szVers_c z A c l left _ hf hc hcm h0 h1 (hr.next hb0)).mono ?_
  rintro e w1 ⟨rfl, hb1⟩
  rw [H1.out]
  have q1 := (B0.next hb1).c3
  go_wp2_with fail
  refine (szTalkS_c C m r L1 _ (fun x hx => ⟨(hg' x hx).1, (hg' x hx).2.next hb1⟩) hm hmm hL1 hL1x ((hs.next hb0).next hb1)).mono ?_
  rintro e w2 ⟨rfl, hb2⟩
  rw [H2.out]
  go_wp2
  go_ret
  exact ⟨ret_int HN.out.symm, below_next (below_next hb0 hb1) hb2⟩
 ·
  have H2 := Lib.hid (szR_neg (left := L1) (k := totalTT r) (by omega))
  have HN := Lib.hid (szR_neg (left := left) (k := totalV l + totalTT r) (by have := HL1.out; omega))
  go_enter Try.func18, Try.ntmps18
  go_wp2_with fail
  refine (szVers_c z A c l left _ hf hc hcm h0 h1 (hr.next hb0)).mono ?_
  rintro e w1 ⟨rfl, hb1⟩
  rw [H1.out]
  have q1 := (B0.next hb1).c3
  go_wp2_with fail
  refine (szTalkS_c C m r L1 _ (fun x hx => ⟨(hg' x hx).1, (hg' x hx).2.next hb1⟩) hm hmm hL1 hL1x ((hs.next hb0).next hb1)).mono ?_
  rintro e w2 ⟨rfl, hb2⟩
  rw [H2.out]
  go_wp2
  go_ret
  exact ⟨ret_int HN.out.symm, below_next (below_next hb0 hb1) hb2⟩

/-- a hall of the call's own -/
structure OwH (w : World) (base : Nat) (v : Value) (z : Int) (l : List V) (ts : List Tk) : Prop where
 ex : ∃ g h rs, v = .agg #[.int .i64 z, .slice (some ⟨g, 0, none⟩) l.length l.length, .slice (some ⟨h, 0, none⟩) (List.length rs) (List.length rs)] ∧ ofTT rs = ts ∧ OwnG w base (.slice (some ⟨g, 0, none⟩) l.length l.length) l ∧ OwnG w base (.slice (some ⟨h, 0, none⟩) (List.length rs) (List.length rs)) rs ∧ ∀ x ∈ rs, OwTT w base x

set_option maxHeartbeats 4000000 in
theorem toHall_c (hc : l.length ≤ c) (hl : l.length ≤ 1048576) (hr : RdG w w.heap.size A l) (hg : FitTTs w w.heap.size r) (hm : r.length ≤ m) (ht : totalTT r ≤ 1048576) (hs : RdG w w.heap.size C r) :
  Calls Try.prog 20 #[.agg #[.int .i64 z, .slice A l.length c, .slice C r.length m]] w fun e w' => ∃ v, e = .returned v ∧ OwH w' w.heap.size v z l (ofTT r) ∧ Below w.heap.size w w' := by
 obtain ⟨W1, e1, hs1, P1, hb1⟩ := al1 w rfl #[.int .i64 z, .slice A l.length c, .slice C r.length m] 45
 obtain ⟨W2, e2, hs2, R2, hb2⟩ := al1 W1 hs1 #[.int .i64 0, .slice none 0 0, .slice none 0 0] 27
 obtain ⟨W3, e3, hs3, O3, hb3⟩ := al1 W2 hs2 #[.int .i64 0, .slice none 0 0, .slice none 0 0] 27
 have hbw := below_next (below_next hb1 hb2) hb3
 have P3 := (P1.next hb2).next hb3
 have R3 := R2.next hb3
 have q3 := P3.c3
 go_enter Try.func20, Try.ntmps20
 go_wp2_with fail
 refine (toVers_c z A c l _ hc hl (hr.next hbw)).mono ?_
 rintro e U1 ⟨g, rfl, hX, hgg, hgg', hbu⟩
 have hbw1 := below_next hbw hbu
 have hsu := hbu.size
 have P4 := P3.next hbu
 have R4 := R3.next hbu
 have O4 := O3.next hbu
 clear P1 P3 R2 R3 O3 hb1 hb2 hb3 hbw hbu q3
 have q4 := P4.c3
 have p4 := O4.c3
 have f4 := O4.fz
 obtain ⟨V1, eV1, hV1, O5, hc1⟩ := s3a O4 (.int .i64 z) (.slice (some ⟨g, 0, none⟩) l.length l.length)
 have hbw2 := belowChgd hbw1 hc1 (by omega)
 have P5 := P4.chg1 hc1
 have R5 := R4.chg1 hc1
 have hX5 := hX.chg hc1 (fun k hk => by have : g = k := Option.some.inj hk; omega)
 have q5 := P5.c3
 have hFT : FitTTs V1 V1.heap.size r := fun x hx => ⟨(hg x hx).1, (hg x hx).2.next hbw2⟩
 go_wp2_with fail
 refine (toTalkS_c C m r _ hFT hm ht (hs.next hbw2)).mono ?_
 rintro e U2 ⟨h, rs, rfl, hof, hN, hT, hh, hh', hbu2⟩
 have hrl : rs.length = r.length := by rw [← ofTT_len rs, hof, ofTT_len]
 have hbw3 := below_next hbw2 hbu2
 have hsu2 := hbu2.size
 have R6 := R5.next hbu2
 have O6 := O5.next hbu2
 have hX6 := hX5.next hbu2
 clear P4 P5 R4 R5 O4 O5 q4 p4 f4 q5 hX hX5 hFT
 have p6 := O6.c3
 have f6 := O6.fz
 obtain ⟨V2, eV2, hV2, O7, hc2⟩ := s3b O6 (.slice (some ⟨h, 0, none⟩) r.length r.length)
 have R7 := R6.chg1 hc2
 have p7 := O7.c3
 have r7 := R7.c3
 have f7 := R7.fz
 obtain ⟨V3, eV3, hV3, R8, hc3⟩ := s3 R7 (.int .i64 z) (.slice (some ⟨g, 0, none⟩) l.length l.length) (.slice (some ⟨h, 0, none⟩) r.length r.length)
 have rB := R8.c3
 have hX8 := (hX6.chg hc2 (fun k hk => by have : g = k := Option.some.inj hk; omega)).chg hc3 (fun k hk => by have : g = k := Option.some.inj hk; omega)
 have hN8 := (hN.chg hc2 (fun k hk => by have : h = k := Option.some.inj hk; omega)).chg hc3 (fun k hk => by have : h = k := Option.some.inj hk; omega)
 have hT8 : ∀ x ∈ rs, OwTT V3 w.heap.size x := fun x hx => (((hT x hx).chg hc2 (by omega)).chg hc3 (by omega)).low (by omega)
 have hbf := belowChgd (belowChgd hbw3 hc2 (by omega)) hc3 (by omega)
 clear hX6 hN hT hbw1 hbw2 hbw3 R6 R7 R8 O6 O7 hc1 hc2 hc3 hbu2 hr hs hg
 have HH := Lib.hid (And.intro hX8 (And.intro hN8 (And.intro hT8 hbf)))
 clear hX8 hN8 hT8 hbf
 go_wp2
 refine bodyPost_ret (v := .agg #[.int .i64 z, .slice (some ⟨g, 0, none⟩) l.length l.length, .slice (some ⟨h, 0, none⟩) r.length r.length]) (by simp [results, Try.results20, go_sem, rB]) rfl ⟨_, rfl, ⟨g, h, rs, by rw [hrl], hof, HH.out.1.low (by omega), ?_, HH.out.2.2.1⟩, HH.out.2.2.2⟩
 rw [hrl]
 exact HH.out.2.1.low (by omega)

set_option maxHeartbeats 2000000 in
theorem eqHall_c {v v' : Value} {ts : List Tk} {b1 b2 : Nat} (h : OwH w b1 v z l ts) (h' : OwH w b2 v' z l ts) (hl : l.length ≤ 2097152) (ht : ∀ rs : List TT, ofTT rs = ts → totalTT rs ≤ 1048576) :
  Calls Try.prog 8 #[v, v'] w fun e w' => e = .returned (.bool true) ∧ Below w.heap.size w w' := by
 obtain ⟨g, k, rs, rfl, hof, o1, o2, o3⟩ := h.ex
 obtain ⟨g', k', rs', rfl, hof', p1, p2, p3⟩ := h'.ex
 obtain ⟨W1, e1, hs1, P1, hb1⟩ := al1 w rfl #[.int .i64 z, .slice (some ⟨g, 0, none⟩) l.length l.length, .slice (some ⟨k, 0, none⟩) rs.length rs.length] 27
 obtain ⟨W2, e2, hs2, R2, hb2⟩ := al1 W1 hs1 #[.int .i64 z, .slice (some ⟨g', 0, none⟩) l.length l.length, .slice (some ⟨k', 0, none⟩) rs'.length rs'.length] 27
 have hbw := below_next hb1 hb2
 have P2 := P1.next hb2
 have q2 := P2.c3
 have r2 := R2.c3
 have HS := Lib.hid (sameB_refl z l)
 go_enter Try.func8, Try.ntmps8
 go_wp2_with fail
 refine (eqVers_c z z _ _ l l _ _ _ (o1.next hbw) (p1.next hbw) hl hl).mono ?_
 rw [HS.out]
 rintro e w1 ⟨rfl, hbu⟩
 have q3 := (P2.next hbu).c3
 have r3 := (R2.next hbu).c3
 have hbx := below_next hbw hbu
 obtain ⟨-, -, -, d1⟩ := o2.rd'
 obtain ⟨-, -, -, d2⟩ := p2.rd'
 go_wp2_with fail
 refine (eqTalkS_c (some ⟨k, 0, none⟩) (some ⟨k', 0, none⟩) _ _ rs rs' _ (hof'.trans hof.symm) (ht rs hof) (d1.next hbx) (d2.next hbx) (fun x hx => (o3 x hx).next hbx) (fun x hx => (p3 x hx).next hbx)).mono ?_
 rintro e w2 ⟨rfl, hbv⟩
 go_wp2
 go_ret
 exact ⟨rfl, below_next hbx hbv⟩
end
end Go.Proofs.Ytheblejlmlfddaa
namespace Go.Proofs.Ytheblejlmlfddaa
open Go.ChangeShapes Go.WideShapes Go.ChangeAt Go.RowKit Go.Deep
set_option linter.unusedVariables false
set_option maxRecDepth 100000
theorem cellsLawHall : Try.prog.cellsOf 45 = 3 := by kernel_rfl
theorem oneTalkS : Try.prog.cellsOf 43 = 1 := by kernel_rfl
theorem structLawHall : ∃ f0 f1 : Field, Try.prog.underlying 45 = some (.struct #[f0, f1]) ∧ f0.offset = 0 ∧ f0.type = 42 ∧ f1.offset = 2 ∧ f1.type = 43 := by
 have h := Try.underlying45
 exact ⟨_, _, h, rfl, rfl, rfl, rfl⟩
theorem openVersC {H : Type} {enc : TypeId × Value → H} {W : World} {fuel : Nat} {cs : List Value} {x : DataW H × List MemPlace} (hf : DataW.trod enc Try.prog W 0 (fun _ => true) true fuel 42 cs = some x) :
  ∃ (z : Int) (A : Option Addr) (c : Nat) (l : List V), cs = [.int .i64 z, .slice A l.length c] ∧ FitI z ∧ l.length ≤ c ∧ c ≤ maxLen ∧ FitVs l ∧ RdG W W.heap.size A l := by
 obtain ⟨f0, f1, hs, o0, t0, o1, t1⟩ := structLawVers
 obtain ⟨xs, k, _, _, hl, hxl, hf⟩ := DataW.trod_struct hs hf
 rw [cellsLawVers] at hl
 match xs, hxl, cs, hl with
 | [y0, y1], _, [v0, v1], _ =>
  have g0 := hf 0 f0 rfl
  rw [o0, t0, oneVeri] at g0
  simp only [List.drop_zero, List.take_succ_cons, List.take_zero, List.getElem?_cons_zero] at g0
  obtain ⟨s0, e0, _, z0⟩ := DataW.trod_int Try.underlying3 g0
  simp only [List.cons.injEq, and_true] at e0
  subst e0
  have g1 := hf 1 f1 rfl
  rw [o1, t1, oneVerS] at g1
  simp only [List.drop_zero, List.drop_succ_cons, List.take_succ_cons, List.take_zero, List.getElem?_cons_zero, List.getElem?_cons_succ] at g1
  obtain ⟨A, c, l, rfl, h1, h2, h3, h4⟩ := openVerS g1
  exact ⟨s0, A, c, l, rfl, fitI_of z0, h1, h2, h3, h4⟩
theorem decTT {H : Type} {enc : TypeId × Value → H} {W : World} (n : Nat) (cs' : List Value) (x : DataW H × List MemPlace) (h : DataW.trod enc Try.prog W 0 (fun _ => true) true n 92 cs' = some x) :
  ∃ a : TT, cs' = Elt.cs a ∧ (FitTk a.t ∧ RdTT W W.heap.size a) := by
 obtain ⟨t, A, c, B, d, rfl, h1, h2, h3, h4, h5, h6, h7⟩ := openTalkC h
 exact ⟨⟨t, A, c, B, d⟩, rfl, h1, h2, h3, h4, h5, h6, h7⟩
theorem openTalkS {H : Type} {enc : TypeId × Value → H} {W : World} {fuel : Nat} {v : Value} {x : DataW H × List MemPlace} (h : DataW.trod enc Try.prog W 0 (fun _ => true) true fuel 43 [v] = some x) :
  ∃ (A : Option Addr) (c : Nat) (l : List TT), v = .slice A l.length c ∧ l.length ≤ c ∧ c ≤ maxLen ∧ FitTTs W W.heap.size l ∧ RdG W W.heap.size A l :=
 openG (α := TT) Try.underlying43 cellsLawTalk (fun (a : TT) => FitTk a.t ∧ RdTT W W.heap.size a) decTT h
theorem openArgHall {H : Type} {enc : TypeId × Value → H} {W : World} {r : Reach} {b0 : Nat} {v : Value} {d : DataW H} {p : List MemPlace}
  (hv : Value.okWide Try.prog W r b0 45 v) (h : DataW.Trod enc Try.prog W 0 (fun _ => true) true 45 v d p) :
  ∃ (z : Int) (A : Option Addr) (c : Nat) (l : List V) (C : Option Addr) (m : Nat) (r : List TT), v = .agg #[.int .i64 z, .slice A l.length c, .slice C r.length m] ∧ FitVs l ∧ l.length ≤ c ∧ c ≤ maxLen ∧ RdG W W.heap.size A l ∧ FitTTs W W.heap.size r ∧ r.length ≤ m ∧ m ≤ maxLen ∧ RdG W W.heap.size C r := by
 obtain ⟨f0, f1, hs, o0, t0, o1, t1⟩ := structLawHall
 obtain ⟨cs, rfl, hsz⟩ := okWide_struct hs hv
 obtain ⟨fuel, hf⟩ := h
 obtain ⟨xs, k, _, _, hl, hxl, hf⟩ := DataW.trod_struct hs hf
 rw [cellsLawHall] at hl
 obtain ⟨cl⟩ := cs
 simp only [Value.cells] at hl hf
 match xs, hxl, cl, hl with
 | [y0, y1], _, [v0, v1, v2], _ =>
  have g0 := hf 0 f0 rfl
  rw [o0, t0, cellsLawVers] at g0
  simp only [List.drop_zero, List.take_succ_cons, List.take_zero, List.getElem?_cons_zero] at g0
  obtain ⟨z, A, c, l, e0, z0, z1, z2, z3, z4⟩ := openVersC g0
  simp only [List.cons.injEq, and_true] at e0
  obtain ⟨rfl, rfl⟩ := e0
  have g1 := hf 1 f1 rfl
  rw [o1, t1, oneTalkS] at g1
  simp only [List.drop_zero, List.drop_succ_cons, List.take_succ_cons, List.take_zero, List.getElem?_cons_zero, List.getElem?_cons_succ] at g1
  obtain ⟨C, m, r, rfl, n1, n2, n3, n4⟩ := openTalkS g1
  exact ⟨z, A, c, l, C, m, r, rfl, z3, z1, z2, z4, n3, n1, n2, n4⟩
end Go.Proofs.Ytheblejlmlfddaa
