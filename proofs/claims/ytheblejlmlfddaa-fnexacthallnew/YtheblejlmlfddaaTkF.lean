/- One who talks: the laws' own copies, sizes, comparisons of it; it as an argument. -/
import Derived.Test.YtheblejlmlfddaaNmF
namespace Go.Proofs.Ytheblejlmlfddaa
open Go.RowKit
set_option linter.unusedVariables false
set_option maxRecDepth 100000

structure Tk where
 on : Bool
 bad : Bool
 a : Int
 ws : List X
 ns : List N5
 sk : Bool
 gn : Bool
 inn : ByteArray
def agT (t : Tk) (u v : Value) : Value := .agg #[.bool t.on, .bool t.bad, .int .i64 t.a, u, v, .bool t.sk, .bool t.gn, .string t.inn]
def clT (t : Tk) (u v : Value) : Array Value := #[.bool t.on, .bool t.bad, .int .i64 t.a, u, v, .bool t.sk, .bool t.gn, .string t.inn]
def FitTk (t : Tk) : Prop := FitI t.a ∧ FitXs t.ws ∧ FitN5s t.ns ∧ t.inn.size ≤ maxLen
abbrev C8 (W : World) (g : Nat) (a b c d e f h i : Value) : Prop := C7 W g a b c d e f h ∧ W.cell? ⟨g, 7, none⟩ = some i
section
variable {W : World} {g : Nat} {t : TypeId} {a b c d e f h i : Value}
theorem Blk.c8 (B : Blk W g t #[a, b, c, d, e, f, h, i]) : C8 W g a b c d e f h i := ⟨⟨⟨B.cell 0, B.cell 1, B.cell 2, B.cell 3⟩, B.cell 4, B.cell 5, B.cell 6⟩, B.cell 7⟩
theorem s8a (B : Blk W g t #[a, b, c, d, e, f, h, i]) (x y z u : Value) : ∃ V, (((W.setCell ⟨g, 0, none⟩ x).setCell ⟨g, 1, none⟩ y).setCell ⟨g, 2, none⟩ z).setCell ⟨g, 3, none⟩ u = V ∧ V.heap.size = W.heap.size ∧ Blk V g t #[x, y, z, u, e, f, h, i] ∧ Chg (fun k => k = g) W V :=
 ⟨_, rfl, by simp [World.setCell], (((B.set_ 0 x).set_ 1 y).set_ 2 z).set_ 3 u, ((((Chg.refl _ _).st _ x).st _ y).st _ z).st _ u⟩
theorem s8b (B : Blk W g t #[a, b, c, d, e, f, h, i]) (x : Value) : ∃ V, W.setCell ⟨g, 4, none⟩ x = V ∧ V.heap.size = W.heap.size ∧ Blk V g t #[a, b, c, d, x, f, h, i] ∧ Chg (fun k => k = g) W V :=
 ⟨_, rfl, by simp [World.setCell], B.set_ 4 x, (Chg.refl _ _).st _ x⟩
theorem s8c (B : Blk W g t #[a, b, c, d, e, f, h, i]) (x : Value) : ∃ V, W.setCell ⟨g, 5, none⟩ x = V ∧ V.heap.size = W.heap.size ∧ Blk V g t #[a, b, c, d, e, x, h, i] ∧ Chg (fun k => k = g) W V :=
 ⟨_, rfl, by simp [World.setCell], B.set_ 5 x, (Chg.refl _ _).st _ x⟩
theorem s8d (B : Blk W g t #[a, b, c, d, e, f, h, i]) (x : Value) : ∃ V, W.setCell ⟨g, 6, none⟩ x = V ∧ V.heap.size = W.heap.size ∧ Blk V g t #[a, b, c, d, e, f, x, i] ∧ Chg (fun k => k = g) W V :=
 ⟨_, rfl, by simp [World.setCell], B.set_ 6 x, (Chg.refl _ _).st _ x⟩
theorem s8e (B : Blk W g t #[a, b, c, d, e, f, h, i]) (x : Value) : ∃ V, W.setCell ⟨g, 7, none⟩ x = V ∧ V.heap.size = W.heap.size ∧ Blk V g t #[a, b, c, d, e, f, h, x] ∧ Chg (fun k => k = g) W V :=
 ⟨_, rfl, by simp [World.setCell], B.set_ 7 x, (Chg.refl _ _).st _ x⟩
theorem s8 (B : Blk W g t #[a, b, c, d, e, f, h, i]) (x y z u p q r s : Value) : ∃ V, (((((((W.setCell ⟨g, 0, none⟩ x).setCell ⟨g, 1, none⟩ y).setCell ⟨g, 2, none⟩ z).setCell ⟨g, 3, none⟩ u).setCell ⟨g, 4, none⟩ p).setCell ⟨g, 5, none⟩ q).setCell ⟨g, 6, none⟩ r).setCell ⟨g, 7, none⟩ s = V ∧ V.heap.size = W.heap.size ∧ Blk V g t #[x, y, z, u, p, q, r, s] ∧ Chg (fun k => k = g) W V := by
 obtain ⟨V1, e1, h1, B1, c1⟩ := s8a B x y z u
 obtain ⟨V2, e2, h2, B2, c2⟩ := s8b B1 p
 obtain ⟨V3, e3, h3, B3, c3⟩ := s8c B2 q
 obtain ⟨V4, e4, h4, B4, c4⟩ := s8d B3 r
 obtain ⟨V5, e5, h5, B5, c5⟩ := s8e B4 s
 exact ⟨V5, by rw [e1, e2, e3, e4, e5], by omega, B5, (((c1.trans c2 fun _ _ h => h).trans c3 fun _ _ h => h).trans c4 fun _ _ h => h).trans c5 fun _ _ h => h⟩
end
section
variable {t : Tk} {w : World} {A B : Option Addr} {c d : Nat}
set_option maxHeartbeats 2000000 in
theorem szTalk_c (left : Int) (hf : FitTk t) (hc : t.ws.length ≤ c) (hcm : c ≤ maxLen) (hd : t.ns.length ≤ d) (hdm : d ≤ maxLen) (h0 : 0 ≤ left) (h1 : left ≤ 1048576) (hr : RdG w w.heap.size A t.ws) (hr2 : RdG w w.heap.size B t.ns) :
  Calls Try.prog 53 #[agT t (.slice A t.ws.length c) (.slice B t.ns.length d), .int .i64 left] w fun e w' => e = .returned (.int .i64 (szR left (totalX t.ws + totalN5 t.ns + t.inn.size))) ∧ Below w.heap.size w w' := by
 obtain ⟨on, bad, a, ws, ns, sk, gn, inn⟩ := t
 unfold agT
 obtain ⟨-, hfx, hfn, hfi⟩ := hf
 dsimp only at hfx hfn hfi hc hd hr hr2 ⊢
 unfold maxLen at hfi
 obtain ⟨W, e, hs, B0, hb0⟩ := al1 w rfl #[.bool on, .bool bad, .int .i64 a, .slice A ws.length c, .slice B ns.length d, .bool sk, .bool gn, .string inn] 92
 have q0 := B0.c8
 by_cases g1 : ((totalX ws : Nat) : Int) ≤ left; rotate_left
 ·
  have H1 := Lib.hid (szR_neg (left := left) (k := totalX ws) (by omega))
  have HN := Lib.hid (szR_neg (left := left) (k := totalX ws + totalN5 ns + inn.size) (by omega))
  go_enter Try.func53, Try.ntmps53
  go_wp2_with fail
  refine (szSeat_c on bad a A c ws left _ hfx hc hcm h0 h1 (hr.next hb0)).mono ?_
  rintro e w1 ⟨rfl, hb1⟩
  rw [H1.out]
  go_wp2
  go_ret
  exact ⟨ret_int HN.out.symm, below_next hb0 hb1⟩
 obtain ⟨L1, H1, HL1, hL1, hL1x⟩ : ∃ L : Int, Hid (szR left (totalX ws) = L) ∧ Hid (L = left - totalX ws) ∧ 0 ≤ L ∧ L ≤ 1048576 := ⟨_, Lib.hid rfl, Lib.hid (szR_pos g1), by rw [szR_pos g1]; omega, by rw [szR_pos g1]; omega⟩
 by_cases g2 : ((totalN5 ns : Nat) : Int) ≤ L1; rotate_left
 ·
  have H2 := Lib.hid (szR_neg (left := L1) (k := totalN5 ns) (by omega))
  have HN := Lib.hid (szR_neg (left := left) (k := totalX ws + totalN5 ns + inn.size) (by have := HL1.out; omega))
  go_enter Try.func53, Try.ntmps53
  go_wp2_with fail
  refine (szSeat_c on bad a A c ws left _ hfx hc hcm h0 h1 (hr.next hb0)).mono ?_
  rintro e w1 ⟨rfl, hb1⟩
  rw [H1.out]
  have q1 := (B0.next hb1).c8
  go_wp2_with fail
  refine (szNamedS_c B d ns L1 _ hfn hd hdm hL1 hL1x (hr2.next (below_next hb0 hb1))).mono ?_
  rintro e w2 ⟨rfl, hb2⟩
  rw [H2.out]
  go_wp2
  go_ret
  exact ⟨ret_int HN.out.symm, below_next (below_next hb0 hb1) hb2⟩
 obtain ⟨L2, H2, HL2, hL2, hL2x⟩ : ∃ L : Int, Hid (szR L1 (totalN5 ns) = L) ∧ Hid (L = L1 - totalN5 ns) ∧ 0 ≤ L ∧ L ≤ 1048576 := ⟨_, Lib.hid rfl, Lib.hid (szR_pos g2), by rw [szR_pos g2]; omega, by rw [szR_pos g2]; omega⟩
 by_cases g3 : L2 < (inn.size : Int)
 ·
  have hd3 : decide (L2 - (inn.size : Int) < 0) = true := by simp; omega
  have HN := Lib.hid (szR_neg (left := left) (k := totalX ws + totalN5 ns + inn.size) (by have := HL1.out; have := HL2.out; omega))
  go_enter Try.func53, Try.ntmps53
  go_wp2_with fail
  refine (szSeat_c on bad a A c ws left _ hfx hc hcm h0 h1 (hr.next hb0)).mono ?_
  rintro e w1 ⟨rfl, hb1⟩
  rw [H1.out]
  have q1 := (B0.next hb1).c8
  go_wp2_with fail
  refine (szNamedS_c B d ns L1 _ hfn hd hdm hL1 hL1x (hr2.next (below_next hb0 hb1))).mono ?_
  rintro e w2 ⟨rfl, hb2⟩
  rw [H2.out]
  have q2 := ((B0.next hb1).next hb2).c8
  go_wp2
  go_ret
  exact ⟨ret_int HN.out.symm, below_next (below_next hb0 hb1) hb2⟩
 ·
  have hd3 : decide (L2 - (inn.size : Int) < 0) = false := by simp; omega
  have HN := Lib.hid (show szR left (totalX ws + totalN5 ns + inn.size) = L2 - (inn.size : Int) from by
   have e1 := HL1.out; have e2 := HL2.out
   rw [szR_pos (by omega)]; omega)
  go_enter Try.func53, Try.ntmps53
  go_wp2_with fail
  refine (szSeat_c on bad a A c ws left _ hfx hc hcm h0 h1 (hr.next hb0)).mono ?_
  rintro e w1 ⟨rfl, hb1⟩
  rw [H1.out]
  have q1 := (B0.next hb1).c8
  go_wp2_with fail
  refine (szNamedS_c B d ns L1 _ hfn hd hdm hL1 hL1x (hr2.next (below_next hb0 hb1))).mono ?_
  rintro e w2 ⟨rfl, hb2⟩
  rw [H2.out]
  have q2 := ((B0.next hb1).next hb2).c8
  go_wp2
  go_ret
  exact ⟨ret_int HN.out.symm, below_next (below_next hb0 hb1) hb2⟩

set_option maxHeartbeats 4000000 in
theorem toTalk_c (hc : t.ws.length ≤ c) (hcm : t.ws.length ≤ 1048576) (hd : t.ns.length ≤ d) (hdm : t.ns.length ≤ 1048576) (hr : RdG w w.heap.size A t.ws) (hr2 : RdG w w.heap.size B t.ns) :
  Calls Try.prog 56 #[agT t (.slice A t.ws.length c) (.slice B t.ns.length d)] w fun e w' => ∃ g h, e = .returned (agT t (.slice (some ⟨g, 0, none⟩) t.ws.length t.ws.length) (.slice (some ⟨h, 0, none⟩) t.ns.length t.ns.length)) ∧ OwnG w' w.heap.size (.slice (some ⟨g, 0, none⟩) t.ws.length t.ws.length) t.ws ∧ OwnG w' w.heap.size (.slice (some ⟨h, 0, none⟩) t.ns.length t.ns.length) t.ns ∧ w.heap.size ≤ g ∧ g < w'.heap.size ∧ w.heap.size ≤ h ∧ h < w'.heap.size ∧ Below w.heap.size w w' := by
 obtain ⟨on, bad, a, ws, ns, sk, gn, inn⟩ := t
 unfold agT
 dsimp only at hc hcm hd hdm hr hr2 ⊢
 obtain ⟨W1, e1, hs1, P1, hb1⟩ := al1 w rfl #[.bool on, .bool bad, .int .i64 a, .slice A ws.length c, .slice B ns.length d, .bool sk, .bool gn, .string inn] 92
 obtain ⟨W2, e2, hs2, R2, hb2⟩ := al1 W1 hs1 #[.bool false, .bool false, .int .i64 0, .slice none 0 0, .slice none 0 0, .bool false, .bool false, .string ⟨#[]⟩] 57
 obtain ⟨W3, e3, hs3, O3, hb3⟩ := al1 W2 hs2 #[.bool false, .bool false, .int .i64 0, .slice none 0 0, .slice none 0 0, .bool false, .bool false, .string ⟨#[]⟩] 57
 have hbw := below_next (below_next hb1 hb2) hb3
 have P3 := (P1.next hb2).next hb3
 have R3 := R2.next hb3
 have q3 := P3.c8
 go_enter Try.func56, Try.ntmps56
 go_wp2_with fail
 refine (toSeat_c on bad a A c ws _ hc hcm (hr.next hbw)).mono ?_
 rintro e U1 ⟨g, rfl, hX, hg, hg', hbu⟩
 have hbw1 := below_next hbw hbu
 have hsu := hbu.size
 have P4 := P3.next hbu
 have R4 := R3.next hbu
 have O4 := O3.next hbu
 clear P1 P3 R2 R3 O3 hb1 hb2 hb3 hbw hbu q3
 have q4 := P4.c8
 have p4 := O4.c8
 have f4 := O4.fz
 obtain ⟨V1, eV1, hV1, O5, hc1⟩ := s8a O4 (.bool on) (.bool bad) (.int .i64 a) (.slice (some ⟨g, 0, none⟩) ws.length ws.length)
 have hbw2 := belowChgd hbw1 hc1 (by omega)
 have P5 := P4.chg1 hc1
 have R5 := R4.chg1 hc1
 have hX5 := hX.chg hc1 (fun k hk => by have : g = k := Option.some.inj hk; omega)
 have q5 := P5.c8
 go_wp2_with fail
 refine (toNamedOwn_c B d ns _ hd hdm (hr2.next hbw2)).mono ?_
 rintro e U2 ⟨h, rfl, hN, hh, hh', hbu2⟩
 have hbw3 := below_next hbw2 hbu2
 have hsu2 := hbu2.size
 have P6 := P5.next hbu2
 have R6 := R5.next hbu2
 have O6 := O5.next hbu2
 have hX6 := hX5.next hbu2
 clear P4 P5 R4 R5 O4 O5 q4 p4 f4 q5 hX hX5
 have q6 := P6.c8
 have p6 := O6.c8
 have f6 := O6.fz
 obtain ⟨V2, eV2, hV2, O7, hc2⟩ := s8b O6 (.slice (some ⟨h, 0, none⟩) ns.length ns.length)
 have P7 := P6.chg1 hc2
 have q7 := P7.c8
 have p7 := O7.c8
 have f7 := O7.fz
 obtain ⟨V3, eV3, hV3, O8, hc3⟩ := s8c O7 (.bool sk)
 have P8 := P7.chg1 hc3
 have q8 := P8.c8
 have p8 := O8.c8
 have f8 := O8.fz
 obtain ⟨V4, eV4, hV4, O9, hc4⟩ := s8d O8 (.bool gn)
 have P9 := P8.chg1 hc4
 have q9 := P9.c8
 have p9 := O9.c8
 have f9 := O9.fz
 obtain ⟨V5, eV5, hV5, O10, hc5⟩ := s8e O9 (.string inn)
 have R10 := (((R6.chg1 hc2).chg1 hc3).chg1 hc4).chg1 hc5
 have pA := O10.c8
 have rA := R10.c8
 have gA := R10.fz
 obtain ⟨V6, eV6, hV6, R11, hc6⟩ := s8 R10 (.bool on) (.bool bad) (.int .i64 a) (.slice (some ⟨g, 0, none⟩) ws.length ws.length) (.slice (some ⟨h, 0, none⟩) ns.length ns.length) (.bool sk) (.bool gn) (.string inn)
 have rB := R11.c8
 have hne : ∀ k, k = w.heap.size + 1 ∨ k = w.heap.size + 2 → (∀ j, (Value.slice (some ⟨g, 0, none⟩) ws.length ws.length).ownBlock = some j → j ≠ k) ∧ (∀ j, (Value.slice (some ⟨h, 0, none⟩) ns.length ns.length).ownBlock = some j → j ≠ k) := by
  intro k hk
  exact ⟨fun j hj => by have : g = j := Option.some.inj hj; omega, fun j hj => by have : h = j := Option.some.inj hj; omega⟩
 have hXf := ((((hX6.chg hc2 (hne _ (.inr rfl)).1).chg hc3 (hne _ (.inr rfl)).1).chg hc4 (hne _ (.inr rfl)).1).chg hc5 (hne _ (.inr rfl)).1).chg hc6 (hne _ (.inl rfl)).1
 have hNf := ((((hN.chg hc2 (hne _ (.inr rfl)).2).chg hc3 (hne _ (.inr rfl)).2).chg hc4 (hne _ (.inr rfl)).2).chg hc5 (hne _ (.inr rfl)).2).chg hc6 (hne _ (.inl rfl)).2
 have hbf := belowChgd (belowChgd (belowChgd (belowChgd (belowChgd hbw3 hc2 (by omega)) hc3 (by omega)) hc4 (by omega)) hc5 (by omega)) hc6 (by omega)
 clear hX6 hN hbw1 hbw2 hbw3 P6 P7 P8 P9 R6 R10 R11 O6 O7 O8 O9 O10 hc1 hc2 hc3 hc4 hc5 hc6 hbu2 hr hr2 hne
 go_wp2
 exact bodyPost_ret (v := .agg #[.bool on, .bool bad, .int .i64 a, .slice (some ⟨g, 0, none⟩) ws.length ws.length, .slice (some ⟨h, 0, none⟩) ns.length ns.length, .bool sk, .bool gn, .string inn]) (by simp [results, Try.results56, go_sem, rB]) rfl ⟨g, h, rfl, hXf.low (by omega), hNf.low (by omega), by omega, by omega, by omega, by omega, hbf⟩

set_option maxHeartbeats 2000000 in
theorem eqTalk_c {u u' v v' : Value} {b1 b2 b3 b4 : Nat} (h : OwnG w b1 u t.ws) (h' : OwnG w b2 u' t.ws) (k : OwnG w b3 v t.ns) (k' : OwnG w b4 v' t.ns) (hl : t.ws.length ≤ 2097152) (hl' : t.ns.length ≤ 2097152) :
  Calls Try.prog 45 #[agT t u v, agT t u' v'] w fun e w' => e = .returned (.bool true) ∧ Below w.heap.size w w' := by
 obtain ⟨on, bad, a, ws, ns, sk, gn, inn⟩ := t
 unfold agT
 dsimp only at h h' k k' hl hl' ⊢
 obtain ⟨A, n, c, rfl⟩ := h.slice
 obtain ⟨A', n', c', rfl⟩ := h'.slice
 obtain ⟨B, m, d, rfl⟩ := k.slice
 obtain ⟨B', m', d', rfl⟩ := k'.slice
 obtain ⟨W1, e1, hs1, P1, hb1⟩ := al1 w rfl #[.bool on, .bool bad, .int .i64 a, .slice A n c, .slice B m d, .bool sk, .bool gn, .string inn] 57
 obtain ⟨W2, e2, hs2, R2, hb2⟩ := al1 W1 hs1 #[.bool on, .bool bad, .int .i64 a, .slice A' n' c', .slice B' m' d', .bool sk, .bool gn, .string inn] 57
 have hbw := below_next hb1 hb2
 have P2 := P1.next hb2
 have hs : (sk != sk) = false := by simp
 have hq : (gn != gn) = false := by simp
 have hi : (inn.toList != inn.toList) = false := by simp
 have hi' : (inn.toList == inn.toList) = true := by simp
 have HE := Lib.hid (eqN5s_yes (rfl : ns = ns))
 have q2 := P2.c8
 have r2 := R2.c8
 go_enter Try.func45, Try.ntmps45
 go_wp2_with fail
 refine (eqSeat_c on bad a _ _ ws _ _ _ (h.next hbw) (h'.next hbw) hl).mono ?_
 rintro e w1 ⟨rfl, hbu⟩
 have q3 := (P2.next hbu).c8
 have r3 := (R2.next hbu).c8
 go_wp2_with fail
 refine (eqNamedOwn_c _ _ ns ns _ _ _ (k.next (below_next hbw hbu)) (k'.next (below_next hbw hbu)) hl' hl').mono ?_
 rw [HE.out]
 rintro e w2 ⟨rfl, hbv⟩
 have q4 := ((P2.next hbu).next hbv).c8
 have r4 := ((R2.next hbu).next hbv).c8
 go_wp2
 go_ret
 exact ⟨rfl, below_next (below_next hbw hbu) hbv⟩
end
end Go.Proofs.Ytheblejlmlfddaa
namespace Go.Proofs.Ytheblejlmlfddaa
open Go.ChangeShapes Go.WideShapes Go.ChangeAt Go.RowKit Go.Deep
set_option linter.unusedVariables false
set_option maxRecDepth 100000
theorem cellsLawTalk : Try.prog.cellsOf 92 = 8 := by kernel_rfl
theorem oneNamedS : Try.prog.cellsOf 90 = 1 := by kernel_rfl
theorem structLawTalk : ∃ f0 f1 f2 f3 f4 : Field, Try.prog.underlying 92 = some (.struct #[f0, f1, f2, f3, f4]) ∧ f0.offset = 0 ∧ f0.type = 89 ∧ f1.offset = 4 ∧ f1.type = 90 ∧ f2.offset = 5 ∧ f2.type = 4 ∧ f3.offset = 6 ∧ f3.type = 4 ∧ f4.offset = 7 ∧ f4.type = 9 := by
 have h := Try.underlying92
 exact ⟨_, _, _, _, _, h, rfl, rfl, rfl, rfl, rfl, rfl, rfl, rfl, rfl, rfl⟩
theorem openSeatC {H : Type} {enc : TypeId × Value → H} {W : World} {fuel : Nat} {cs : List Value} {x : DataW H × List MemPlace} (hf : DataW.trod enc Try.prog W 0 (fun _ => true) true fuel 89 cs = some x) :
  ∃ (o q : Bool) (z : Int) (A : Option Addr) (c : Nat) (l : List X), cs = [.bool o, .bool q, .int .i64 z, .slice A l.length c] ∧ FitI z ∧ l.length ≤ c ∧ c ≤ maxLen ∧ FitXs l ∧ RdG W W.heap.size A l := by
 obtain ⟨f0, f1, f2, hs, o0, t0, o1, t1, o2, t2⟩ := structLawSeat
 obtain ⟨xs, k, _, _, hl, hxl, hf⟩ := DataW.trod_struct hs hf
 rw [cellsLawSeat] at hl
 match xs, hxl, cs, hl with
 | [y0, y1, y2], _, [v0, v1, v2, v3], _ =>
  have g0 := hf 0 f0 rfl
  rw [o0, t0, oneVerb] at g0
  simp only [List.drop_zero, List.take_succ_cons, List.take_zero, List.getElem?_cons_zero] at g0
  obtain ⟨s0, e0, _⟩ := DataW.trod_bool Try.underlying4 g0
  simp only [List.cons.injEq, and_true] at e0
  subst e0
  have g1 := hf 1 f1 rfl
  rw [o1, t1, oneVerb] at g1
  simp only [List.drop_zero, List.drop_succ_cons, List.take_succ_cons, List.take_zero, List.getElem?_cons_zero, List.getElem?_cons_succ] at g1
  obtain ⟨s1, e1, _⟩ := DataW.trod_bool Try.underlying4 g1
  simp only [List.cons.injEq, and_true] at e1
  subst e1
  have g2 := hf 2 f2 rfl
  rw [o2, t2, cellsLawWork] at g2
  simp only [List.drop_zero, List.drop_succ_cons, List.take_succ_cons, List.take_zero, List.getElem?_cons_zero, List.getElem?_cons_succ] at g2
  obtain ⟨z, A, c, l, e2, h1, h2, h3, h4, h5⟩ := openWorkC g2
  simp only [List.cons.injEq, and_true] at e2
  obtain ⟨rfl, rfl⟩ := e2
  exact ⟨s0, s1, z, A, c, l, rfl, h1, h2, h3, h4, h5⟩
theorem openTalkC {H : Type} {enc : TypeId × Value → H} {W : World} {fuel : Nat} {cs : List Value} {x : DataW H × List MemPlace} (hf : DataW.trod enc Try.prog W 0 (fun _ => true) true fuel 92 cs = some x) :
  ∃ (t : Tk) (A : Option Addr) (c : Nat) (B : Option Addr) (d : Nat), cs = (clT t (.slice A t.ws.length c) (.slice B t.ns.length d)).toList ∧ FitTk t ∧ t.ws.length ≤ c ∧ c ≤ maxLen ∧ t.ns.length ≤ d ∧ d ≤ maxLen ∧ RdG W W.heap.size A t.ws ∧ RdG W W.heap.size B t.ns := by
 obtain ⟨f0, f1, f2, f3, f4, hs, o0, t0, o1, t1, o2, t2, o3, t3, o4, t4⟩ := structLawTalk
 obtain ⟨xs, k, _, _, hl, hxl, hf⟩ := DataW.trod_struct hs hf
 rw [cellsLawTalk] at hl
 match xs, hxl, cs, hl with
 | [y0, y1, y2, y3, y4], _, [v0, v1, v2, v3, v4, v5, v6, v7], _ =>
  have g0 := hf 0 f0 rfl
  rw [o0, t0, cellsLawSeat] at g0
  simp only [List.drop_zero, List.take_succ_cons, List.take_zero] at g0
  obtain ⟨o, q, z, A, c, l, e0, z0, z1, z2, z3, z4⟩ := openSeatC g0
  simp only [List.cons.injEq, and_true] at e0
  obtain ⟨rfl, rfl, rfl, rfl⟩ := e0
  have g1 := hf 1 f1 rfl
  rw [o1, t1, oneNamedS] at g1
  simp only [List.drop_zero, List.drop_succ_cons, List.take_succ_cons, List.take_zero, List.getElem?_cons_zero, List.getElem?_cons_succ] at g1
  obtain ⟨B, d, ns, rfl, n1, n2, n3, n4⟩ := openNamedS g1
  have g2 := hf 2 f2 rfl
  rw [o2, t2, oneVerb] at g2
  simp only [List.drop_zero, List.drop_succ_cons, List.take_succ_cons, List.take_zero, List.getElem?_cons_zero, List.getElem?_cons_succ] at g2
  obtain ⟨s2, e2, _⟩ := DataW.trod_bool Try.underlying4 g2
  simp only [List.cons.injEq, and_true] at e2
  subst e2
  have g3 := hf 3 f3 rfl
  rw [o3, t3, oneVerb] at g3
  simp only [List.drop_zero, List.drop_succ_cons, List.take_succ_cons, List.take_zero, List.getElem?_cons_zero, List.getElem?_cons_succ] at g3
  obtain ⟨s3, e3, _⟩ := DataW.trod_bool Try.underlying4 g3
  simp only [List.cons.injEq, and_true] at e3
  subst e3
  have g4 := hf 4 f4 rfl
  rw [o4, t4, oneAsks] at g4
  simp only [List.drop_zero, List.drop_succ_cons, List.take_succ_cons, List.take_zero, List.getElem?_cons_zero, List.getElem?_cons_succ] at g4
  obtain ⟨s4, e4, _, u4⟩ := DataW.trod_string Try.underlying9 g4
  simp only [List.cons.injEq, and_true] at e4
  subst e4
  exact ⟨⟨o, q, z, l, ns, s2, s3, s4⟩, A, c, B, d, rfl, ⟨z0, z3, n3, u4⟩, z1, z2, n1, n2, z4, n4⟩
theorem openArgTalk {H : Type} {enc : TypeId × Value → H} {W : World} {r : Reach} {b0 : Nat} {v : Value} {d : DataW H} {p : List MemPlace}
  (hv : Value.okWide Try.prog W r b0 92 v) (h : DataW.Trod enc Try.prog W 0 (fun _ => true) true 92 v d p) :
  ∃ (t : Tk) (A : Option Addr) (c : Nat) (B : Option Addr) (d : Nat), v = agT t (.slice A t.ws.length c) (.slice B t.ns.length d) ∧ FitTk t ∧ t.ws.length ≤ c ∧ c ≤ maxLen ∧ t.ns.length ≤ d ∧ d ≤ maxLen ∧ RdG W W.heap.size A t.ws ∧ RdG W W.heap.size B t.ns := by
 obtain ⟨f0, f1, f2, f3, f4, hs, _⟩ := structLawTalk
 obtain ⟨cs, rfl, hsz⟩ := okWide_struct hs hv
 obtain ⟨fuel, hf⟩ := h
 obtain ⟨cl⟩ := cs
 simp only [Value.cells] at hf
 obtain ⟨t, A, c, B, d, e, h1⟩ := openTalkC hf
 refine ⟨t, A, c, B, d, ?_, h1⟩
 simp only [clT] at e
 rw [e]; rfl
end Go.Proofs.Ytheblejlmlfddaa
