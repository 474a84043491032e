/- Chapter 2, plain mathematics: versions in order; what chains show is what stands.
VersOk of the program.
VersAt, of the model and of the program.
VersLast, of the model and of the program. -/
import Derived.Test.YtnijgbinjbikbaaGreatB2
import Derived.Test.YtnijgbinjbikbaaGreatS2b
namespace Go.Proofs.YtnijgbinjbikbaaGreat
open Go.RowKit
set_option linter.unusedVariables false

/-- b may stand behind a, near or far -/
def Beh (a b : V) : Prop := (a.k = b.k ∧ 0 < a.t ∧ a.t ≤ b.f) ∨ lt a.k b.k = true
def Ord2 (l : List V) : Prop := l.Pairwise Beh
theorem beh_of_ahead {a b : V} (h : aheadB a b = true) : Beh a b := by
 unfold aheadB at h
 split at h
 ·
  rename_i e
  simp only [Bool.and_eq_true, decide_eq_true_eq] at h
  exact .inl ⟨str_eq e, h.1, h.2⟩
 ·
  exact .inr h
theorem ahead_of_beh {a b : V} (h : Beh a b) : aheadB a b = true := by
 unfold aheadB
 rcases h with ⟨e, h1, h2⟩ | h
 ·
  rw [e]; simp [h1, h2]
 ·
  have hne : (a.k.toList == b.k.toList) = false := str_ne fun e => by rw [e, lt_irrefl] at h; cases h
  rw [hne]; simpa using h
theorem verB_to {z : Int} {x : V} (h : verB z x = true) : x.t = 0 ∨ x.f < x.t := by
 unfold verB at h
 simp only [Bool.and_eq_true, Bool.or_eq_true, decide_eq_true_eq] at h
 omega
theorem verB_from {z : Int} {x : V} (h : verB z x = true) : 1 ≤ x.f ∧ x.f ≤ z := by
 unfold verB at h
 simp only [Bool.and_eq_true, Bool.or_eq_true, decide_eq_true_eq] at h
 omega
theorem verB_toz {z : Int} {x : V} (h : verB z x = true) : x.t ≤ z := by
 have h1 := verB_from h
 unfold verB at h
 simp only [Bool.and_eq_true, Bool.or_eq_true, decide_eq_true_eq] at h
 omega
theorem verB_to0 {z : Int} {x : V} (h : verB z x = true) : 0 ≤ x.t := by
 have h1 := verB_from h
 have h2 := verB_to h
 omega
theorem beh_trans {a b c : V} (hb : b.t = 0 ∨ b.f < b.t) (h1 : Beh a b) (h2 : Beh b c) : Beh a c := by
 rcases h1 with ⟨e1, p1, q1⟩ | h1 <;> rcases h2 with ⟨e2, p2, q2⟩ | h2
 ·
  exact .inl ⟨e1.trans e2, p1, by omega⟩
 ·
  right; rw [e1]; exact h2
 ·
  right; rw [← e2]; exact h1
 ·
  exact .inr (lt_trans h1 h2)
theorem ord2_of {l : List V} {z : Int} (he : ∀ i (h : i < l.length), verB z l[i] = true) (ho : ∀ i (h : i + 1 < l.length), Beh l[i] l[i + 1]) : Ord2 l := by
 have key : ∀ j (hj : j < l.length) i (hi : i < j), Beh (l[i]'(by omega)) l[j] := by
  intro j
  induction j with
  | zero => intro hj i h; omega
  | succ j ih =>
   intro hj i hi
   by_cases e : i = j
   ·
    subst e; exact ho i hj
   ·
    exact beh_trans (verB_to (he j (by omega))) (ih (by omega) i (by omega)) (ho j hj)
 exact List.pairwise_iff_getElem.2 fun i j hi hj hij => key j hj i hij
theorem VersP.ord2 {z : Int} {l : List V} (h : VersP z l) : Ord2 l := ord2_of h.each fun i hi => beh_of_ahead (h.ord i hi)
theorem Ord2.keyLe {l : List V} (h : Ord2 l) : KeyLe l := fun i hi => by
 rcases (List.pairwise_iff_getElem.1 h) i (i + 1) (by omega) hi (by omega) with h1 | h1
 ·
  exact .inl h1.1
 ·
  exact .inr h1

theorem vs_sublist {chs : List Ch} {c : Ch} (h : c ∈ chs) : c.vs.Sublist (chs.flatMap Ch.vs) := by
 induction chs with
 | nil => simp at h
 | cons d chs ih =>
  rw [List.flatMap_cons]
  rcases List.mem_cons.1 h with rfl | h
  ·
   exact List.sublist_append_left _ _
  ·
   exact (ih h).trans (List.sublist_append_right _ _)
/-- in a chain each version ends before the next begins -/
def Chain (vs : List V) : Prop := vs.Pairwise fun a b => 0 < a.t ∧ a.t ≤ b.f
theorem Cons.chain {chs : List Ch} {l : List V} (h : Cons chs l) (ho : Ord2 l) {c : Ch} (hc : c ∈ chs) : Chain c.vs := by
 have h1 : c.vs.Pairwise Beh := List.Pairwise.sublist (by have := vs_sublist hc; rwa [h.flat] at this) ho
 have hk := (h.each c hc).2
 refine List.Pairwise.imp_of_mem ?_ h1
 intro a b ha hb hab
 rcases hab with ⟨_, h2⟩ | h2
 ·
  exact h2
 ·
  rw [hk a ha, hk b hb, lt_irrefl] at h2; cases h2
theorem vis_next {a b : V} {t : Int} (h : 0 < a.t ∧ a.t ≤ b.f) (ha : visB t a = true) : visB t b = false := by
 unfold visB at *
 simp only [Bool.and_eq_true, Bool.or_eq_true, decide_eq_true_eq, Bool.and_eq_false_iff, decide_eq_false_iff_not] at *
 omega
theorem filter_find {p : V → Bool} : {vs : List V} → vs.Pairwise (fun a b => p a = true → p b = false) → vs.filter p = (vs.find? p).toList
 | [], _ => rfl
 | a :: vs, h => by
  rw [List.pairwise_cons] at h
  cases hp : p a
  ·
   rw [List.filter_cons_of_neg (by simp [hp]), List.find?_cons_of_neg (by simp [hp])]
   exact filter_find h.2
  ·
   rw [List.filter_cons_of_pos hp, List.find?_cons_of_pos hp]
   have : vs.filter p = [] := by rw [List.filter_eq_nil_iff]; intro b hb; rw [h.1 b hb hp]; simp
   rw [this]; rfl
theorem Chain.seen {vs : List V} (h : Chain vs) (t : Int) : vs.filter (visB t) = (vs.find? (visB t)).toList :=
 filter_find (List.Pairwise.imp (fun hab ha => vis_next hab ha) h)
theorem snap_at {chs : List Ch} {l : List V} (h : Cons chs l) (ho : Ord2 l) (t : Int) : snapL t chs = atL l t := by
 have hch : ∀ c ∈ chs, Chain c.vs := fun c hc => h.chain ho hc
 rw [← h.flat]
 clear h ho
 induction chs with
 | nil => rfl
 | cons c chs ih =>
  have h1 := ih fun x hx => hch x (by simp [hx])
  have h2 := (hch c (by simp)).seen t
  have e1 : snapL t (c :: chs) = ((seen t c).map rowOf).toList ++ snapL t chs := by
   unfold snapL
   rw [List.filterMap_cons]
   cases hs : (seen t c).map rowOf <;> rfl
  have e2 : atL ((c :: chs).flatMap Ch.vs) t = (c.vs.filter (visB t)).map rowOf ++ atL (chs.flatMap Ch.vs) t := by
   unfold atL
   rw [List.flatMap_cons, List.filter_append, List.map_append]
  rw [e1, e2, h1, h2]
  unfold seen
  cases c.vs.find? (visB t) <;> rfl

/-- the program's order of two versions -/
noncomputable def inOrdB (a b : V) : Bool := if a.k.toList == b.k.toList then decide (a.t ≠ 0) && decide (a.t ≤ b.f) else lt a.k b.k
theorem inOrd_ahead {a b : V} {z : Int} (h : verB z a = true) : inOrdB a b = aheadB a b := by
 unfold inOrdB aheadB
 split
 ·
  have h1 := verB_from h
  have h2 := verB_to h
  rw [Bool.eq_iff_iff]
  simp only [Bool.and_eq_true, decide_eq_true_eq]
  omega
 ·
  rfl

end Go.Proofs.YtnijgbinjbikbaaGreat

namespace Go.Proofs.YtnijgbinjbikbaaGreat
open Go.RowKit
set_option linter.unusedVariables false
set_option maxRecDepth 100000

set_option maxHeartbeats 1000000 in
theorem implVer (x : V) (z : Int) (w : World) (hs : x.k.size ≤ maxLen) : Calls Tryz.prog 30 #[.agg #[.string x.k, .int .i64 x.n, .int .i64 x.f, .int .i64 x.t], .int .i64 z] w fun e w' => e = .returned (.bool (verB z x)) ∧ Below w.heap.size w w' := by
 go_enter Tryz.func30, Tryz.ntmps30
 go_wp2_with (first | (go_at_call 59; refine (implKey _ _ hs).mono ?_; rintro e w' ⟨rfl, rfl⟩) | (go_at_call 60; refine (implNum _ _).mono ?_; rintro e w' ⟨rfl, rfl⟩))
 all_goals
  go_ret
  refine ⟨ret_bool ?_, (by (repeat (first | exact Below.refl _ _ | (refine Below.setCell ?_ (by simp <;> omega) _) | (refine Below.alloc ?_ (by simp <;> omega) _) | (refine Below.drew ?_))))⟩
  unfold verB
  first | (simp_all <;> done) | (rw [Bool.eq_iff_iff]; simp_all <;> omega)

set_option maxHeartbeats 1000000 in
theorem implInOrder (x y : V) (w : World) : Calls Tryz.prog 31 #[.agg #[.string x.k, .int .i64 x.n, .int .i64 x.f, .int .i64 x.t], .agg #[.string y.k, .int .i64 y.n, .int .i64 y.f, .int .i64 y.t]] w fun e w' => e = .returned (.bool (inOrdB x y)) ∧ Below w.heap.size w w' := by
 go_enter Tryz.func31, Tryz.ntmps31
 go_wp2
 all_goals
  go_ret
  refine ⟨ret_bool ?_, (by (repeat (first | exact Below.refl _ _ | (refine Below.setCell ?_ (by simp <;> omega) _) | (refine Below.alloc ?_ (by simp <;> omega) _) | (refine Below.drew ?_))))⟩
  unfold inOrdB lt
  first | (simp_all <;> done) | (rw [Bool.eq_iff_iff]; simp_all <;> omega)

set_option maxHeartbeats 4000000 in
theorem implVersOk (z : Int) (A : Option Addr) (c : Nat) (l : List V) (w : World) (hfit : FitVs l) (hlc : l.length ≤ c) (hcm : c ≤ maxLen) (hr : RdG w w.heap.size A l) :
  Calls Tryz.prog 11 #[.agg #[.int .i64 z, .slice A l.length c]] w fun e w' => e = .returned (.bool (versB z l)) ∧ Below w.heap.size w w' := by
 have hb0 : Below w.heap.size w (w.alloc (.cells #[.int .i64 z, .slice A l.length c] 32)) := below_alloc (Below.refl _ _) _
 have hB0 := blkA w #[.int .i64 z, .slice A l.length c] 32
 by_cases h1 : z < 0
 ·
  have HN := Lib.hid (versB_no fun h : VersP z l => by have := h.now0; omega)
  have hd : decide (z < 0) = true := decide_eq_true h1
  go_enter Tryz.func11, Tryz.ntmps11
  go_wp2
  go_ret
  exact ⟨ret_bool HN.out.symm, hb0⟩
 have hd1 : decide (z < 0) = false := decide_eq_false h1
 by_cases h2 : 40 < z
 ·
  have HN := Lib.hid (versB_no fun h : VersP z l => by have := h.now; omega)
  have hd : decide (40 < z) = true := decide_eq_true h2
  go_enter Tryz.func11, Tryz.ntmps11
  go_wp2
  go_ret
  exact ⟨ret_bool HN.out.symm, hb0⟩
 have hd2 : decide (40 < z) = false := decide_eq_false h2
 by_cases h3 : 60 < l.length
 ·
  have HN := Lib.hid (versB_no fun h : VersP z l => by have := h.len; omega)
  have hd : decide (60 < l.length) = true := decide_eq_true h3
  have hd' : decide ((60 : Int) < (l.length : Int)) = true := decide_eq_true (by omega)
  go_enter Tryz.func11, Tryz.ntmps11
  go_wp2
  go_ret
  exact ⟨ret_bool HN.out.symm, hb0⟩
 have hd3 : decide (60 < l.length) = false := decide_eq_false h3
 have hd3' : decide ((60 : Int) < (l.length : Int)) = false := decide_eq_false (by omega)
 go_enter Tryz.func11, Tryz.ntmps11
 go_wp2
 clear hd1 hd2 hd3 hd3'
 go_loopw [22] (fun i W => ∃ k : Nat, k ≤ l.length ∧ i = .int .i64 k ∧ Blk W w.heap.size 32 #[.int .i64 z, .slice A l.length c] ∧ Below w.heap.size w W ∧ (∀ j (h : j < l.length), j < k → verB z l[j] = true) ∧ (∀ j (h : j + 1 < l.length), j + 1 < k → aheadB l[j] l[j + 1] = true)) (fun i _ => l.length - (intOf i).toNat)
 case atStart => exact ⟨0, Nat.zero_le _, rfl, hB0, hb0, fun j h h0 => absurd h0 (by omega), fun j h h0 => absurd h0 (by omega)⟩
 case round =>
  obtain ⟨k, hk, rfl, hB, hb, hall, hord⟩ := hrel
  have HALL := Lib.hid hall
  have HORD := Lib.hid hord
  clear hall hord
  by_cases hkl : k < l.length
  ·
   obtain ⟨b, o, rfl, hbB, hc0, hc1, hc2, hc3⟩ := (hr.below hb).atV hkl
   have hs := (hfit _ (List.getElem_mem hkl)).1
   have hkI := lenI _ _ hkl
   have hbX : Below wr.heap.size wr (wr.alloc (.cells #[.string l[k].k, .int .i64 l[k].n, .int .i64 l[k].f, .int .i64 l[k].t] 68)) := below_alloc (Below.refl _ _) _
   have hX := blkA wr #[.string l[k].k, .int .i64 l[k].n, .int .i64 l[k].f, .int .i64 l[k].t] 68
   have hq0 : b < wr.heap.size := Nat.lt_of_lt_of_le hbB hb.size
   have hqB0 := hB.lt
   obtain ⟨wn, HW⟩ : ∃ wn, Hid (wr.alloc (.cells #[.string l[k].k, .int .i64 l[k].n, .int .i64 l[k].f, .int .i64 l[k].t] 68) = wn) := ⟨_, Lib.hid rfl⟩
   rw [HW.out] at hbX hX
   have hBn := hB.next hbX
   have q0 : wn.cell? ⟨w.heap.size, 0, none⟩ = some (.int .i64 z) := by rw [hBn.cell]; rfl
   have q1 : wn.cell? ⟨w.heap.size, 1, none⟩ = some (.slice (some ⟨b, o, none⟩) l.length c) := by rw [hBn.cell]; rfl
   have x0 : wn.cell? ⟨wr.heap.size, 0, none⟩ = some (.string l[k].k) := by rw [hX.cell]; rfl
   have x1 : wn.cell? ⟨wr.heap.size, 1, none⟩ = some (.int .i64 l[k].n) := by rw [hX.cell]; rfl
   have x2 : wn.cell? ⟨wr.heap.size, 2, none⟩ = some (.int .i64 l[k].f) := by rw [hX.cell]; rfl
   have x3 : wn.cell? ⟨wr.heap.size, 3, none⟩ = some (.int .i64 l[k].t) := by rw [hX.cell]; rfl
   have hqB := hBn.lt
   have hqX := hX.lt
   have hq : b < wn.heap.size := Nat.lt_of_lt_of_le hq0 hbX.size
   have hbN : Below w.heap.size w wn := hb.trans (hbX.mono hb.size)
   have hbT : Below wn.heap.size wn wn.drew := (Below.refl _ _).drew
   cases hv : verB z l[k]
   ·
    have HN := Lib.hid (versB_no fun h : VersP z l => by have := h.each k hkl; rw [hv] at this; cases this)
    go_wp2
    rw [HW.out]
    clear hc0 hc1 hc2 hc3
    refine wp_region_held_drew (S := (fun W => W.cell? ⟨w.heap.size, 0, none⟩ = some (.int .i64 z) ∧ W.cell? ⟨w.heap.size, 1, none⟩ = some (.slice (some ⟨b, o, none⟩) l.length c) ∧ W.cell? ⟨wr.heap.size, 0, none⟩ = some (.string l[k].k) ∧ W.cell? ⟨wr.heap.size, 1, none⟩ = some (.int .i64 l[k].n) ∧ W.cell? ⟨wr.heap.size, 2, none⟩ = some (.int .i64 l[k].f) ∧ W.cell? ⟨wr.heap.size, 3, none⟩ = some (.int .i64 l[k].t))) (by kernel_rfl) ?_ (fun hHeld => ?_)
    focus ((try dsimp only); (first | exact ⟨q0, q1, x0, x1, x2, x3⟩ | exact ⟨(hbT.cell hqB).trans q0, (hbT.cell hqB).trans q1, (hbT.cell hqX).trans x0, (hbT.cell hqX).trans x1, (hbT.cell hqX).trans x2, (hbT.cell hqX).trans x3⟩))
    refine tk 0 ?_
    refine tk 1 ?_
    refine tk 2 ?_
    (refine rd1 3 (fun K hK => ?_); go_simp; (go_at_call 30; refine (implVer l[k] _ _ hs).mono ?_; rintro e w' ⟨rfl, hb2⟩; rw [hv]; have hbT := hbT.trans (hb2.mono hbT.size); clear hb2); go_wp2_with fail; refine hK.out _ _ ?_ (fun hHeld => ?_); (focus ((try dsimp only); (first | exact ⟨q0, q1, x0, x1, x2, x3⟩ | exact ⟨(hbT.cell hqB).trans q0, (hbT.cell hqB).trans q1, (hbT.cell hqX).trans x0, (hbT.cell hqX).trans x1, (hbT.cell hqX).trans x2, (hbT.cell hqX).trans x3⟩))); clear hK K; (try simp only [Act.put, pa, pb, pc]))
    refine tk 4 ?_
    refine tk 5 ?_
    refine ts 6 ?_
    refine ts 7 ?_
    refine ts 8 ?_
    refine ts 9 ?_
    refine ts 10 ?_
    refine ts 11 ?_
    refine ts 12 ?_
    refine ts 13 ?_
    refine ts 14 ?_
    refine ts 15 ?_
    refine ts 16 ?_
    refine ts 17 ?_
    refine ts 18 ?_
    refine tk 19 ?_
    refine wpAnyH_done (by kernel_rfl) ?_ _
    go_wp2
    go_ret
    exact ⟨ret_bool HN.out.symm, hbN.trans (hbT.mono hbN.size)⟩
   ·
    by_cases hk0 : k = 0
    ·
     have hz : decide (0 < k) = false := by simp; omega
     have H0 := Lib.hid hk0
     have HV := Lib.hid hv
     clear hk0
     go_wp2
     rw [HW.out]
     clear hc0 hc1 hc2 hc3
     refine wp_region_held_drew (S := (fun W => W.cell? ⟨w.heap.size, 0, none⟩ = some (.int .i64 z) ∧ W.cell? ⟨w.heap.size, 1, none⟩ = some (.slice (some ⟨b, o, none⟩) l.length c) ∧ W.cell? ⟨wr.heap.size, 0, none⟩ = some (.string l[k].k) ∧ W.cell? ⟨wr.heap.size, 1, none⟩ = some (.int .i64 l[k].n) ∧ W.cell? ⟨wr.heap.size, 2, none⟩ = some (.int .i64 l[k].f) ∧ W.cell? ⟨wr.heap.size, 3, none⟩ = some (.int .i64 l[k].t))) (by kernel_rfl) ?_ (fun hHeld => ?_)
     focus ((try dsimp only); (first | exact ⟨q0, q1, x0, x1, x2, x3⟩ | exact ⟨(hbT.cell hqB).trans q0, (hbT.cell hqB).trans q1, (hbT.cell hqX).trans x0, (hbT.cell hqX).trans x1, (hbT.cell hqX).trans x2, (hbT.cell hqX).trans x3⟩))
     refine tk 0 ?_
     refine tk 1 ?_
     refine tk 2 ?_
     (refine rd1 3 (fun K hK => ?_); go_simp; (go_at_call 30; refine (implVer l[k] _ _ hs).mono ?_; rintro e w' ⟨rfl, hb2⟩; rw [hv]; have hbT := hbT.trans (hb2.mono hbT.size); clear hb2); go_wp2_with fail; refine hK.out _ _ ?_ (fun hHeld => ?_); (focus ((try dsimp only); (first | exact ⟨q0, q1, x0, x1, x2, x3⟩ | exact ⟨(hbT.cell hqB).trans q0, (hbT.cell hqB).trans q1, (hbT.cell hqX).trans x0, (hbT.cell hqX).trans x1, (hbT.cell hqX).trans x2, (hbT.cell hqX).trans x3⟩))); clear hK K; (try simp only [Act.put, pa, pb, pc]))
     refine tk 4 ?_
     refine tk 5 ?_
     refine tk 6 ?_
     refine tk 7 ?_
     refine tk 8 ?_
     refine ts 9 ?_
     refine ts 10 ?_
     refine ts 11 ?_
     refine ts 12 ?_
     refine ts 13 ?_
     refine ts 14 ?_
     refine ts 15 ?_
     refine ts 16 ?_
     refine ts 17 ?_
     refine tk 18 ?_
     refine tk 19 ?_
     refine wpAnyH_done (by kernel_rfl) ?_ _
     go_wp2
     go_roundw
     case rel => exact ⟨k + 1, by omega, by go_num, hBn.next hbT, hbN.trans (hbT.mono hbN.size), fun j h h1 => by
      have e := H0.out
      obtain rfl : j = k := by omega
      exact HV.out, fun j h h1 => absurd h1 (by have := H0.out; omega)⟩
     case measure => simp [intOf]; omega
    ·
     have hz : decide (0 < k) = true := by simp; omega
     obtain ⟨hp0, hp1, hp2, hp3⟩ := (hr.below hbN).fixV rfl (i := k - 1) (by omega)
     have hi1 : ((k : Int) - 1).toNat = k - 1 := by omega
     have hi2 : (0 : Int) ≤ (k : Int) - 1 := by omega
     have hi3 : (k : Int) - 1 < (l.length : Int) := by omega
     have hi4 : (1 : Int) ≤ (k : Int) := by omega
     have hi5 : (0 : Int) ≤ (k : Int) := by omega
     have hi7 : IntKind.i64.wrap ((k : Int) - 1) = (k : Int) - 1 := IntWalk.i64_in _ (by omega)
     have hae : inOrdB (l[k - 1]'(by omega)) l[k] = aheadB (l[k - 1]'(by omega)) l[k] := inOrd_ahead (HALL.out (k - 1) (by omega) (by omega))
     cases ha0 : aheadB (l[k - 1]'(by omega)) l[k]
     ·
      have ha := hae.trans ha0
      have HN := Lib.hid (versB_no fun h : VersP z l => by
       have := h.ord (k - 1) (by omega)
       have e : k - 1 + 1 = k := by omega
       simp only [e] at this
       rw [ha0] at this; cases this)
      clear hae ha0
      go_wp2
      rw [HW.out]
      clear hc0 hc1 hc2 hc3
      refine wp_region_held_drew (S := (fun W => W.cell? ⟨w.heap.size, 0, none⟩ = some (.int .i64 z) ∧ W.cell? ⟨w.heap.size, 1, none⟩ = some (.slice (some ⟨b, o, none⟩) l.length c) ∧ W.cell? ⟨wr.heap.size, 0, none⟩ = some (.string l[k].k) ∧ W.cell? ⟨wr.heap.size, 1, none⟩ = some (.int .i64 l[k].n) ∧ W.cell? ⟨wr.heap.size, 2, none⟩ = some (.int .i64 l[k].f) ∧ W.cell? ⟨wr.heap.size, 3, none⟩ = some (.int .i64 l[k].t) ∧ W.cell? ⟨b, o + (k - 1) * 4, none⟩ = some (.string (l[k - 1]'(by omega)).k) ∧ W.cell? ⟨b, o + (k - 1) * 4 + 1, none⟩ = some (.int .i64 (l[k - 1]'(by omega)).n) ∧ W.cell? ⟨b, o + (k - 1) * 4 + 2, none⟩ = some (.int .i64 (l[k - 1]'(by omega)).f) ∧ W.cell? ⟨b, o + (k - 1) * 4 + 3, none⟩ = some (.int .i64 (l[k - 1]'(by omega)).t))) (by kernel_rfl) ?_ (fun hHeld => ?_)
      focus ((try dsimp only); (first | exact ⟨q0, q1, x0, x1, x2, x3, hp0, hp1, hp2, hp3⟩ | exact ⟨(hbT.cell hqB).trans q0, (hbT.cell hqB).trans q1, (hbT.cell hqX).trans x0, (hbT.cell hqX).trans x1, (hbT.cell hqX).trans x2, (hbT.cell hqX).trans x3, (hbT.cell hq).trans hp0, (hbT.cell hq).trans hp1, (hbT.cell hq).trans hp2, (hbT.cell hq).trans hp3⟩))
      refine tk 0 ?_
      refine tk 1 ?_
      refine tk 2 ?_
      (refine rd1 3 (fun K hK => ?_); go_simp; (go_at_call 30; refine (implVer l[k] _ _ hs).mono ?_; rintro e w' ⟨rfl, hb2⟩; rw [hv]; have hbT := hbT.trans (hb2.mono hbT.size); clear hb2); go_wp2_with fail; refine hK.out _ _ ?_ (fun hHeld => ?_); (focus ((try dsimp only); (first | exact ⟨q0, q1, x0, x1, x2, x3, hp0, hp1, hp2, hp3⟩ | exact ⟨(hbT.cell hqB).trans q0, (hbT.cell hqB).trans q1, (hbT.cell hqX).trans x0, (hbT.cell hqX).trans x1, (hbT.cell hqX).trans x2, (hbT.cell hqX).trans x3, (hbT.cell hq).trans hp0, (hbT.cell hq).trans hp1, (hbT.cell hq).trans hp2, (hbT.cell hq).trans hp3⟩))); clear hK K; (try simp only [Act.put, pa, pb, pc]))
      refine tk 4 ?_
      refine tk 5 ?_
      refine tk 6 ?_
      refine tk 7 ?_
      refine tk 8 ?_
      refine tk 9 ?_
      refine tk 10 ?_
      refine tk 11 ?_
      refine tk 12 ?_
      refine tk 13 ?_
      refine tk 14 ?_
      refine tk 15 ?_
      (refine rd1 16 (fun K hK => ?_); go_simp; (go_at_call 31; refine (implInOrder (l[k - 1]'(by omega)) l[k] _).mono ?_; rintro e w' ⟨rfl, hb2⟩; rw [ha]; have hbT := hbT.trans (hb2.mono hbT.size); clear hb2); go_wp2_with fail; refine hK.out _ _ ?_ (fun hHeld => ?_); (focus ((try dsimp only); (first | exact ⟨q0, q1, x0, x1, x2, x3, hp0, hp1, hp2, hp3⟩ | exact ⟨(hbT.cell hqB).trans q0, (hbT.cell hqB).trans q1, (hbT.cell hqX).trans x0, (hbT.cell hqX).trans x1, (hbT.cell hqX).trans x2, (hbT.cell hqX).trans x3, (hbT.cell hq).trans hp0, (hbT.cell hq).trans hp1, (hbT.cell hq).trans hp2, (hbT.cell hq).trans hp3⟩))); clear hK K; (try simp only [Act.put, pa, pb, pc]))
      refine tk 17 ?_
      refine tk 18 ?_
      refine tk 19 ?_
      refine wpAnyH_done (by kernel_rfl) ?_ _
      go_wp2
      go_ret
      exact ⟨ret_bool HN.out.symm, hbN.trans (hbT.mono hbN.size)⟩
     ·
      have ha := hae.trans ha0
      have HV := Lib.hid hv
      have HA := Lib.hid ha0
      clear hae ha0
      go_wp2
      rw [HW.out]
      clear hc0 hc1 hc2 hc3
      refine wp_region_held_drew (S := (fun W => W.cell? ⟨w.heap.size, 0, none⟩ = some (.int .i64 z) ∧ W.cell? ⟨w.heap.size, 1, none⟩ = some (.slice (some ⟨b, o, none⟩) l.length c) ∧ W.cell? ⟨wr.heap.size, 0, none⟩ = some (.string l[k].k) ∧ W.cell? ⟨wr.heap.size, 1, none⟩ = some (.int .i64 l[k].n) ∧ W.cell? ⟨wr.heap.size, 2, none⟩ = some (.int .i64 l[k].f) ∧ W.cell? ⟨wr.heap.size, 3, none⟩ = some (.int .i64 l[k].t) ∧ W.cell? ⟨b, o + (k - 1) * 4, none⟩ = some (.string (l[k - 1]'(by omega)).k) ∧ W.cell? ⟨b, o + (k - 1) * 4 + 1, none⟩ = some (.int .i64 (l[k - 1]'(by omega)).n) ∧ W.cell? ⟨b, o + (k - 1) * 4 + 2, none⟩ = some (.int .i64 (l[k - 1]'(by omega)).f) ∧ W.cell? ⟨b, o + (k - 1) * 4 + 3, none⟩ = some (.int .i64 (l[k - 1]'(by omega)).t))) (by kernel_rfl) ?_ (fun hHeld => ?_)
      focus ((try dsimp only); (first | exact ⟨q0, q1, x0, x1, x2, x3, hp0, hp1, hp2, hp3⟩ | exact ⟨(hbT.cell hqB).trans q0, (hbT.cell hqB).trans q1, (hbT.cell hqX).trans x0, (hbT.cell hqX).trans x1, (hbT.cell hqX).trans x2, (hbT.cell hqX).trans x3, (hbT.cell hq).trans hp0, (hbT.cell hq).trans hp1, (hbT.cell hq).trans hp2, (hbT.cell hq).trans hp3⟩))
      refine tk 0 ?_
      refine tk 1 ?_
      refine tk 2 ?_
      (refine rd1 3 (fun K hK => ?_); go_simp; (go_at_call 30; refine (implVer l[k] _ _ hs).mono ?_; rintro e w' ⟨rfl, hb2⟩; rw [hv]; have hbT := hbT.trans (hb2.mono hbT.size); clear hb2); go_wp2_with fail; refine hK.out _ _ ?_ (fun hHeld => ?_); (focus ((try dsimp only); (first | exact ⟨q0, q1, x0, x1, x2, x3, hp0, hp1, hp2, hp3⟩ | exact ⟨(hbT.cell hqB).trans q0, (hbT.cell hqB).trans q1, (hbT.cell hqX).trans x0, (hbT.cell hqX).trans x1, (hbT.cell hqX).trans x2, (hbT.cell hqX).trans x3, (hbT.cell hq).trans hp0, (hbT.cell hq).trans hp1, (hbT.cell hq).trans hp2, (hbT.cell hq).trans hp3⟩))); clear hK K; (try simp only [Act.put, pa, pb, pc]))
      refine tk 4 ?_
      refine tk 5 ?_
      refine tk 6 ?_
      refine tk 7 ?_
      refine tk 8 ?_
      refine tk 9 ?_
      refine tk 10 ?_
      refine tk 11 ?_
      refine tk 12 ?_
      refine tk 13 ?_
      refine tk 14 ?_
      refine tk 15 ?_
      (refine rd1 16 (fun K hK => ?_); go_simp; (go_at_call 31; refine (implInOrder (l[k - 1]'(by omega)) l[k] _).mono ?_; rintro e w' ⟨rfl, hb2⟩; rw [ha]; have hbT := hbT.trans (hb2.mono hbT.size); clear hb2); go_wp2_with fail; refine hK.out _ _ ?_ (fun hHeld => ?_); (focus ((try dsimp only); (first | exact ⟨q0, q1, x0, x1, x2, x3, hp0, hp1, hp2, hp3⟩ | exact ⟨(hbT.cell hqB).trans q0, (hbT.cell hqB).trans q1, (hbT.cell hqX).trans x0, (hbT.cell hqX).trans x1, (hbT.cell hqX).trans x2, (hbT.cell hqX).trans x3, (hbT.cell hq).trans hp0, (hbT.cell hq).trans hp1, (hbT.cell hq).trans hp2, (hbT.cell hq).trans hp3⟩))); clear hK K; (try simp only [Act.put, pa, pb, pc]))
      refine tk 17 ?_
      refine tk 18 ?_
      refine tk 19 ?_
      refine wpAnyH_done (by kernel_rfl) ?_ _
      go_wp2
      go_roundw
      case rel => exact ⟨k + 1, by omega, by go_num, hBn.next hbT, hbN.trans (hbT.mono hbN.size), fun j h h1 => by
       by_cases e : j = k
       ·
        subst e; exact HV.out
       ·
        exact HALL.out j h (by omega), fun j h h1 => by
       by_cases e : j + 1 = k
       ·
        have := HA.out
        have e2 : k - 1 = j := by omega
        simp only [e2] at this
        simpa [e] using this
       ·
        exact HORD.out j h (by omega)⟩
      case measure => simp [intOf]; omega
  ·
   have hkI : decide ((k : Int) < (l.length : Int)) = false := decide_eq_false (by omega)
   have HK := Lib.hid (show k = l.length from by omega)
   have q0 : wr.cell? ⟨w.heap.size, 0, none⟩ = some (.int .i64 z) := by rw [hB.cell]; rfl
   have q1 : wr.cell? ⟨w.heap.size, 1, none⟩ = some (.slice A l.length c) := by rw [hB.cell]; rfl
   have hall : ∀ i (h : i < l.length), verB z l[i] = true := fun i h => HALL.out i h (by have := HK.out; omega)
   have hord : ∀ i (h : i + 1 < l.length), aheadB l[i] l[i + 1] = true := fun i h => HORD.out i h (by have := HK.out; omega)
   have ho := ord2_of hall fun i h => beh_of_ahead (hord i h)
   have HP := Lib.hid (fun chs (hC : Cons chs l) => (show fitB z chs = versB z l from by
    by_cases hf : ∀ t : Int, 0 ≤ t → t ≤ z → (atL l t).length ≤ 10
    ·
     rw [fitB_yes fun t h0 h1 => by rw [snap_at hC ho]; exact hf t h0 h1, versB_yes ⟨by omega, by omega, by omega, hall, hord, hf⟩]
    ·
     rw [versB_no fun h => hf h.few]
     unfold fitB
     simp only [decide_eq_false_iff_not]
     intro hh
     exact hf fun t h0 h1 => by have := hh t h0 h1; rwa [snap_at hC ho] at this))
   have hkle := ho.keyLe
   have HKL := Lib.hid hkle
   clear hall hord ho hkle
   have hr2 := (hr.below hb).more hb.size
   go_wp2_with fail
   refine (storageOf_c z A c l wr (by omega) HKL.out hr2).mono ?_
   rintro e w3 ⟨s, chs, rfl, hS, hC, hb3⟩
   have HE := Lib.hid (HP.out chs hC)
   go_wp2_with fail
   refine (fit_c wr.heap.size s z chs w3 hS (by omega) (by have := hC.length; omega)).mono ?_
   rintro e w4 ⟨rfl, hb4⟩
   rw [HE.out]
   go_wp2
   go_ret
   exact ⟨rfl, hb.trans ((below_next hb3 hb4).mono hb.size)⟩

theorem implVersOkO {v : Value} {z : Int} {l : List V} {base : Nat} {w : World} (h : OwnG w base v l) (hf : FitVs l) :
  Calls Tryz.prog 11 #[.agg #[.int .i64 z, v]] w fun e w' => e = .returned (.bool (versB z l)) ∧ Below w.heap.size w w' := by
 obtain ⟨A, c, rfl, h1, h2, hr⟩ := h.read
 exact implVersOk z A c l w hf h1 h2 hr
theorem specVersOkO {v : Value} {z : Int} {l : List V} {base : Nat} {w : World} (h : OwnG w base v l) (hf : FitVs l) :
  Calls Tryz.prog 28 #[.agg #[.int .i64 z, v]] w fun e w' => e = .returned (.bool (versB z l)) ∧ Below w.heap.size w w' := by
 obtain ⟨A, c, rfl, h1, h2, hr⟩ := h.read
 exact specVersOk z A c l w hf h1 h2 hr

end Go.Proofs.YtnijgbinjbikbaaGreat

namespace Go.Proofs.YtnijgbinjbikbaaGreat
open Go.RowKit Go.Shelf
set_option linter.unusedVariables false
set_option maxRecDepth 100000
attribute [local go_sem] Oper.semAt_some

noncomputable def versAt (z : Int) (l : List V) (t : Int) : List R := if versB z l && decide (0 ≤ t) && decide (t ≤ z) then atL l t else []
theorem versAt_length (z : Int) (l : List V) (t : Int) : (versAt z l t).length ≤ l.length := by
 unfold versAt
 split
 ·
  exact atL_length l t
 ·
  simp
theorem versAt_yes {z : Int} {l : List V} {t : Int} (h : versB z l = true) (h0 : 0 ≤ t) (h1 : t ≤ z) : versAt z l t = atL l t := by unfold versAt; simp [h, h0, h1]
theorem versAt_no {z : Int} {l : List V} {t : Int} (h : versB z l = false ∨ t < 0 ∨ z < t) : versAt z l t = [] := by
 unfold versAt
 rw [if_neg]
 simp only [Bool.and_eq_true, decide_eq_true_eq]
 rintro ⟨⟨h1, h2⟩, h3⟩
 rcases h with h | h | h
 ·
  rw [h] at h1; cases h1
 ·
  omega
 ·
  omega

theorem Chg.grown {S : Nat → Prop} {w W W' : World} {row : Option Nat} (h : Chg S w W) (hg : W.grownBy W' row) (hr : ∀ k, row = some k → w.heap.size ≤ k) : Chg S w W' :=
 ⟨hg.os.trans h.os, hg.tape.trans h.tape, hg.output.trans h.output, Nat.le_trans h.size hg.size, fun k hk hn => (hg.block k (Nat.lt_of_lt_of_le hk h.size) (fun e => by have := hr k e.symm; omega)).trans (h.block k hk hn)⟩
theorem OwnR.setCell {w : World} {base : Nat} {v : Value} {l : List R} (h : OwnR w base v l) {a : Addr} (ha : ∀ g, v.ownBlock = some g → g ≠ a.block) (u : Value) : OwnR (w.setCell a u) base v l :=
 h.keep fun g hg => Below.heap_setCell w a u g (ha g hg)
theorem ownR_keep {W W' : World} {row : Option Nat} {base : Nat} {v : Value} {l : List R} (h : OwnR W base v l) (hg : W.grownBy W' row) (hr : ∀ r, row = some r → ∃ o : Obj, W.heap[r]? = some o ∧ o.isCells = false) : OwnR W' base v l := by
 rcases h.cases with ⟨rfl, rfl⟩ | ⟨g, cap, cur, rfl, hb, hblk, hl, hm, hs, ht⟩
 ·
  exact OwnR.nil _ _
 ·
  refine OwnR.mk hb ((hg.block g hblk.lt fun e => ?_).trans hblk) hl hm hs ht
  obtain ⟨o, h1, h2⟩ := hr g e.symm
  rw [show W.heap[g]? = _ from hblk] at h1
  cases h1; cases h2
theorem ownR_cells {W : World} {base : Nat} {v : Value} {l : List R} (h : OwnR W base v l) : ∀ (j : Nat) (o : Obj), v.ownBlock = some j → W.heap[j]? = some o → o.isCells = true := by
 intro j o hj ho
 rcases h.cases with ⟨rfl, rfl⟩ | ⟨g, cap, cur, rfl, hb, hblk, hl, hm, hs, ht⟩
 ·
  simp [Value.ownBlock] at hj
 ·
  have : g = j := by simpa [Value.ownBlock] using hj
  subst this
  rw [show W.heap[g]? = _ from hblk] at ho
  cases ho; rfl

theorem wpListIn_appR {F : Fence} {n : Nat} {ops : Array Oper} {rest : List Oper} {o : Oper} {a : Act} {Q : Exit → Act → World → Prop} (w : World) (hgd : o.guard = none) (s x : Operand) (t : TypeId)
  (ho : o.op = .call { callee := .builtin .append, args := #[s, x], argTypes := #[t, t] }) (ht : Tryz.prog.underlying t = some (.slice 94))
  (base : Nat) (v : Value) (l : List R) (hs : a.eval s = v) (hown : OwnR w base v l) (A : Option Addr) (c B n2 : Nat) (l2 : List R) (hn2 : l2.length = n2) (hx : a.eval x = .slice A n2 c) (hr : Rd w B A l2) (hlen : l.length + l2.length ≤ 4194304) (hbase : base ≤ w.heap.size)
  (h : ∀ v' w', OwnR w' base v' (l ++ l2) → w.grownBy w' v.ownBlock → wpListIn F n Tryz.prog ops Q rest (a.put o.dst v') w') :
  wpListIn F n Tryz.prog ops Q (o :: rest) a w := by
 subst hn2
 refine wpListIn_plain hgd fun K hK' => ?_
 obtain ⟨v', w', hrun, r1, r2, r3⟩ := runAppR t t o.type 94 ht ht w base v l hown A c B l2 hr hlen hbase
 unfold Oper.wpIn
 refine ⟨?_, ?_⟩
 ·
  simp [Oper.about, ho, resolve, Target.leads, Sem.run_pure]
 ·
  rw [Oper.semAt_plain F _ _ (by rw [ho]; intro c hc'; cases hc')]
  simp [execOp, ho, resolve, invoke, builtin, hs, hx, hrun, Result.andThen]
  exact hK' _ _ (h v' w' r1 r2)

/-- what the loop keeps: the rows that have come lie in their box, all else is as it was -/
def RowI (w4 : World) (rb : Nat) (pre : List R) (W : World) : Prop := (∃ v, Boxed W rb 57 v ∧ OwnR W w4.heap.size v pre) ∧ Chg (fun b => b = rb) w4 W
theorem rowI_own (w4 : World) (rb : Nat) (hcb : rb < w4.heap.size) : OwnFrom w4.heap.size (RowI w4 rb) := by
 rintro s W W' row ⟨⟨v, hv, ho⟩, hc⟩ hg hr
 exact ⟨⟨v, (hg.block rb hv.lt (fun e => by have := (hr rb e.symm).1; omega)).trans hv, ownR_keep ho hg fun r e => (hr r e).2⟩, hc.grown hg fun k e => (hr k e).1⟩
theorem RowI.alloc {w4 : World} {rb : Nat} {pre : List R} {W : World} (h : RowI w4 rb pre W) (o : Obj) : RowI w4 rb pre (W.alloc o) := by
 obtain ⟨⟨v, hv, ho⟩, hc⟩ := h
 exact ⟨⟨v, hv.alloc _, ho.alloc _⟩, hc.alloc o⟩

/-- the body's step: a row is appended to what lies in the box -/
theorem row_step {w4 W w5 : World} {rb : Nat} {pre : List R} {x : R} {v v' : Value} {tmp : Obj} {T : Nat → Prop} (hrb : rb < w4.heap.size) (hT : ∀ k, T k → k < w4.heap.size ∧ k ≠ rb) (hv : Boxed W rb 57 v) (ho : OwnR W w4.heap.size v pre) (hc : Chg (fun b => b = rb) w4 W)
  (ho' : OwnR w5 w4.heap.size v' (pre ++ [x])) (hg : (W.alloc tmp).grownBy w5 v.ownBlock) :
  Boxed w5 rb 57 v ∧ (KeepsFrom w4.heap.size W (w5.setCell ⟨rb, 0, none⟩ v') ∧ KpT T W (w5.setCell ⟨rb, 0, none⟩ v') ∧ RowI w4 rb (pre ++ [x]) (w5.setCell ⟨rb, 0, none⟩ v')) := by
 have hge : ∀ g, v.ownBlock = some g → w4.heap.size ≤ g := fun g h => (ho.block_lt h).1
 have hge' : ∀ g, v'.ownBlock = some g → w4.heap.size ≤ g := fun g h => (ho'.block_lt h).1
 have hsz : W.heap.size ≤ (W.alloc tmp).heap.size := by simp
 have hv5 : Boxed w5 rb 57 v := (hg.block rb (hv.alloc tmp).lt (fun e => by have := hge rb e.symm; omega)).trans (hv.alloc tmp)
 refine ⟨hv5, ?_, ?_, ⟨v', ?_, ?_⟩, ?_⟩
 ·
  exact (((KeepsOthers.alloc W tmp).trans (KeepsOthers.of_grownBy hg (ownR_cells (ho.alloc tmp)))).trans (KeepsOthers.setCell _ _ _)).from _
 ·
  refine ⟨by have := hg.size; simp [World.setCell] at this ⊢; omega, fun k hk => ?_⟩
  obtain ⟨h1, h2⟩ := hT k hk
  have hkW : k < W.heap.size := Nat.lt_of_lt_of_le h1 hc.size
  rw [Below.heap_setCell w5 ⟨rb, 0, none⟩ v' k h2]
  exact (hg.block k (by simp; omega) (fun e => by have := hge k e.symm; omega)).trans (Below.heap_alloc W tmp k hkW)
 ·
  have hv5' : Blk w5 rb 57 #[v] := hv5
  exact (hv5'.set_ 0 v').cast rfl
 ·
  exact ho'.setCell (a := ⟨rb, 0, none⟩) (fun g h e => by have := hge' g h; have : g = rb := e; omega) _
 ·
  exact (((hc.alloc tmp).grown hg hge)).setCell (a := ⟨rb, 0, none⟩) (.inl rfl) _

end Go.Proofs.YtnijgbinjbikbaaGreat

namespace Go.Proofs.YtnijgbinjbikbaaGreat
open Go.RowKit
set_option linter.unusedVariables false
set_option maxRecDepth 100000

set_option maxHeartbeats 400000 in
theorem specMax (a b : Int) (w : World) : Calls Tryz.prog 121 #[.int .i64 a, .int .i64 b] w fun e w' => e = .returned (.int .i64 (max a b)) ∧ w = w' := by
 go_enter Tryz.func121, Tryz.ntmps121
 go_wp2
 all_goals
  go_ret
  exact ⟨ret_int (by omega), rfl⟩

def lastF (key : ByteArray) (n : Int) (x : V) : Int := if x.k.toList == key.toList then max n (max x.f x.t) else n
/-- the time at which something was done to a key last -/
def lastL (l : List V) (key : ByteArray) : Int := l.foldl (lastF key) 0
noncomputable def versLast (z : Int) (l : List V) (key : ByteArray) : Int := if versB z l then lastL l key else 0
theorem lastL_succ (l : List V) (key : ByteArray) (k : Nat) (hk : k < l.length) : lastL (l.take (k + 1)) key = lastF key (lastL (l.take k) key) l[k] := by
 unfold lastL; rw [List.take_succ_eq_append_getElem hk, List.foldl_append]; rfl

set_option maxHeartbeats 1000000 in
theorem specLast (z : Int) (A : Option Addr) (c : Nat) (l : List V) (key : ByteArray) (w : World) (hl : l.length ≤ 1048576) (hr : RdG w w.heap.size A l) :
  Calls Tryz.prog 117 #[.agg #[.int .i64 z, .slice A l.length c], .string key] w fun e w' => e = .returned (.int .i64 (lastL l key)) ∧ Below w.heap.size w w' := by
 have hb0 : Below w.heap.size w (w.alloc (.cells #[.int .i64 z, .slice A l.length c] 32)) := below_alloc (Below.refl _ _) _
 have hB0 := blkA w #[.int .i64 z, .slice A l.length c] 32
 go_enter Tryz.func117, Tryz.ntmps117
 go_wp2
 go_loopw [5, 6] (fun n i W => ∃ k : Nat, k ≤ l.length ∧ i = .int .i64 k ∧ n = .int .i64 (lastL (l.take k) key) ∧ Blk W w.heap.size 32 #[.int .i64 z, .slice A l.length c] ∧ Below w.heap.size w W) (fun _ i _ => l.length - (intOf i).toNat)
 case atStart => exact ⟨0, Nat.zero_le _, rfl, rfl, hB0, hb0⟩
 case round =>
  obtain ⟨k, hk, rfl, rfl, hB, hb⟩ := hrel
  have c1 : wr.cell? ⟨w.heap.size, 1, none⟩ = some (.slice A l.length c) := by rw [hB.cell]; rfl
  obtain ⟨m, HM⟩ : ∃ m, Hid (lastL (l.take k) key = m) := ⟨_, Lib.hid rfl⟩
  rw [HM.out]
  by_cases hkl : k < l.length
  ·
   obtain ⟨b, o, rfl, hbB, hc0, hc1, hc2, hc3⟩ := (hr.below hb).atV hkl
   have hkI := lenI _ _ hkl
   have HS := Lib.hid (lastL_succ l key k hkl)
   cases he : l[k].k.toList == key.toList
   ·
    have HE := Lib.hid (show lastF key m l[k] = m from by unfold lastF; rw [he]; rfl)
    go_wp2
    go_roundw
    case rel => exact ⟨k + 1, by omega, by go_num, by rw [HS.out, HM.out, HE.out], hB, hb⟩
    case measure => simp [intOf]; omega
   ·
    have HE := Lib.hid (show lastF key m l[k] = max m (max l[k].f l[k].t) from by unfold lastF; rw [he]; rfl)
    go_wp2
    refine wp_region_held_drew (S := (fun W => W.cell? ⟨w.heap.size, 1, none⟩ = some (.slice (some ⟨b, o, none⟩) l.length c) ∧ W.cell? ⟨b, o + k * 4 + 2, none⟩ = some (.int .i64 l[k].f) ∧ W.cell? ⟨b, o + k * 4 + 3, none⟩ = some (.int .i64 l[k].t))) (by kernel_rfl) ?_ (fun hHeld => ?_)
    focus ((try dsimp only); (exact ⟨c1, hc2, hc3⟩))
    refine tk 0 ?_
    refine tk 1 ?_
    refine tk 2 ?_
    refine tk 3 ?_
    refine tk 4 ?_
    refine tk 5 ?_
    refine tk 6 ?_
    refine tk 7 ?_
    refine tk 8 ?_
    refine tk 9 ?_
    refine tk 10 ?_
    refine tk 11 ?_
    refine tk 12 ?_
    (refine rd1 13 (fun K hK => ?_); go_simp; (go_at_call 121; refine (specMax _ _ _).mono ?_; rintro e w' ⟨rfl, rfl⟩); go_wp2_with fail; refine hK.out _ _ ?_ (fun hHeld => ?_); (focus ((try dsimp only); (exact ⟨c1, hc2, hc3⟩))); clear hK K; (try simp only [Act.put, pa, pb, pc]))
    (refine rd1 14 (fun K hK => ?_); go_simp; (go_at_call 121; refine (specMax _ _ _).mono ?_; rintro e w' ⟨rfl, rfl⟩); go_wp2_with fail; refine hK.out _ _ ?_ (fun hHeld => ?_); (focus ((try dsimp only); (exact ⟨c1, hc2, hc3⟩))); clear hK K; (try simp only [Act.put, pa, pb, pc]))
    refine tk 15 ?_
    refine wpAnyH_done (by kernel_rfl) ?_ _
    go_wp2
    go_roundw
    case rel => exact ⟨k + 1, by omega, by go_num, by rw [HS.out, HM.out, HE.out], hB, hb.drew⟩
    case measure => simp [intOf]; omega
  ·
   have hkI : decide ((k : Int) < (l.length : Int)) = false := decide_eq_false (by omega)
   have HN := Lib.hid (show k = l.length from by omega)
   go_wp2
   go_ret
   refine ⟨ret_int ?_, hb⟩
   rw [← HM.out, HN.out, List.take_length]

/-! what a chain says last is what was done last -/
theorem foldl_key (key : ByteArray) : (l : List V) → (n : Int) → (∀ x ∈ l, x.k ≠ key) → l.foldl (lastF key) n = n
 | [], n, _ => rfl
 | x :: l, n, h => by
  rw [List.foldl_cons, foldl_key key l _ fun y hy => h y (by simp [hy])]
  unfold lastF; rw [str_ne (h x (by simp))]; rfl
theorem foldl_le (key : ByteArray) (b : Int) : (l : List V) → (n : Int) → n ≤ b → (∀ x ∈ l, x.f ≤ b ∧ x.t ≤ b) → l.foldl (lastF key) n ≤ b
 | [], n, hn, _ => hn
 | x :: l, n, hn, h => by
  rw [List.foldl_cons]
  refine foldl_le key b l _ ?_ fun y hy => h y (by simp [hy])
  have := h x (by simp)
  unfold lastF
  split <;> omega
theorem chain_last {key : ByteArray} {z : Int} {ls : List Lk} (hc : Chain (ls.map Lk.v)) (hk : ∀ x ∈ ls.map Lk.v, x.k = key) (hv : ∀ x ∈ ls.map Lk.v, verB z x = true) : (ls.map Lk.v).foldl (lastF key) 0 = lastI ls := by
 rcases nil_or_snoc ls with rfl | ⟨init, y, rfl⟩
 ·
  rfl
 ·
  have e : lastI (init ++ [y]) = if y.v.f ≤ y.v.t then y.v.t else y.v.f := by unfold lastI; simp
  rw [e, List.map_append, List.foldl_append]
  have hy := hv y.v (by simp)
  have hyf := verB_from hy
  have hm : (init.map Lk.v).foldl (lastF key) 0 ≤ y.v.f := by
   refine foldl_le key _ _ _ (by omega) fun x hx => ?_
   unfold Chain at hc
   rw [List.map_append, List.pairwise_append] at hc
   have h1 := hc.2.2 x hx y.v (by simp)
   have h2 := verB_to (hv x (by rw [List.map_append]; exact List.mem_append_left _ hx))
   omega
  simp only [List.map_cons, List.map_nil, List.foldl_cons, List.foldl_nil]
  generalize (init.map Lk.v).foldl (lastF key) 0 = m at hm
  unfold lastF
  rw [hk y.v (by simp)]
  simp only [beq_self_eq_true, if_true]
  split <;> omega
theorem cons_last {chs L R : List Ch} {c : Ch} {l : List V} {key : ByteArray} {z : Int} (hC : Cons chs l) (ho : Ord2 l) (hv : ∀ x ∈ l, verB z x = true) (hck : c.k = key) (hA : Asc (L ++ c :: R)) (hor : chs = L ++ c :: R ∨ (chs = L ++ R ∧ c.ls = [])) :
  lastL l key = lastI c.ls := by
 unfold Asc at hA
 rw [List.pairwise_append, List.pairwise_cons] at hA
 have hne : ∀ d, d ∈ L ∨ d ∈ R → ∀ x ∈ d.vs, x.k ≠ key := by
  intro d hd x hx e
  have hdm : d ∈ chs := by rcases hor with rfl | ⟨rfl, _⟩ <;> rcases hd with h | h <;> simp [h]
  have hxk := (hC.each d hdm).2 x hx
  rw [e] at hxk
  rcases hd with h | h
  ·
   have := hA.2.2 d h c (by simp)
   rw [← hxk, hck, lt_irrefl] at this; cases this
  ·
   have := hA.2.1.1 d h
   rw [← hxk, hck, lt_irrefl] at this; cases this
 have hL : ∀ x ∈ L.flatMap Ch.vs, x.k ≠ key := fun x hx => by obtain ⟨d, hd, hx⟩ := List.mem_flatMap.1 hx; exact hne d (.inl hd) x hx
 have hR : ∀ x ∈ R.flatMap Ch.vs, x.k ≠ key := fun x hx => by obtain ⟨d, hd, hx⟩ := List.mem_flatMap.1 hx; exact hne d (.inr hd) x hx
 unfold lastL
 rw [← hC.flat]
 rcases hor with rfl | ⟨rfl, he⟩
 ·
  rw [List.flatMap_append, List.flatMap_cons, List.foldl_append, List.foldl_append, foldl_key key _ _ hL, foldl_key key _ _ hR]
  refine chain_last (z := z) (hC.chain ho (by simp)) (fun x hx => by rw [← hck]; exact (hC.each c (by simp)).2 x hx) fun x hx => hv x ?_
  rw [← hC.flat]
  exact List.mem_flatMap.2 ⟨c, by simp, hx⟩
 ·
  rw [List.flatMap_append, List.foldl_append, foldl_key key _ _ hL, foldl_key key _ _ hR, he]
  rfl

end Go.Proofs.YtnijgbinjbikbaaGreat
