/- The model's l2Write: what one write does, in memory of one's own. -/
import Derived.Test.YtnijgbinjbikbaaGreatB5
namespace Go.Proofs.YtnijgbinjbikbaaGreat
open Go.RowKit
set_option linter.unusedVariables false
set_option maxRecDepth 100000

theorem Chg.ofGrown {w w' : World} {row : Option Nat} (hg : w.grownBy w' row) : Chg (fun b => row = some b) w w' :=
 ⟨hg.os, hg.tape, hg.output, hg.size, fun k hk hn => hg.block k hk fun e => hn e.symm⟩
theorem RdG.cellsV {w : World} {B b o : Nat} {l : List V} (h : RdG w B (some ⟨b, o, none⟩) l) {i : Nat} {r : V} (hi : l[i]? = some r) :
  w.cell? ⟨b, o + i * 4, none⟩ = some (.string r.k) ∧ w.cell? ⟨b, o + i * 4 + 1, none⟩ = some (.int .i64 r.n) ∧ w.cell? ⟨b, o + i * 4 + 2, none⟩ = some (.int .i64 r.f) ∧ w.cell? ⟨b, o + i * 4 + 3, none⟩ = some (.int .i64 r.t) := by
 obtain ⟨hl, rfl⟩ := List.getElem?_eq_some_iff.1 hi
 exact h.fixV rfl hl
theorem own_slice {A : Option Addr} {n c p d : Nat} : (Value.slice A n c).ownBlock = (Value.slice A p d).ownBlock := by cases A <;> rfl
theorem OwnG.addr {α : Type} [Elt α] {w : World} {base n c : Nat} {A : Option Addr} {l : List α} (h : OwnG w base (.slice A n c) l) (hl : 0 < l.length) : ∃ g o, A = some ⟨g, o, none⟩ ∧ Hid (o = 0) ∧ base ≤ g ∧ g < w.heap.size := by
 rcases h.cases with ⟨_, rfl⟩ | ⟨g, cap, cur, e, hb, hblk, _⟩
 ·
  simp at hl
 ·
  injection e with e1 e2 e3
  exact ⟨g, 0, e1, Lib.hid rfl, hb, hblk.lt⟩
theorem OwnG.setAt {α : Type} [E : Elt α] {w : World} {base g o n c : Nat} {l : List α} (h : OwnG w base (.slice (some ⟨g, o, none⟩) n c) l) (ho : o = 0) {i : Nat} {r r' : α} {j : Nat} {u : Value} (hi : l[i]? = some r) (hj : j < Elt.wd α) (hcs : Elt.cs r' = (Elt.cs r).set j u) :
  OwnG (w.setCell ⟨g, o + i * Elt.wd α + j, none⟩ u) base (.slice (some ⟨g, o, none⟩) n c) (l.set i r') := by
 subst ho
 rcases h.cases with ⟨e, _⟩ | ⟨g', cap, cur, e, hb, hblk, hl, hm, hs, ht⟩
 ·
  cases e
 ·
  injection e with e1 e2 e3
  injection e1 with e1
  injection e1 with e1
  subst e1 e2 e3
  rw [Nat.zero_add]
  have hil := (List.getElem?_eq_some_iff.1 hi).1
  refine OwnG.of_fill (l.set i r') (by simp) hb (hblk.set_ (i * Elt.wd α + j) u) hl hm (by simpa using hs) ?_
  intro q y hq hy m z hz
  have hml := csG_lt hz
  by_cases eq : q = i
  ·
   subst eq
   rw [List.getElem?_set_self hil] at hy
   obtain rfl := Option.some.inj hy
   rw [hcs] at hz
   by_cases em : m = j
   ·
    subst em
    rw [List.getElem?_set_self (by rw [Elt.len]; exact hml)] at hz
    obtain rfl := Option.some.inj hz
    refine Array.getElem?_setIfInBounds_self_of_lt ?_
    rw [hs]
    have h2 : (q + 1) * Elt.wd α ≤ c * Elt.wd α := Nat.mul_le_mul_right _ (by omega)
    rw [Nat.add_mul] at h2
    omega
   ·
    rw [List.getElem?_set_ne (by omega)] at hz
    rw [Array.getElem?_setIfInBounds_ne (by omega)]
    exact take_get ht hi hz
  ·
   rw [List.getElem?_set_ne (by omega)] at hy
   have hne : i * Elt.wd α + j ≠ q * Elt.wd α + m := by
    intro e
    rcases Nat.lt_or_gt_of_ne eq with h1 | h1
    ·
     have h2 : (q + 1) * Elt.wd α ≤ i * Elt.wd α := Nat.mul_le_mul_right _ h1
     rw [Nat.add_mul] at h2
     omega
    ·
     have h2 : (i + 1) * Elt.wd α ≤ q * Elt.wd α := Nat.mul_le_mul_right _ h1
     rw [Nat.add_mul] at h2
     omega
   rw [Array.getElem?_setIfInBounds_ne hne]
   exact take_get ht hy hz
theorem OwnG.takeN {α : Type} [E : Elt α] {w : World} {base n c : Nat} {A : Option Addr} {l : List α} (h : OwnG w base (.slice A n c) l) {p : Nat} (hp : p ≤ l.length) : OwnG w base (.slice A p c) (l.take p) := by
 rcases h.cases with ⟨e, rfl⟩ | ⟨g, cap, cur, e, hb, hblk, hl, hm, hs, ht⟩
 ·
  injection e with e1 e2 e3
  subst e1 e3
  have : p = 0 := by simpa using hp
  subst this
  exact OwnG.nil _ _
 ·
  injection e with e1 e2 e3
  subst e1 e3
  have e4 : (l.take p).length = p := by simp; omega
  have hk : cur.toList.take ((l.take p).length * Elt.wd α) = cellsG (l.take p) := by
   have e5 : cellsG (l.take p) = (cellsG l).take (p * Elt.wd α) := by
    have e6 : cellsG l = cellsG (l.take p) ++ cellsG (l.drop p) := by rw [← cellsG_append, List.take_append_drop]
    rw [e6, List.take_append_of_le_length (by rw [cellsG_length, e4]; exact Nat.le_refl _)]
    exact (List.take_of_length_le (by rw [cellsG_length, e4]; exact Nat.le_refl _)).symm
   rw [e5, e4, ← ht, List.take_take, Nat.min_eq_left (Nat.mul_le_mul_right _ hp)]
  have := OwnG.mk (l := l.take p) hb hblk (by omega) hm hs hk
  rwa [e4] at this

/-- the first k versions are done -/
def halfE (key : ByteArray) (now : Int) (l : List V) (k : Nat) : List V := (l.take k).map (endF key now) ++ l.drop k
section
variable {key : ByteArray} {now : Int} {l : List V} {k : Nat}
theorem half_length : (halfE key now l k).length = l.length := by unfold halfE; simp; omega
theorem half_zero : halfE key now l 0 = l := by simp [halfE]
theorem half_all (h : l.length ≤ k) : halfE key now l k = l.map (endF key now) := by unfold halfE; rw [List.take_of_length_le h, List.drop_of_length_le h, List.append_nil]
theorem half_get (h : k < l.length) : (halfE key now l k)[k]? = some l[k] := by
 unfold halfE
 rw [List.getElem?_append_right (by simp; omega), List.length_map, List.length_take, Nat.min_eq_left (by omega), Nat.sub_self, List.getElem?_drop, Nat.add_zero, List.getElem?_eq_getElem h]
theorem half_succ (h : k < l.length) : halfE key now l (k + 1) = (halfE key now l k).set k (endF key now l[k]) := by
 unfold halfE
 rw [List.set_append_right _ _ (by simp; omega), List.length_map, List.length_take, Nat.min_eq_left (by omega), Nat.sub_self, List.drop_eq_getElem_cons h, List.set_cons_zero, List.take_succ_eq_append_getElem h, List.map_append, List.append_assoc]; rfl
theorem half_same (h : k < l.length) : (halfE key now l k).set k l[k] = halfE key now l k := by
 apply List.ext_getElem?
 intro i
 by_cases e : k = i
 ·
  subst e; rw [List.getElem?_set_self (by rw [half_length]; exact h), half_get h]
 ·
  rw [List.getElem?_set_ne e]
theorem place_succ (h : k < l.length) : placeL (l.take (k + 1)) key = if lt key l[k].k then placeL (l.take k) key else k + 1 := by
 rw [List.take_succ_eq_append_getElem h, place_snoc, List.length_take, Nat.min_eq_left (by omega)]
end

/-- the call returns a list in memory of one's own; nothing but the list that came in is written -/
def RetW (w : World) (base : Nat) (v : Value) (l : List V) (e : Ending) (w' : World) : Prop := ∃ v', e = .returned v' ∧ OwnG w' base v' l ∧ Chg (fun b => v.ownBlock = some b) w w'

set_option maxHeartbeats 4000000 in
theorem l2Write_c (base : Nat) (A : Option Addr) (c : Nat) (l : List V) (x : X) (now : Int) (w : World) (hO0 : OwnG w base (.slice A l.length c) l) (hbase : base ≤ w.heap.size) (hl : l.length ≤ 1048576) :
  Calls Tryz.prog 101 #[.slice A l.length c, .agg #[.string x.k, .int .i64 x.n, .bool x.g], .int .i64 now] w (RetW w base (Value.slice A l.length c) (writeL l x now)) := by
 have hb0 : Below w.heap.size w (w.alloc (.cells #[.string x.k, .int .i64 x.n, .bool x.g] 98)) := below_alloc (Below.refl _ _) _
 have hB0 := blkA w #[.string x.k, .int .i64 x.n, .bool x.g] 98
 have hOn0 := hO0.next hb0
 have HLT : Hid (∀ b, (Value.slice A l.length c).ownBlock = some b → b < w.heap.size) := fun b hb => (hO0.block_lt hb).2
 clear hO0
 go_enter Tryz.func101, Tryz.ntmps101
 go_wp2
 go_loopw [7, 8] (fun a i W => ∃ k : Nat, k ≤ l.length ∧ i = .int .i64 k ∧ a = .int .i64 (placeL (l.take k) x.k) ∧ OwnG W base (Value.slice A l.length c) (halfE x.k now l k) ∧ Blk W w.heap.size 98 #[.string x.k, .int .i64 x.n, .bool x.g] ∧ Chg (fun b => (Value.slice A l.length c).ownBlock = some b) w W) (fun _ i _ => l.length - (intOf i).toNat)
 case atStart => exact ⟨0, Nat.zero_le _, rfl, rfl, by rw [half_zero]; exact hOn0, hB0, Chg.of_below hb0⟩
 case round =>
  obtain ⟨k, hk, rfl, rfl, hO, hB, hch⟩ := hrel
  clear hOn0 hB0 hb0
  by_cases hkl : k < l.length
  ·
   obtain ⟨g, o, rfl, HO0, hgb, _⟩ := hO.addr (by rw [half_length]; omega)
   obtain ⟨hc0, hc1, hc2, hc3⟩ := hO.rd'.2.2.2.cellsV (half_get hkl)
   have hgl : g < w.heap.size := HLT.out g rfl
   have hkI := lenI _ _ hkl
   have q0 : wr.cell? ⟨w.heap.size, 0, none⟩ = some (.string x.k) := by rw [hB.cell]; rfl
   have HSC := Lib.hid (half_succ (key := x.k) (now := now) hkl)
   cases he : l[k].k.toList == x.k.toList
   ·
    have HE := Lib.hid (show (halfE x.k now l k).set k (endF x.k now l[k]) = halfE x.k now l k from by rw [show endF x.k now l[k] = l[k] from by unfold endF endV; rw [he]; rfl]; exact half_same hkl)
    cases hlt : Op.bytesLess l[k].k.toList x.k.toList
    ·
     have HPL := Lib.hid (show placeL (l.take (k + 1)) x.k = placeL (l.take k) x.k from by rw [place_succ hkl]; rw [show lt x.k l[k].k = true from by cases e : lt x.k l[k].k; (have := lt_tri (a := l[k].k) (b := x.k) hlt e; rw [this] at he; simp at he); rfl]; rfl)
     go_wp2
     refine wp_region_held_drew (S := (fun W => W.cell? ⟨w.heap.size, 0, none⟩ = some (.string x.k) ∧ W.cell? ⟨g, o + k * 4, none⟩ = some (.string l[k].k) ∧ W.cell? ⟨g, o + k * 4 + 3, none⟩ = some (.int .i64 l[k].t))) (by kernel_rfl) ?_ (fun hHeld => ?_)
     focus ((try dsimp only); (exact ⟨q0, hc0, hc3⟩))
     refine tk 0 ?_
     refine tk 1 ?_
     refine tk 2 ?_
     refine tk 3 ?_
     refine tk 4 ?_
     refine tk 5 ?_
     refine tk 6 ?_
     refine tk 7 ?_
     refine tk 8 ?_
     refine ts 9 ?_
     refine ts 10 ?_
     refine ts 11 ?_
     refine ts 12 ?_
     refine ts 13 ?_
     refine ts 14 ?_
     refine tk 15 ?_
     refine wpAnyH_done (by kernel_rfl) ?_ _
     go_wp2
     refine wp_region_held_drew (S := (fun W => W.cell? ⟨w.heap.size, 0, none⟩ = some (.string x.k) ∧ W.cell? ⟨g, o + k * 4, none⟩ = some (.string l[k].k))) (by kernel_rfl) ?_ (fun hHeld => ?_)
     focus ((try dsimp only); (exact ⟨q0, hc0⟩))
     refine tk 0 ?_
     refine tk 1 ?_
     refine tk 2 ?_
     refine tk 3 ?_
     refine tk 4 ?_
     refine tk 5 ?_
     refine tk 6 ?_
     refine tk 7 ?_
     refine wpAnyH_done (by kernel_rfl) ?_ _
     go_wp2
     go_roundw
     case rel => exact ⟨k + 1, by omega, by go_num, by rw [HPL.out] <;> go_num, by rw [HSC.out, HE.out]; exact hO, hB, hch.below ((Below.refl _ _).drew.drew)⟩
     case measure => simp [intOf]; omega
    ·
     have HPL := Lib.hid (show placeL (l.take (k + 1)) x.k = k + 1 from by rw [place_succ hkl]; rw [show lt x.k l[k].k = false from lt_asymm hlt]; rfl)
     go_wp2
     refine wp_region_held_drew (S := (fun W => W.cell? ⟨w.heap.size, 0, none⟩ = some (.string x.k) ∧ W.cell? ⟨g, o + k * 4, none⟩ = some (.string l[k].k) ∧ W.cell? ⟨g, o + k * 4 + 3, none⟩ = some (.int .i64 l[k].t))) (by kernel_rfl) ?_ (fun hHeld => ?_)
     focus ((try dsimp only); (exact ⟨q0, hc0, hc3⟩))
     refine tk 0 ?_
     refine tk 1 ?_
     refine tk 2 ?_
     refine tk 3 ?_
     refine tk 4 ?_
     refine tk 5 ?_
     refine tk 6 ?_
     refine tk 7 ?_
     refine tk 8 ?_
     refine ts 9 ?_
     refine ts 10 ?_
     refine ts 11 ?_
     refine ts 12 ?_
     refine ts 13 ?_
     refine ts 14 ?_
     refine tk 15 ?_
     refine wpAnyH_done (by kernel_rfl) ?_ _
     go_wp2
     refine wp_region_held_drew (S := (fun W => W.cell? ⟨w.heap.size, 0, none⟩ = some (.string x.k) ∧ W.cell? ⟨g, o + k * 4, none⟩ = some (.string l[k].k))) (by kernel_rfl) ?_ (fun hHeld => ?_)
     focus ((try dsimp only); (exact ⟨q0, hc0⟩))
     refine tk 0 ?_
     refine tk 1 ?_
     refine tk 2 ?_
     refine tk 3 ?_
     refine tk 4 ?_
     refine tk 5 ?_
     refine tk 6 ?_
     refine tk 7 ?_
     refine wpAnyH_done (by kernel_rfl) ?_ _
     go_wp2
     go_roundw
     case rel => exact ⟨k + 1, by omega, by go_num, by rw [HPL.out] <;> go_num, by rw [HSC.out, HE.out]; exact hO, hB, hch.below ((Below.refl _ _).drew.drew)⟩
     case measure => simp [intOf]; omega
   ·
    by_cases ht : l[k].t = 0
    ·
     have hdt : decide (l[k].t = 0) = true := decide_eq_true ht
     have HE := Lib.hid (show endF x.k now l[k] = ⟨l[k].k, l[k].n, l[k].f, now⟩ from by unfold endF endV; rw [he, if_pos ht]; rfl)
     have hOs := hO.setAt HO0.out (i := k) (r := l[k]) (r' := ⟨l[k].k, l[k].n, l[k].f, now⟩) (j := 3) (u := .int .i64 now) (half_get hkl) (by decide) rfl
     have hfz : wr.frozen? ⟨g, o + k * 4 + 3, none⟩ = false := by obtain ⟨cs, hcs⟩ := hO.blk_of (g := g) rfl; exact hcs.free _
     have hBs := hB.setOther (a := ⟨g, o + k * 4 + 3, none⟩) (show w.heap.size ≠ g from by omega) (.int .i64 now)
     have q0s : (wr.setCell ⟨g, o + k * 4 + 3, none⟩ (.int .i64 now)).cell? ⟨w.heap.size, 0, none⟩ = some (.string x.k) := by rw [hBs.cell]; rfl
     have hc0s : (wr.setCell ⟨g, o + k * 4 + 3, none⟩ (.int .i64 now)).cell? ⟨g, o + k * 4, none⟩ = some (.string l[k].k) := (hOs.rd'.2.2.2.cellsV (i := k) (r := ⟨l[k].k, l[k].n, l[k].f, now⟩) (by rw [List.getElem?_set_self (by rw [half_length]; exact hkl)])).1
     have hchs : Chg (fun b => (Value.slice (some ⟨g, o, none⟩) l.length c).ownBlock = some b) w (wr.setCell ⟨g, o + k * 4 + 3, none⟩ (.int .i64 now)) := hch.setCell (a := ⟨g, o + k * 4 + 3, none⟩) (.inl rfl) _
     have hdT : l[k].t = 0 := ht
     have hlt : Op.bytesLess l[k].k.toList x.k.toList = false := by rw [str_eq he]; exact lt_irrefl x.k
     have HPL := Lib.hid (show placeL (l.take (k + 1)) x.k = k + 1 from by rw [place_succ hkl]; rw [show lt x.k l[k].k = false from by rw [str_eq he]; exact lt_irrefl x.k]; rfl)
     go_wp2
     refine wp_region_held_drew (S := (fun W => W.cell? ⟨w.heap.size, 0, none⟩ = some (.string x.k) ∧ W.cell? ⟨g, o + k * 4, none⟩ = some (.string l[k].k) ∧ W.cell? ⟨g, o + k * 4 + 3, none⟩ = some (.int .i64 l[k].t))) (by kernel_rfl) ?_ (fun hHeld => ?_)
     focus ((try dsimp only); (exact ⟨q0, hc0, hc3⟩))
     refine tk 0 ?_
     refine tk 1 ?_
     refine tk 2 ?_
     refine tk 3 ?_
     refine tk 4 ?_
     refine tk 5 ?_
     refine tk 6 ?_
     refine tk 7 ?_
     refine tk 8 ?_
     refine tk 9 ?_
     refine tk 10 ?_
     refine tk 11 ?_
     refine tk 12 ?_
     refine tk 13 ?_
     refine tk 14 ?_
     refine tk 15 ?_
     refine wpAnyH_done (by kernel_rfl) ?_ _
     go_wp2
     refine wp_region_held_drew (S := (fun W => W.cell? ⟨w.heap.size, 0, none⟩ = some (.string x.k) ∧ W.cell? ⟨g, o + k * 4, none⟩ = some (.string l[k].k))) (by kernel_rfl) ?_ (fun hHeld => ?_)
     focus ((try dsimp only); (exact ⟨q0s, hc0s⟩))
     refine tk 0 ?_
     refine tk 1 ?_
     refine tk 2 ?_
     refine tk 3 ?_
     refine tk 4 ?_
     refine tk 5 ?_
     refine tk 6 ?_
     refine tk 7 ?_
     refine wpAnyH_done (by kernel_rfl) ?_ _
     go_wp2
     go_roundw
     case rel => exact ⟨k + 1, by omega, by go_num, by rw [HPL.out] <;> go_num, by rw [HSC.out, HE.out]; exact hOs, hBs, hchs.below ((Below.refl _ _).drew.drew)⟩
     case measure => simp [intOf]; omega
    ·
     have hdt : decide (l[k].t = 0) = false := decide_eq_false ht
     have HE := Lib.hid (show (halfE x.k now l k).set k (endF x.k now l[k]) = halfE x.k now l k from by rw [show endF x.k now l[k] = l[k] from by unfold endF endV; rw [he, if_neg ht]; rfl]; exact half_same hkl)
     have hlt : Op.bytesLess l[k].k.toList x.k.toList = false := by rw [str_eq he]; exact lt_irrefl x.k
     have HPL := Lib.hid (show placeL (l.take (k + 1)) x.k = k + 1 from by rw [place_succ hkl]; rw [show lt x.k l[k].k = false from by rw [str_eq he]; exact lt_irrefl x.k]; rfl)
     go_wp2
     refine wp_region_held_drew (S := (fun W => W.cell? ⟨w.heap.size, 0, none⟩ = some (.string x.k) ∧ W.cell? ⟨g, o + k * 4, none⟩ = some (.string l[k].k) ∧ W.cell? ⟨g, o + k * 4 + 3, none⟩ = some (.int .i64 l[k].t))) (by kernel_rfl) ?_ (fun hHeld => ?_)
     focus ((try dsimp only); (exact ⟨q0, hc0, hc3⟩))
     refine tk 0 ?_
     refine tk 1 ?_
     refine tk 2 ?_
     refine tk 3 ?_
     refine tk 4 ?_
     refine tk 5 ?_
     refine tk 6 ?_
     refine tk 7 ?_
     refine tk 8 ?_
     refine tk 9 ?_
     refine tk 10 ?_
     refine tk 11 ?_
     refine tk 12 ?_
     refine tk 13 ?_
     refine tk 14 ?_
     refine tk 15 ?_
     refine wpAnyH_done (by kernel_rfl) ?_ _
     go_wp2
     refine wp_region_held_drew (S := (fun W => W.cell? ⟨w.heap.size, 0, none⟩ = some (.string x.k) ∧ W.cell? ⟨g, o + k * 4, none⟩ = some (.string l[k].k))) (by kernel_rfl) ?_ (fun hHeld => ?_)
     focus ((try dsimp only); (exact ⟨q0, hc0⟩))
     refine tk 0 ?_
     refine tk 1 ?_
     refine tk 2 ?_
     refine tk 3 ?_
     refine tk 4 ?_
     refine tk 5 ?_
     refine tk 6 ?_
     refine tk 7 ?_
     refine wpAnyH_done (by kernel_rfl) ?_ _
     go_wp2
     go_roundw
     case rel => exact ⟨k + 1, by omega, by go_num, by rw [HPL.out] <;> go_num, by rw [HSC.out, HE.out]; exact hO, hB, hch.below ((Below.refl _ _).drew.drew)⟩
     case measure => simp [intOf]; omega
  ·
   have hkI : decide ((k : Int) < (l.length : Int)) = false := decide_eq_false (by omega)
   have hpl := placeL_le l x.k
   have e : l.take k = l := List.take_of_length_le (by omega)
   rw [half_all (by omega)] at hO
   rw [e]
   have HEQ : Hid (writeL l x now = if x.g then l.map (endF x.k now) else (l.map (endF x.k now)).take (placeL l x.k) ++ [⟨x.k, x.n, now, 0⟩] ++ (l.map (endF x.k now)).drop (placeL l x.k)) := rfl
   have hml : (l.map (endF x.k now)).length = l.length := by simp
   obtain ⟨M, HM⟩ : ∃ M, Hid (l.map (endF x.k now) = M) := ⟨_, Lib.hid rfl⟩
   obtain ⟨p, HP⟩ : ∃ p, Hid (placeL l x.k = p) := ⟨_, Lib.hid rfl⟩
   rw [HM.out, HP.out] at HEQ
   rw [HM.out] at hO hml
   rw [HP.out] at hpl
   rw [HP.out]
   have b2 : wr.cell? ⟨w.heap.size, 2, none⟩ = some (.bool x.g) := by rw [hB.cell]; rfl
   clear e
   cases hg : x.g
   ·
    rw [hg] at b2
    rw [show (if x.g then M else M.take p ++ [⟨x.k, x.n, now, 0⟩] ++ M.drop p) = M.take p ++ [⟨x.k, x.n, now, 0⟩] ++ M.drop p from by rw [hg]; rfl] at HEQ
    have hb0 : wr.cell? ⟨w.heap.size, 0, none⟩ = some (.string x.k) := by rw [hB.cell]; rfl
    obtain ⟨hx1, hlc, hcm, hr⟩ := hO.rd'
    clear hx1
    have hlc' : l.length ≤ c := by omega
    have HML := Lib.hid hml
    have hcut := runCutG (α := V) 30 Tryz.underlying30 A l.length c p hpl hlc'
    have hi1 : (0 : Int) ≤ (p : Int) := by omega
    have hi2 : (p : Int) ≤ (c : Int) := by omega
    have hi3 : (p : Int) ≤ (l.length : Int) := by omega
    have hOf := OwnG.fresh (α := V) wr wr.heap.size (Nat.le_refl _)
    have hTf : Below wr.heap.size wr (wr.alloc (.cells #[] 68)) := below_alloc (Below.refl _ _) _
    have hwr := hch.size
    clear hml hlc
    go_wp2_with ((at_builtin; refine wpList_appG (α := V) (wr.alloc (.cells #[] 68)) rfl _ _ _ _ 68 rfl Tryz.underlying30 Tryz.underlying30 wr.heap.size _ [] rfl hOf (cutG V A c p) (c - p) _ (l.length - p) (M.drop p) (by rw [List.length_drop, HML.out]) rfl (rdDpG hr p c (by rw [HML.out]; exact hlc') hTf) (by rw [List.length_drop, HML.out]; simp; omega) hTf.size ?_; intro vt wt hOt hgt hat; have hTt := belowAppG hTf hOf hgt))
    rw [List.nil_append] at hOt
    have hBd := hB.next hTt
    have hBdd : Blk wt.drew w.heap.size 98 #[.string x.k, .int .i64 x.n, .bool x.g] := hBd
    have hBa : Blk ((wt.alloc (.cells #[.string x.k, .int .i64 x.n, .int .i64 now, .int .i64 0] 68)).drew) w.heap.size 98 #[.string x.k, .int .i64 x.n, .bool x.g] := hBd.alloc (.cells #[.string x.k, .int .i64 x.n, .int .i64 now, .int .i64 0] 68)
    have hOta : OwnG ((wt.alloc (.cells #[.string x.k, .int .i64 x.n, .int .i64 now, .int .i64 0] 68)).drew) base (.slice A p c) (M.take p) := ((hO.next hTt).alloc (.cells #[.string x.k, .int .i64 x.n, .int .i64 now, .int .i64 0] 68)).takeN (by rw [HML.out]; exact hpl)
    have hTa : OwnG ((wt.alloc (.cells #[.string x.k, .int .i64 x.n, .int .i64 now, .int .i64 0] 68)).drew) wr.heap.size vt (M.drop p) := hOt.alloc (.cells #[.string x.k, .int .i64 x.n, .int .i64 now, .int .i64 0] 68)
    have hra : RdG ((wt.alloc (.cells #[.string x.k, .int .i64 x.n, .int .i64 now, .int .i64 0] 68)).drew) ((wt.alloc (.cells #[.string x.k, .int .i64 x.n, .int .i64 now, .int .i64 0] 68)).drew).heap.size (some ⟨wt.heap.size, 0, none⟩) [(⟨x.k, x.n, now, 0⟩ : V)] := rdOneV wt ⟨x.k, x.n, now, 0⟩ 68
    have hba : base ≤ ((wt.alloc (.cells #[.string x.k, .int .i64 x.n, .int .i64 now, .int .i64 0] 68)).drew).heap.size := by have := hTt.size; show base ≤ (wt.alloc (.cells #[.string x.k, .int .i64 x.n, .int .i64 now, .int .i64 0] 68)).heap.size; rw [World.size_alloc]; omega
    have hbt := hTt.size
    have HNB : Hid (some w.heap.size ≠ (Value.slice A p c).ownBlock) := fun e => by have := HLT.out w.heap.size (by rw [show (Value.slice A l.length c).ownBlock = (Value.slice A p c).ownBlock from own_slice]; exact e.symm); omega
    have HTN : Hid (∀ g, vt.ownBlock = some g → some g ≠ (Value.slice A p c).ownBlock) := fun g hgv e => by
     have h1 := (hOt.block_lt hgv).1
     have h2 := HLT.out g (by rw [show (Value.slice A l.length c).ownBlock = (Value.slice A p c).ownBlock from own_slice]; exact e.symm)
     omega
    have hBl := hB.lt
    have HN2 : Hid (∀ (v2 : Value) (w2 : World), ((wt.alloc (.cells #[.string x.k, .int .i64 x.n, .int .i64 now, .int .i64 0] 68)).drew).grownBy w2 (Value.slice A p c).ownBlock → (v2.ownBlock = (Value.slice A p c).ownBlock ∨ v2.ownBlock = some ((wt.alloc (.cells #[.string x.k, .int .i64 x.n, .int .i64 now, .int .i64 0] 68)).drew).heap.size) → some w.heap.size ≠ v2.ownBlock) := fun v2 w2 _ hat e => by
     rcases hat with h | h
     ·
      exact HNB.out (e.trans h)
     ·
      have h3 := Option.some.inj (e.trans h)
      have h4 : ((wt.alloc (.cells #[.string x.k, .int .i64 x.n, .int .i64 now, .int .i64 0] 68)).drew).heap.size = wt.heap.size + 1 := World.size_alloc _ _
      omega
    have HCH : Hid (∀ (w2 w3 : World) (v2 : Value), ((wt.alloc (.cells #[.string x.k, .int .i64 x.n, .int .i64 now, .int .i64 0] 68)).drew).grownBy w2 (Value.slice A p c).ownBlock → (v2.ownBlock = (Value.slice A p c).ownBlock ∨ v2.ownBlock = some ((wt.alloc (.cells #[.string x.k, .int .i64 x.n, .int .i64 now, .int .i64 0] 68)).drew).heap.size) → w2.grownBy w3 v2.ownBlock → Chg (fun b => (Value.slice A l.length c).ownBlock = some b) w w3) := fun w2 w3 v2 hg2 hat hg3 => by
     have c1 : Chg (fun b => (Value.slice A l.length c).ownBlock = some b) w ((wt.alloc (.cells #[.string x.k, .int .i64 x.n, .int .i64 now, .int .i64 0] 68)).drew) := (hch.below hTt).below (below_alloc (Below.refl _ _) (.cells #[.string x.k, .int .i64 x.n, .int .i64 now, .int .i64 0] 68)).drew
     have c2 := c1.trans (Chg.ofGrown hg2) (fun b hb h => by rw [show (Value.slice A l.length c).ownBlock = (Value.slice A p c).ownBlock from own_slice]; exact h)
     refine c2.trans (Chg.ofGrown hg3) (fun b hb h => ?_)
     rcases hat with h1 | h1
     ·
      rw [show (Value.slice A l.length c).ownBlock = (Value.slice A p c).ownBlock from own_slice, ← h1]; exact h
     ·
      have h3 := Option.some.inj (h1.symm.trans h)
      have h4 : ((wt.alloc (.cells #[.string x.k, .int .i64 x.n, .int .i64 now, .int .i64 0] 68)).drew).heap.size = wt.heap.size + 1 := World.size_alloc _ _
      omega
    clear hO hOt hr hOf hTf hcm
    have hm3 : (M.take p).length ≤ 1048576 := by rw [List.length_take]; omega
    have hm4 : (M.drop p).length ≤ 1048576 := by rw [List.length_drop, HML.out]; omega
    have hb0t : wt.cell? ⟨w.heap.size, 0, none⟩ = some (.string x.k) := by rw [hBd.cell]; rfl
    have hb1t : wt.cell? ⟨w.heap.size, 1, none⟩ = some (.int .i64 x.n) := by rw [hBd.cell]; rfl
    refine wp_region_held_drew (S := (fun W => W.cell? ⟨w.heap.size, 0, none⟩ = some (.string x.k) ∧ W.cell? ⟨w.heap.size, 1, none⟩ = some (.int .i64 x.n))) (by kernel_rfl) ?_ (fun hHeld => ?_)
    focus ((try dsimp only); (exact ⟨by rw [hBdd.cell]; rfl, by rw [hBdd.cell]; rfl⟩))
    refine tk 0 ?_
    refine tk 1 ?_
    refine tk 2 ?_
    refine tk 3 ?_
    refine tk 4 ?_
    refine tk 5 ?_
    refine tk 6 ?_
    refine tk 7 ?_
    refine tk 8 ?_
    refine tk 11 ?_
    refine rd1 9 (fun K hK => ?_)
    go_simp
    refine hK.out _ _ ?_ (fun hHeld => ?_)
    focus ((try dsimp only); (exact ⟨by rw [hBa.cell]; rfl, by rw [hBa.cell]; rfl⟩))
    clear hK K
    try simp only [Act.put, pa, pb, pc]
    refine rd1 10 (fun K hK => ?_)
    refine step_appG (α := V) ((wt.alloc (.cells #[.string x.k, .int .i64 x.n, .int .i64 now, .int .i64 0] 68)).drew) rfl _ _ _ _ 68 rfl Tryz.underlying30 Tryz.underlying30 base (.slice A p c) (M.take p) rfl hOta (some ⟨wt.heap.size, 0, none⟩) 1 _ 1 [⟨x.k, x.n, now, 0⟩] rfl rfl hra (by rw [List.length_singleton]; omega) hba ?_
    intro v2 w2 hO2 hg2 hat2
    have hB2 := hBa.grown hg2 HNB.out
    have hT2 := hTa.kept hg2 HTN.out
    obtain ⟨b2, n2, c2, rfl⟩ := hO2.slice
    obtain ⟨At, ct, rfl, hx1, hx2, hrt⟩ := hT2.read
    clear hx1 hx2
    have hb2 : base ≤ w2.heap.size := Nat.le_trans hba hg2.size
    refine hK.out _ _ ?_ (fun hHeld => ?_)
    focus ((try dsimp only); (exact ⟨by rw [hB2.cell]; rfl, by rw [hB2.cell]; rfl⟩))
    clear hK K
    try simp only [Act.put, pa, pb, pc]
    refine rd1 12 (fun K hK => ?_)
    refine step_appG (α := V) w2 rfl _ _ _ _ 68 rfl Tryz.underlying30 Tryz.underlying30 base (.slice b2 n2 c2) (M.take p ++ [⟨x.k, x.n, now, 0⟩]) rfl hO2 At ct _ _ (M.drop p) rfl rfl hrt (by rw [List.length_append, List.length_singleton]; omega) hb2 ?_
    intro v3 w3 hO3 hg3 hat3
    have hB3 := hB2.grown hg3 (HN2.out _ _ hg2 hat2)
    obtain ⟨b3, n3, c3, rfl⟩ := hO3.slice
    refine hK.out _ _ ?_ (fun hHeld => ?_)
    focus ((try dsimp only); (exact ⟨by rw [hB3.cell]; rfl, by rw [hB3.cell]; rfl⟩))
    clear hK K
    try simp only [Act.put, pa, pb, pc]
    refine tk 13 ?_
    refine wpAnyH_done (by kernel_rfl) ?_ _
    go_wp2
    go_ret
    refine ⟨.slice b3 n3 c3, rfl, by rw [HEQ.out]; exact hO3, ?_⟩
    exact HCH.out w2 w3 _ hg2 hat2 hg3
   ·
    rw [hg] at b2
    go_wp2
    go_ret
    refine ⟨(Value.slice A l.length c), rfl, ?_, hch⟩
    have := HEQ.out
    rw [hg] at this
    rw [this]
    exact hO

end Go.Proofs.YtnijgbinjbikbaaGreat
