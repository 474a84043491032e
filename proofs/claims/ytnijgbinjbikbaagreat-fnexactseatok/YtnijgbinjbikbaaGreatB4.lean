/- The program's chains: forget; the storage's vers.
VersTrim, of the model and of the program.
VersTrim of the model. -/
import Derived.Test.YtnijgbinjbikbaaGreatB3
import Derived.StillTailTactics
namespace Go.Proofs.YtnijgbinjbikbaaGreat
open Go.RowKit
set_option linter.unusedVariables false
set_option maxRecDepth 100000

/-- it stands no more at a time, nor later -/
def endB (t : Int) (x : V) : Bool := decide (x.t ≠ 0) && decide (x.t ≤ t)
theorem lks_drop {w : World} {ls : List Lk} (h : LksOk w ls) (i : Nat) : LksOk w (ls.drop i) := by
 intro j x hx
 rw [List.getElem?_drop] at hx
 have := h (i + j) x hx
 have e : nextG (ls.drop i) j = nextG ls (i + j) := by unfold nextG; rw [List.getElem?_drop, Nat.add_assoc]
 rwa [e]
/-- the links that are left -/
def leftLs (t : Int) (ls : List Lk) : List Lk := ls.dropWhile fun x => endB t x.v
theorem leftLs_at {t : Int} {ls : List Lk} {i : Nat} (hi : i ≤ ls.length) (hlow : ∀ j z, j < i → ls[j]? = some z → endB t z.v = true) (hat : ∀ z, ls[i]? = some z → endB t z.v = false) : leftLs t ls = ls.drop i := by
 unfold leftLs
 induction ls generalizing i with
 | nil => simp
 | cons a ls ih =>
  cases i with
  | zero =>
   have := hat a (by simp)
   rw [List.dropWhile_cons_of_neg (by simp [this])]; rfl
  | succ i =>
   have h0 := hlow 0 a (by omega) (by simp)
   rw [List.dropWhile_cons_of_pos (by simp [h0]), List.drop_succ_cons]
   exact ih (by simpa using hi) (fun j z hj hz => hlow (j + 1) z (by omega) (by simpa using hz)) (fun z hz => hat z (by simpa using hz))

def RetForget (w : World) (c : Ch) (t : Int) (e : Ending) (w' : World) : Prop := (∃ v, e = .returned v) ∧ ChOk w' ⟨c.g, c.k, leftLs t c.ls⟩ ∧ Chg (fun b => b = c.g) w w'

/-- the call returns a history in new memory -/
def RetV (w : World) (z : Int) (l : List V) (e : Ending) (w' : World) : Prop := ∃ v, e = .returned (.agg #[.int .i64 z, v]) ∧ OwnG w' w.heap.size v l ∧ Below w.heap.size w w'

theorem flat_take_succ (chs : List Ch) (k : Nat) (h : k < chs.length) : (chs.take (k + 1)).flatMap Ch.vs = (chs.take k).flatMap Ch.vs ++ chs[k].vs := by
 rw [List.take_succ_eq_append_getElem h, List.flatMap_append]; simp
theorem vs_take_succ (c : Ch) (i : Nat) (y : Lk) (h : c.ls[i]? = some y) : c.vs.take (i + 1) = c.vs.take i ++ [y.v] := by
 unfold Ch.vs
 have hi := (List.getElem?_eq_some_iff.1 h).1
 rw [List.take_succ_eq_append_getElem (by simpa using hi), List.getElem_map, (List.getElem?_eq_some_iff.1 h).2]

end Go.Proofs.YtnijgbinjbikbaaGreat

namespace Go.Proofs.YtnijgbinjbikbaaGreat
open Go.RowKit
set_option linter.unusedVariables false
set_option maxRecDepth 100000

def keepL (l : List V) (t : Int) : List V := l.filter fun x => !endB t x
noncomputable def trimZ (z : Int) (l : List V) : Int := if versB z l then z else 0
noncomputable def trimL (z : Int) (l : List V) (t : Int) : List V := if versB z l then keepL l t else []
theorem keepL_length (l : List V) (t : Int) : (keepL l t).length ≤ l.length := List.length_filter_le _ _
theorem trimL_length (z : Int) (l : List V) (t : Int) : (trimL z l t).length ≤ l.length := by
 unfold trimL
 split
 ·
  exact keepL_length l t
 ·
  simp
theorem keepL_yes {l : List V} {t : Int} {k : Nat} (hk : k < l.length) (h : endB t l[k] = false) : keepL (l.take (k + 1)) t = keepL (l.take k) t ++ [l[k]] := by
 rw [List.take_succ_eq_append_getElem hk]; unfold keepL; rw [List.filter_append, List.filter_cons_of_pos (by simp [h])]; rfl
theorem keepL_no {l : List V} {t : Int} {k : Nat} (hk : k < l.length) (h : endB t l[k] = true) : keepL (l.take (k + 1)) t = keepL (l.take k) t := by
 rw [List.take_succ_eq_append_getElem hk]; unfold keepL; rw [List.filter_append, List.filter_cons_of_neg (by simp [h])]; simp

/-! the program's -/
def forgetCh (t : Int) (c : Ch) : Ch := ⟨c.g, c.k, leftLs t c.ls⟩
theorem drop_filter {p : V → Bool} : {vs : List V} → vs.Pairwise (fun a b => p b = true → p a = true) → vs.dropWhile p = vs.filter fun x => !p x
 | [], _ => rfl
 | a :: vs, h => by
  rw [List.pairwise_cons] at h
  cases hp : p a
  ·
   rw [List.dropWhile_cons_of_neg (by simp [hp]), List.filter_cons_of_pos (by simp [hp])]
   congr 1
   symm
   rw [List.filter_eq_self]
   intro b hb
   cases hpb : p b
   ·
    rfl
   ·
    have := h.1 b hb hpb; rw [hp] at this; cases this
  ·
   rw [List.dropWhile_cons_of_pos hp, List.filter_cons_of_neg (by simp [hp])]
   exact drop_filter h.2
theorem left_vs (t : Int) (ls : List Lk) : (leftLs t ls).map Lk.v = (ls.map Lk.v).dropWhile (endB t) := by
 unfold leftLs
 induction ls with
 | nil => rfl
 | cons a ls ih =>
  cases h : endB t a.v
  ·
   rw [List.dropWhile_cons_of_neg (by simp [h]), List.map_cons, List.dropWhile_cons_of_neg (by simp [h])]
  ·
   rw [List.dropWhile_cons_of_pos (by simp [h]), List.map_cons, List.dropWhile_cons_of_pos h, ih]
theorem trim_flat {chs : List Ch} {l : List V} {z t : Int} (hC : Cons chs l) (ho : Ord2 l) (hv : ∀ x ∈ l, verB z x = true) : (chs.map (forgetCh t)).flatMap Ch.vs = keepL l t := by
 have hch : ∀ c ∈ chs, Chain c.vs := fun c hc => hC.chain ho hc
 have hvv : ∀ c ∈ chs, ∀ x ∈ c.vs, verB z x = true := fun c hc x hx => hv x (by rw [← hC.flat]; exact List.mem_flatMap.2 ⟨c, hc, hx⟩)
 rw [← hC.flat]
 clear hC ho hv
 induction chs with
 | nil => rfl
 | cons c chs ih =>
  have h1 := ih (fun x hx => hch x (by simp [hx])) (fun x hx => hvv x (by simp [hx]))
  have hp : c.vs.Pairwise (fun a b => endB t b = true → endB t a = true) := by
   refine List.Pairwise.imp_of_mem ?_ (hch c (by simp))
   intro a b ha hb hab hbe
   have h2 := verB_to (hvv c (by simp) b hb)
   unfold endB at *
   simp only [Bool.and_eq_true, decide_eq_true_eq] at *
   omega
  rw [List.map_cons, List.flatMap_cons, h1]
  unfold keepL
  rw [List.flatMap_cons, List.filter_append, ← drop_filter hp]
  congr 1
  exact left_vs t c.ls

theorem Sto.own_of {w : World} {base s : Nat} {z : Int} {chs : List Ch} {v : Value} (h : Sto w base s z chs) (hB : Blk w s 109 #[.int .i64 z, v]) : OwnG w base v (pts chs) := by
 obtain ⟨v', hB', hO⟩ := h.blk
 have e := Option.some.inj (hB.symm.trans hB')
 injection e with e1 e2 e3
 have e4 : v = v' := by injection e1 with e1; simpa using e1
 rw [e4]; exact hO

/-- the first j chains have forgotten -/
def halfCh (t : Int) (chs : List Ch) (j : Nat) : List Ch := (chs.take j).map (forgetCh t) ++ chs.drop j
theorem halfCh_zero (t : Int) (chs : List Ch) : halfCh t chs 0 = chs := by simp [halfCh]
theorem halfCh_at {t : Int} {chs : List Ch} {j : Nat} (h : j < chs.length) : halfCh t chs j = (chs.take j).map (forgetCh t) ++ chs[j] :: chs.drop (j + 1) := by unfold halfCh; rw [List.drop_eq_getElem_cons h]
theorem halfCh_succ {t : Int} {chs : List Ch} {j : Nat} (h : j < chs.length) : halfCh t chs (j + 1) = (chs.take j).map (forgetCh t) ++ forgetCh t chs[j] :: chs.drop (j + 1) := by
 unfold halfCh; rw [List.take_succ_eq_append_getElem h, List.map_append, List.append_assoc]; rfl
theorem halfCh_all {t : Int} {chs : List Ch} {j : Nat} (h : chs.length ≤ j) : halfCh t chs j = chs.map (forgetCh t) := by unfold halfCh; rw [List.take_of_length_le h, List.drop_of_length_le h, List.append_nil]
theorem halfCh_pts (t : Int) (chs : List Ch) (j : Nat) : pts (halfCh t chs j) = pts chs := by
 unfold halfCh pts
 rw [List.map_append, List.map_map, show ((fun c : Ch => (⟨c.g⟩ : Pt)) ∘ forgetCh t) = (fun c => ⟨c.g⟩) from rfl, ← List.map_append, List.take_append_drop]

end Go.Proofs.YtnijgbinjbikbaaGreat

namespace Go.Proofs.YtnijgbinjbikbaaGreat
open Go.RowKit
set_option linter.unusedVariables false
set_option maxRecDepth 100000

set_option maxHeartbeats 2000000 in
theorem specVersTrim (z : Int) (A : Option Addr) (c : Nat) (l : List V) (t : Int) (w : World) (hfit : FitVs l) (hlc : l.length ≤ c) (hcm : c ≤ maxLen) (hl : l.length ≤ 1048576) (hr : RdG w w.heap.size A l) :
  Calls Tryz.prog 72 #[.agg #[.int .i64 z, .slice A l.length c], .int .i64 t] w (RetV w (trimZ z l) (trimL z l t)) := by
 have hb0 : Below w.heap.size w ((w.alloc (.cells #[.int .i64 z, .slice A l.length c] 32)).alloc (.cells #[.int .i64 0, .slice none 0 0] 32)) := below_alloc (below_alloc (Below.refl _ _) _) _
 have hB0 := (blkA w #[.int .i64 z, .slice A l.length c] 32).alloc (.cells #[.int .i64 0, .slice none 0 0] 32)
 have hR0 := blkA (w.alloc (.cells #[.int .i64 z, .slice A l.length c] 32)) #[.int .i64 0, .slice none 0 0] 32
 simp only [World.size_alloc] at hR0
 cases hv : versB z l
 ·
  have HE := Lib.hid (show trimZ z l = 0 ∧ trimL z l t = [] from by unfold trimZ trimL; rw [hv]; exact ⟨rfl, rfl⟩)
  rw [HE.out.1, HE.out.2]
  go_enter Tryz.func72, Tryz.ntmps72
  go_wp2_with fail
  refine (specVersOk z A c l _ hfit hlc hcm (hr.next hb0)).mono ?_
  rintro e w1 ⟨rfl, hb1⟩
  rw [hv]
  have hw1 := below_next hb0 hb1
  have hR1 := hR0.next hb1
  have d0 : w1.cell? ⟨w.heap.size + 1, 0, none⟩ = some (.int .i64 0) := by rw [hR1.cell]; rfl
  have d1 : w1.cell? ⟨w.heap.size + 1, 1, none⟩ = some (.slice none 0 0) := by rw [hR1.cell]; rfl
  have f0 := hR1.free 0
  have f1 := hR1.free 1
  go_wp2
  refine bodyPost_ret (v := .agg #[.int .i64 0, .slice none 0 0]) (by simp [results, Tryz.results72, go_sem, d0, d1]) rfl ⟨.slice none 0 0, rfl, OwnG.nil _ _, ?_⟩
  exact (hw1.setCell (by simp <;> omega) _).setCell (by simp <;> omega) _
 ·
  have HE := Lib.hid (show trimZ z l = z ∧ trimL z l t = keepL l t from by unfold trimZ trimL; rw [hv]; exact ⟨rfl, rfl⟩)
  rw [HE.out.1, HE.out.2]
  go_enter Tryz.func72, Tryz.ntmps72
  go_wp2_with fail
  refine (specVersOk z A c l _ hfit hlc hcm (hr.next hb0)).mono ?_
  rintro e w1 ⟨rfl, hb1⟩
  rw [hv]
  have hw1 := below_next hb0 hb1
  have hB1 := hB0.next hb1
  have hR1 := hR0.next hb1
  have hRlt := hR1.lt
  have q0 : w1.cell? ⟨w.heap.size, 0, none⟩ = some (.int .i64 z) := by rw [hB1.cell]; rfl
  have q1 : w1.cell? ⟨w.heap.size, 1, none⟩ = some (.slice A l.length c) := by rw [hB1.cell]; rfl
  have hbx : Below w1.heap.size w1 ((w1.alloc (.cells #[] 68)).alloc (.cells #[.int .i64 z, .slice (some ⟨w1.heap.size, 0, none⟩) 0 0] 32)) := below_alloc (below_alloc (Below.refl _ _) _) _
  have hX0 := blkA (w1.alloc (.cells #[] 68)) #[.int .i64 z, .slice (some ⟨w1.heap.size, 0, none⟩) 0 0] 32
  have hO0 := (OwnG.fresh (α := V) w1 w1.heap.size (Nat.le_refl _)).alloc (.cells #[.int .i64 z, .slice (some ⟨w1.heap.size, 0, none⟩) 0 0] 32)
  simp only [World.size_alloc] at hX0
  have hw2 := below_next hw1 hbx
  go_wp2
  go_loopw [6] (fun i W => ∃ (k : Nat) (v : Value), k ≤ l.length ∧ i = .int .i64 k ∧ Blk W (w1.heap.size + 1) 32 #[.int .i64 z, v] ∧ OwnG W w1.heap.size v (keepL (l.take k) t) ∧ Blk W w.heap.size 32 #[.int .i64 z, .slice A l.length c] ∧ Blk W (w.heap.size + 1) 32 #[.int .i64 0, .slice none 0 0] ∧ Below w.heap.size w W) (fun i _ => l.length - (intOf i).toNat)
  case atStart => exact ⟨0, _, Nat.zero_le _, rfl, hX0, hO0, hB1.next hbx, hR1.next hbx, hw2⟩
  case round =>
   obtain ⟨k, v, hk, rfl, hX, hO, hB, hR, hb⟩ := hrel
   obtain ⟨bv, nv, cv, rfl⟩ := hO.slice
   have p1 : wr.cell? ⟨w.heap.size, 1, none⟩ = some (.slice A l.length c) := by rw [hB.cell]; rfl
   have x0 : wr.cell? ⟨w1.heap.size + 1, 0, none⟩ = some (.int .i64 z) := by rw [hX.cell]; rfl
   have x1 : wr.cell? ⟨w1.heap.size + 1, 1, none⟩ = some (.slice bv nv cv) := by rw [hX.cell]; rfl
   have fx := hX.free 1
   by_cases hkl : k < l.length
   ·
    obtain ⟨b, o, rfl, hbB, hc0, hc1, hc2, hc3⟩ := (hr.below hb).atV hkl
    have hkI := lenI _ _ hkl
    cases he : endB t l[k]
    ·
     have HK := Lib.hid (keepL_yes hkl he)
     have hd : (l[k].t == 0) = true ∨ ((l[k].t == 0) = false ∧ decide (t < l[k].t) = true) := by
      unfold endB at he
      simp at he ⊢
      omega
     have hlen := keepL_length (l.take k) t
     rw [List.length_take] at hlen
     obtain ⟨KL, HKK⟩ : ∃ K, Hid (keepL (l.take k) t = K) := ⟨_, Lib.hid rfl⟩
     rw [HKK.out] at hO hlen
     clear he
     have hwlt := hX.lt
     have hRl := hR.lt
     rcases hd with hd1 | ⟨hd1, hd2⟩
     ·
      have hOa := (show OwnG wr.drew w1.heap.size (.slice bv nv cv) KL from hO).alloc (.cells #[.string l[k].k, .int .i64 l[k].n, .int .i64 l[k].f, .int .i64 l[k].t] 68)
      have hXa := (show Blk wr.drew (w1.heap.size + 1) 32 #[.int .i64 z, .slice bv nv cv] from hX).alloc (.cells #[.string l[k].k, .int .i64 l[k].n, .int .i64 l[k].f, .int .i64 l[k].t] 68)
      have xa1 : (wr.drew.alloc (.cells #[.string l[k].k, .int .i64 l[k].n, .int .i64 l[k].f, .int .i64 l[k].t] 68)).cell? ⟨w1.heap.size + 1, 1, none⟩ = some (.slice bv nv cv) := by rw [hXa.cell]; rfl
      have HSA : Hid (∀ q, q < w.heap.size + 1 → (wr.drew.alloc (.cells #[.string l[k].k, .int .i64 l[k].n, .int .i64 l[k].f, .int .i64 l[k].t] 68)).heap[q]? = wr.heap[q]?) := fun q hq => Below.heap_alloc wr.drew _ q (show q < wr.heap.size from by omega)
      go_wp2
      refine wp_region_held_drew (S := (fun W => W.cell? ⟨w.heap.size, 1, none⟩ = some (.slice (some ⟨b, o, none⟩) l.length c) ∧ W.cell? ⟨b, o + k * 4, none⟩ = some (.string l[k].k) ∧ W.cell? ⟨b, o + k * 4 + 1, none⟩ = some (.int .i64 l[k].n) ∧ W.cell? ⟨b, o + k * 4 + 2, none⟩ = some (.int .i64 l[k].f) ∧ W.cell? ⟨b, o + k * 4 + 3, none⟩ = some (.int .i64 l[k].t))) (by kernel_rfl) ?_ (fun hHeld => ?_)
      focus ((try dsimp only); (exact ⟨p1, hc0, hc1, hc2, hc3⟩))
      refine tk 0 ?_
      refine tk 2 ?_
      refine tk 3 ?_
      refine tk 4 ?_
      refine tk 5 ?_
      refine tk 6 ?_
      refine wpAnyH_ready (rs := [1, 7]) (by kernel_rfl) (by simp) (AllReadyH.cons (by (simp only [ga, gb, gc]; rfl)) (fun K hK => ?_) (AllReadyH.cons (by (simp only [ga, gb, gc]; rfl)) (fun K hK => ?_) AllReadyH.nil))
      ·
       go_simp
       refine hK.out _ _ ?_ (fun hHeld => ?_)
       focus ((try dsimp only); (exact ⟨p1, hc0, hc1, hc2, hc3⟩))
       clear hK K
       try simp only [Act.put, pa, pb, pc]
       refine rd1 7 (fun K hK => ?_)
       go_simp
       refine hK.out _ _ ?_ (fun hHeld => ?_)
       focus ((try dsimp only); (exact ⟨(World.cell?_of_block (a := ⟨w.heap.size, 1, none⟩) (HSA.out w.heap.size (by omega))).trans p1, (World.cell?_of_block (a := ⟨b, o + k * 4, none⟩) (HSA.out b (by omega))).trans hc0, (World.cell?_of_block (a := ⟨b, o + k * 4 + 1, none⟩) (HSA.out b (by omega))).trans hc1, (World.cell?_of_block (a := ⟨b, o + k * 4 + 2, none⟩) (HSA.out b (by omega))).trans hc2, (World.cell?_of_block (a := ⟨b, o + k * 4 + 3, none⟩) (HSA.out b (by omega))).trans hc3⟩))
       clear hK K
       try simp only [Act.put, pa, pb, pc]
       refine rd1 8 (fun K hK => ?_)
       refine step_appG (α := V) (wr.drew.alloc (.cells #[.string l[k].k, .int .i64 l[k].n, .int .i64 l[k].f, .int .i64 l[k].t] 68)) rfl _ _ _ _ 68 rfl Tryz.underlying30 Tryz.underlying30 w1.heap.size (.slice bv nv cv) KL rfl hOa (some ⟨wr.heap.size, 0, none⟩) 1 _ 1 [l[k]] rfl rfl (rdOneV wr.drew l[k] 68) (by simp; omega) (by simp; omega) ?_
       intro v' w' hown hgr hat
       obtain ⟨bv', nv', cv', rfl⟩ := hown.slice
       have hXw := hXa.grown hgr (fun e => by obtain ⟨cs, hcs⟩ := hOa.blk_of e.symm; exact hXa.ne hcs (by decide) rfl)
       have xw1 : w'.cell? ⟨w1.heap.size + 1, 1, none⟩ = some (.slice bv nv cv) := (by rw [hXw.cell]; rfl)
       have xwf := hXw.free 1
       have HSW : Hid (∀ q, q < w.heap.size + 1 → w'.heap[q]? = wr.heap[q]?) := fun q hq => (hgr.block q (by simp; omega) (hOa.ne_block (by omega))).trans (HSA.out q hq)
       refine hK.out _ _ ?_ (fun hHeld => ?_)
       focus ((try dsimp only); (exact ⟨(World.cell?_of_block (a := ⟨w.heap.size, 1, none⟩) (HSW.out w.heap.size (by omega))).trans p1, (World.cell?_of_block (a := ⟨b, o + k * 4, none⟩) (HSW.out b (by omega))).trans hc0, (World.cell?_of_block (a := ⟨b, o + k * 4 + 1, none⟩) (HSW.out b (by omega))).trans hc1, (World.cell?_of_block (a := ⟨b, o + k * 4 + 2, none⟩) (HSW.out b (by omega))).trans hc2, (World.cell?_of_block (a := ⟨b, o + k * 4 + 3, none⟩) (HSW.out b (by omega))).trans hc3⟩))
       clear hK K
       try simp only [Act.put, pa, pb, pc]
       refine tk 9 ?_
       have HSE : Hid (∀ q, q < w.heap.size + 1 → (w'.setCell ⟨w1.heap.size + 1, 1, none⟩ (.slice bv' nv' cv')).heap[q]? = wr.heap[q]?) := fun q hq => (Below.heap_setCell w' ⟨w1.heap.size + 1, 1, none⟩ _ q (show q ≠ w1.heap.size + 1 from by omega)).trans (HSW.out q hq)
       refine rd1 10 (fun K hK => ?_)
       go_simp
       refine hK.out _ _ ?_ (fun hHeld => ?_)
       focus ((try dsimp only); (exact ⟨(World.cell?_of_block (a := ⟨w.heap.size, 1, none⟩) (HSE.out w.heap.size (by omega))).trans p1, (World.cell?_of_block (a := ⟨b, o + k * 4, none⟩) (HSE.out b (by omega))).trans hc0, (World.cell?_of_block (a := ⟨b, o + k * 4 + 1, none⟩) (HSE.out b (by omega))).trans hc1, (World.cell?_of_block (a := ⟨b, o + k * 4 + 2, none⟩) (HSE.out b (by omega))).trans hc2, (World.cell?_of_block (a := ⟨b, o + k * 4 + 3, none⟩) (HSE.out b (by omega))).trans hc3⟩))
       clear hK K
       try simp only [Act.put, pa, pb, pc]
       refine wpAnyH_done (by kernel_rfl) ?_ _
       have hXe : Blk (w'.setCell ⟨w1.heap.size + 1, 1, none⟩ (.slice bv' nv' cv')) (w1.heap.size + 1) 32 #[.int .i64 z, .slice bv' nv' cv'] := (hXw.set_ 1 _).cast rfl
       have hOe := hown.setCell (a := ⟨w1.heap.size + 1, 1, none⟩) (fun g hg e => by obtain ⟨cs, hcs⟩ := hown.blk_of hg; exact hXw.ne hcs (by decide) e.symm) (.slice bv' nv' cv')
       have hBe := (((show Blk wr.drew _ _ _ from hB).alloc (.cells #[.string l[k].k, .int .i64 l[k].n, .int .i64 l[k].f, .int .i64 l[k].t] 68)).grown hgr (hOa.ne_block (by omega))).setOther (a := ⟨w1.heap.size + 1, 1, none⟩) (show w.heap.size ≠ w1.heap.size + 1 from by omega) (.slice bv' nv' cv')
       have hRe := (((show Blk wr.drew _ _ _ from hR).alloc (.cells #[.string l[k].k, .int .i64 l[k].n, .int .i64 l[k].f, .int .i64 l[k].t] 68)).grown hgr (hOa.ne_block (by omega))).setOther (a := ⟨w1.heap.size + 1, 1, none⟩) (show w.heap.size + 1 ≠ w1.heap.size + 1 from by omega) (.slice bv' nv' cv')
       have hbe : Below w.heap.size w (w'.setCell ⟨w1.heap.size + 1, 1, none⟩ (.slice bv' nv' cv')) := (hOa.below (below_alloc hb.drew (.cells #[.string l[k].k, .int .i64 l[k].n, .int .i64 l[k].f, .int .i64 l[k].t] 68)) hgr (by omega)).setCell (show w.heap.size ≤ w1.heap.size + 1 from by omega) _
       go_wp2
       go_roundw
       case rel => exact ⟨k + 1, _, by omega, by go_num, hXe, by rw [HK.out, HKK.out]; exact hOe, hBe, hRe, hbe⟩
       case measure => simp [intOf]; omega
      ·
       go_simp
       refine hK.out _ _ ?_ (fun hHeld => ?_)
       focus ((try dsimp only); (exact ⟨(World.cell?_of_block (a := ⟨w.heap.size, 1, none⟩) (HSA.out w.heap.size (by omega))).trans p1, (World.cell?_of_block (a := ⟨b, o + k * 4, none⟩) (HSA.out b (by omega))).trans hc0, (World.cell?_of_block (a := ⟨b, o + k * 4 + 1, none⟩) (HSA.out b (by omega))).trans hc1, (World.cell?_of_block (a := ⟨b, o + k * 4 + 2, none⟩) (HSA.out b (by omega))).trans hc2, (World.cell?_of_block (a := ⟨b, o + k * 4 + 3, none⟩) (HSA.out b (by omega))).trans hc3⟩))
       clear hK K
       try simp only [Act.put, pa, pb, pc]
       refine rd1 1 (fun K hK => ?_)
       go_simp
       refine hK.out _ _ ?_ (fun hHeld => ?_)
       focus ((try dsimp only); (exact ⟨(World.cell?_of_block (a := ⟨w.heap.size, 1, none⟩) (HSA.out w.heap.size (by omega))).trans p1, (World.cell?_of_block (a := ⟨b, o + k * 4, none⟩) (HSA.out b (by omega))).trans hc0, (World.cell?_of_block (a := ⟨b, o + k * 4 + 1, none⟩) (HSA.out b (by omega))).trans hc1, (World.cell?_of_block (a := ⟨b, o + k * 4 + 2, none⟩) (HSA.out b (by omega))).trans hc2, (World.cell?_of_block (a := ⟨b, o + k * 4 + 3, none⟩) (HSA.out b (by omega))).trans hc3⟩))
       clear hK K
       try simp only [Act.put, pa, pb, pc]
       refine rd1 8 (fun K hK => ?_)
       refine step_appG (α := V) (wr.drew.alloc (.cells #[.string l[k].k, .int .i64 l[k].n, .int .i64 l[k].f, .int .i64 l[k].t] 68)) rfl _ _ _ _ 68 rfl Tryz.underlying30 Tryz.underlying30 w1.heap.size (.slice bv nv cv) KL rfl hOa (some ⟨wr.heap.size, 0, none⟩) 1 _ 1 [l[k]] rfl rfl (rdOneV wr.drew l[k] 68) (by simp; omega) (by simp; omega) ?_
       intro v' w' hown hgr hat
       obtain ⟨bv', nv', cv', rfl⟩ := hown.slice
       have hXw := hXa.grown hgr (fun e => by obtain ⟨cs, hcs⟩ := hOa.blk_of e.symm; exact hXa.ne hcs (by decide) rfl)
       have xw1 : w'.cell? ⟨w1.heap.size + 1, 1, none⟩ = some (.slice bv nv cv) := (by rw [hXw.cell]; rfl)
       have xwf := hXw.free 1
       have HSW : Hid (∀ q, q < w.heap.size + 1 → w'.heap[q]? = wr.heap[q]?) := fun q hq => (hgr.block q (by simp; omega) (hOa.ne_block (by omega))).trans (HSA.out q hq)
       refine hK.out _ _ ?_ (fun hHeld => ?_)
       focus ((try dsimp only); (exact ⟨(World.cell?_of_block (a := ⟨w.heap.size, 1, none⟩) (HSW.out w.heap.size (by omega))).trans p1, (World.cell?_of_block (a := ⟨b, o + k * 4, none⟩) (HSW.out b (by omega))).trans hc0, (World.cell?_of_block (a := ⟨b, o + k * 4 + 1, none⟩) (HSW.out b (by omega))).trans hc1, (World.cell?_of_block (a := ⟨b, o + k * 4 + 2, none⟩) (HSW.out b (by omega))).trans hc2, (World.cell?_of_block (a := ⟨b, o + k * 4 + 3, none⟩) (HSW.out b (by omega))).trans hc3⟩))
       clear hK K
       try simp only [Act.put, pa, pb, pc]
       refine tk 9 ?_
       have HSE : Hid (∀ q, q < w.heap.size + 1 → (w'.setCell ⟨w1.heap.size + 1, 1, none⟩ (.slice bv' nv' cv')).heap[q]? = wr.heap[q]?) := fun q hq => (Below.heap_setCell w' ⟨w1.heap.size + 1, 1, none⟩ _ q (show q ≠ w1.heap.size + 1 from by omega)).trans (HSW.out q hq)
       refine rd1 10 (fun K hK => ?_)
       go_simp
       refine hK.out _ _ ?_ (fun hHeld => ?_)
       focus ((try dsimp only); (exact ⟨(World.cell?_of_block (a := ⟨w.heap.size, 1, none⟩) (HSE.out w.heap.size (by omega))).trans p1, (World.cell?_of_block (a := ⟨b, o + k * 4, none⟩) (HSE.out b (by omega))).trans hc0, (World.cell?_of_block (a := ⟨b, o + k * 4 + 1, none⟩) (HSE.out b (by omega))).trans hc1, (World.cell?_of_block (a := ⟨b, o + k * 4 + 2, none⟩) (HSE.out b (by omega))).trans hc2, (World.cell?_of_block (a := ⟨b, o + k * 4 + 3, none⟩) (HSE.out b (by omega))).trans hc3⟩))
       clear hK K
       try simp only [Act.put, pa, pb, pc]
       refine wpAnyH_done (by kernel_rfl) ?_ _
       have hXe : Blk (w'.setCell ⟨w1.heap.size + 1, 1, none⟩ (.slice bv' nv' cv')) (w1.heap.size + 1) 32 #[.int .i64 z, .slice bv' nv' cv'] := (hXw.set_ 1 _).cast rfl
       have hOe := hown.setCell (a := ⟨w1.heap.size + 1, 1, none⟩) (fun g hg e => by obtain ⟨cs, hcs⟩ := hown.blk_of hg; exact hXw.ne hcs (by decide) e.symm) (.slice bv' nv' cv')
       have hBe := (((show Blk wr.drew _ _ _ from hB).alloc (.cells #[.string l[k].k, .int .i64 l[k].n, .int .i64 l[k].f, .int .i64 l[k].t] 68)).grown hgr (hOa.ne_block (by omega))).setOther (a := ⟨w1.heap.size + 1, 1, none⟩) (show w.heap.size ≠ w1.heap.size + 1 from by omega) (.slice bv' nv' cv')
       have hRe := (((show Blk wr.drew _ _ _ from hR).alloc (.cells #[.string l[k].k, .int .i64 l[k].n, .int .i64 l[k].f, .int .i64 l[k].t] 68)).grown hgr (hOa.ne_block (by omega))).setOther (a := ⟨w1.heap.size + 1, 1, none⟩) (show w.heap.size + 1 ≠ w1.heap.size + 1 from by omega) (.slice bv' nv' cv')
       have hbe : Below w.heap.size w (w'.setCell ⟨w1.heap.size + 1, 1, none⟩ (.slice bv' nv' cv')) := (hOa.below (below_alloc hb.drew (.cells #[.string l[k].k, .int .i64 l[k].n, .int .i64 l[k].f, .int .i64 l[k].t] 68)) hgr (by omega)).setCell (show w.heap.size ≤ w1.heap.size + 1 from by omega) _
       go_wp2
       go_roundw
       case rel => exact ⟨k + 1, _, by omega, by go_num, hXe, by rw [HK.out, HKK.out]; exact hOe, hBe, hRe, hbe⟩
       case measure => simp [intOf]; omega
     ·
      have hOa := (show OwnG wr.drew w1.heap.size (.slice bv nv cv) KL from hO).alloc (.cells #[.string l[k].k, .int .i64 l[k].n, .int .i64 l[k].f, .int .i64 l[k].t] 68)
      have hXa := (show Blk wr.drew (w1.heap.size + 1) 32 #[.int .i64 z, .slice bv nv cv] from hX).alloc (.cells #[.string l[k].k, .int .i64 l[k].n, .int .i64 l[k].f, .int .i64 l[k].t] 68)
      have xa1 : (wr.drew.alloc (.cells #[.string l[k].k, .int .i64 l[k].n, .int .i64 l[k].f, .int .i64 l[k].t] 68)).cell? ⟨w1.heap.size + 1, 1, none⟩ = some (.slice bv nv cv) := by rw [hXa.cell]; rfl
      have HSA : Hid (∀ q, q < w.heap.size + 1 → (wr.drew.alloc (.cells #[.string l[k].k, .int .i64 l[k].n, .int .i64 l[k].f, .int .i64 l[k].t] 68)).heap[q]? = wr.heap[q]?) := fun q hq => Below.heap_alloc wr.drew _ q (show q < wr.heap.size from by omega)
      go_wp2
      refine wp_region_held_drew (S := (fun W => W.cell? ⟨w.heap.size, 1, none⟩ = some (.slice (some ⟨b, o, none⟩) l.length c) ∧ W.cell? ⟨b, o + k * 4, none⟩ = some (.string l[k].k) ∧ W.cell? ⟨b, o + k * 4 + 1, none⟩ = some (.int .i64 l[k].n) ∧ W.cell? ⟨b, o + k * 4 + 2, none⟩ = some (.int .i64 l[k].f) ∧ W.cell? ⟨b, o + k * 4 + 3, none⟩ = some (.int .i64 l[k].t))) (by kernel_rfl) ?_ (fun hHeld => ?_)
      focus ((try dsimp only); (exact ⟨p1, hc0, hc1, hc2, hc3⟩))
      refine tk 0 ?_
      refine tk 2 ?_
      refine tk 3 ?_
      refine tk 4 ?_
      refine tk 5 ?_
      refine tk 6 ?_
      refine wpAnyH_ready (rs := [1, 7]) (by kernel_rfl) (by simp) (AllReadyH.cons (by (simp only [ga, gb, gc]; rfl)) (fun K hK => ?_) (AllReadyH.cons (by (simp only [ga, gb, gc]; rfl)) (fun K hK => ?_) AllReadyH.nil))
      ·
       go_simp
       refine hK.out _ _ ?_ (fun hHeld => ?_)
       focus ((try dsimp only); (exact ⟨p1, hc0, hc1, hc2, hc3⟩))
       clear hK K
       try simp only [Act.put, pa, pb, pc]
       refine rd1 7 (fun K hK => ?_)
       go_simp
       refine hK.out _ _ ?_ (fun hHeld => ?_)
       focus ((try dsimp only); (exact ⟨(World.cell?_of_block (a := ⟨w.heap.size, 1, none⟩) (HSA.out w.heap.size (by omega))).trans p1, (World.cell?_of_block (a := ⟨b, o + k * 4, none⟩) (HSA.out b (by omega))).trans hc0, (World.cell?_of_block (a := ⟨b, o + k * 4 + 1, none⟩) (HSA.out b (by omega))).trans hc1, (World.cell?_of_block (a := ⟨b, o + k * 4 + 2, none⟩) (HSA.out b (by omega))).trans hc2, (World.cell?_of_block (a := ⟨b, o + k * 4 + 3, none⟩) (HSA.out b (by omega))).trans hc3⟩))
       clear hK K
       try simp only [Act.put, pa, pb, pc]
       refine rd1 8 (fun K hK => ?_)
       refine step_appG (α := V) (wr.drew.alloc (.cells #[.string l[k].k, .int .i64 l[k].n, .int .i64 l[k].f, .int .i64 l[k].t] 68)) rfl _ _ _ _ 68 rfl Tryz.underlying30 Tryz.underlying30 w1.heap.size (.slice bv nv cv) KL rfl hOa (some ⟨wr.heap.size, 0, none⟩) 1 _ 1 [l[k]] rfl rfl (rdOneV wr.drew l[k] 68) (by simp; omega) (by simp; omega) ?_
       intro v' w' hown hgr hat
       obtain ⟨bv', nv', cv', rfl⟩ := hown.slice
       have hXw := hXa.grown hgr (fun e => by obtain ⟨cs, hcs⟩ := hOa.blk_of e.symm; exact hXa.ne hcs (by decide) rfl)
       have xw1 : w'.cell? ⟨w1.heap.size + 1, 1, none⟩ = some (.slice bv nv cv) := (by rw [hXw.cell]; rfl)
       have xwf := hXw.free 1
       have HSW : Hid (∀ q, q < w.heap.size + 1 → w'.heap[q]? = wr.heap[q]?) := fun q hq => (hgr.block q (by simp; omega) (hOa.ne_block (by omega))).trans (HSA.out q hq)
       refine hK.out _ _ ?_ (fun hHeld => ?_)
       focus ((try dsimp only); (exact ⟨(World.cell?_of_block (a := ⟨w.heap.size, 1, none⟩) (HSW.out w.heap.size (by omega))).trans p1, (World.cell?_of_block (a := ⟨b, o + k * 4, none⟩) (HSW.out b (by omega))).trans hc0, (World.cell?_of_block (a := ⟨b, o + k * 4 + 1, none⟩) (HSW.out b (by omega))).trans hc1, (World.cell?_of_block (a := ⟨b, o + k * 4 + 2, none⟩) (HSW.out b (by omega))).trans hc2, (World.cell?_of_block (a := ⟨b, o + k * 4 + 3, none⟩) (HSW.out b (by omega))).trans hc3⟩))
       clear hK K
       try simp only [Act.put, pa, pb, pc]
       refine tk 9 ?_
       have HSE : Hid (∀ q, q < w.heap.size + 1 → (w'.setCell ⟨w1.heap.size + 1, 1, none⟩ (.slice bv' nv' cv')).heap[q]? = wr.heap[q]?) := fun q hq => (Below.heap_setCell w' ⟨w1.heap.size + 1, 1, none⟩ _ q (show q ≠ w1.heap.size + 1 from by omega)).trans (HSW.out q hq)
       refine rd1 10 (fun K hK => ?_)
       go_simp
       refine hK.out _ _ ?_ (fun hHeld => ?_)
       focus ((try dsimp only); (exact ⟨(World.cell?_of_block (a := ⟨w.heap.size, 1, none⟩) (HSE.out w.heap.size (by omega))).trans p1, (World.cell?_of_block (a := ⟨b, o + k * 4, none⟩) (HSE.out b (by omega))).trans hc0, (World.cell?_of_block (a := ⟨b, o + k * 4 + 1, none⟩) (HSE.out b (by omega))).trans hc1, (World.cell?_of_block (a := ⟨b, o + k * 4 + 2, none⟩) (HSE.out b (by omega))).trans hc2, (World.cell?_of_block (a := ⟨b, o + k * 4 + 3, none⟩) (HSE.out b (by omega))).trans hc3⟩))
       clear hK K
       try simp only [Act.put, pa, pb, pc]
       refine wpAnyH_done (by kernel_rfl) ?_ _
       have hXe : Blk (w'.setCell ⟨w1.heap.size + 1, 1, none⟩ (.slice bv' nv' cv')) (w1.heap.size + 1) 32 #[.int .i64 z, .slice bv' nv' cv'] := (hXw.set_ 1 _).cast rfl
       have hOe := hown.setCell (a := ⟨w1.heap.size + 1, 1, none⟩) (fun g hg e => by obtain ⟨cs, hcs⟩ := hown.blk_of hg; exact hXw.ne hcs (by decide) e.symm) (.slice bv' nv' cv')
       have hBe := (((show Blk wr.drew _ _ _ from hB).alloc (.cells #[.string l[k].k, .int .i64 l[k].n, .int .i64 l[k].f, .int .i64 l[k].t] 68)).grown hgr (hOa.ne_block (by omega))).setOther (a := ⟨w1.heap.size + 1, 1, none⟩) (show w.heap.size ≠ w1.heap.size + 1 from by omega) (.slice bv' nv' cv')
       have hRe := (((show Blk wr.drew _ _ _ from hR).alloc (.cells #[.string l[k].k, .int .i64 l[k].n, .int .i64 l[k].f, .int .i64 l[k].t] 68)).grown hgr (hOa.ne_block (by omega))).setOther (a := ⟨w1.heap.size + 1, 1, none⟩) (show w.heap.size + 1 ≠ w1.heap.size + 1 from by omega) (.slice bv' nv' cv')
       have hbe : Below w.heap.size w (w'.setCell ⟨w1.heap.size + 1, 1, none⟩ (.slice bv' nv' cv')) := (hOa.below (below_alloc hb.drew (.cells #[.string l[k].k, .int .i64 l[k].n, .int .i64 l[k].f, .int .i64 l[k].t] 68)) hgr (by omega)).setCell (show w.heap.size ≤ w1.heap.size + 1 from by omega) _
       go_wp2
       go_roundw
       case rel => exact ⟨k + 1, _, by omega, by go_num, hXe, by rw [HK.out, HKK.out]; exact hOe, hBe, hRe, hbe⟩
       case measure => simp [intOf]; omega
      ·
       go_simp
       refine hK.out _ _ ?_ (fun hHeld => ?_)
       focus ((try dsimp only); (exact ⟨(World.cell?_of_block (a := ⟨w.heap.size, 1, none⟩) (HSA.out w.heap.size (by omega))).trans p1, (World.cell?_of_block (a := ⟨b, o + k * 4, none⟩) (HSA.out b (by omega))).trans hc0, (World.cell?_of_block (a := ⟨b, o + k * 4 + 1, none⟩) (HSA.out b (by omega))).trans hc1, (World.cell?_of_block (a := ⟨b, o + k * 4 + 2, none⟩) (HSA.out b (by omega))).trans hc2, (World.cell?_of_block (a := ⟨b, o + k * 4 + 3, none⟩) (HSA.out b (by omega))).trans hc3⟩))
       clear hK K
       try simp only [Act.put, pa, pb, pc]
       refine rd1 1 (fun K hK => ?_)
       go_simp
       refine hK.out _ _ ?_ (fun hHeld => ?_)
       focus ((try dsimp only); (exact ⟨(World.cell?_of_block (a := ⟨w.heap.size, 1, none⟩) (HSA.out w.heap.size (by omega))).trans p1, (World.cell?_of_block (a := ⟨b, o + k * 4, none⟩) (HSA.out b (by omega))).trans hc0, (World.cell?_of_block (a := ⟨b, o + k * 4 + 1, none⟩) (HSA.out b (by omega))).trans hc1, (World.cell?_of_block (a := ⟨b, o + k * 4 + 2, none⟩) (HSA.out b (by omega))).trans hc2, (World.cell?_of_block (a := ⟨b, o + k * 4 + 3, none⟩) (HSA.out b (by omega))).trans hc3⟩))
       clear hK K
       try simp only [Act.put, pa, pb, pc]
       refine rd1 8 (fun K hK => ?_)
       refine step_appG (α := V) (wr.drew.alloc (.cells #[.string l[k].k, .int .i64 l[k].n, .int .i64 l[k].f, .int .i64 l[k].t] 68)) rfl _ _ _ _ 68 rfl Tryz.underlying30 Tryz.underlying30 w1.heap.size (.slice bv nv cv) KL rfl hOa (some ⟨wr.heap.size, 0, none⟩) 1 _ 1 [l[k]] rfl rfl (rdOneV wr.drew l[k] 68) (by simp; omega) (by simp; omega) ?_
       intro v' w' hown hgr hat
       obtain ⟨bv', nv', cv', rfl⟩ := hown.slice
       have hXw := hXa.grown hgr (fun e => by obtain ⟨cs, hcs⟩ := hOa.blk_of e.symm; exact hXa.ne hcs (by decide) rfl)
       have xw1 : w'.cell? ⟨w1.heap.size + 1, 1, none⟩ = some (.slice bv nv cv) := (by rw [hXw.cell]; rfl)
       have xwf := hXw.free 1
       have HSW : Hid (∀ q, q < w.heap.size + 1 → w'.heap[q]? = wr.heap[q]?) := fun q hq => (hgr.block q (by simp; omega) (hOa.ne_block (by omega))).trans (HSA.out q hq)
       refine hK.out _ _ ?_ (fun hHeld => ?_)
       focus ((try dsimp only); (exact ⟨(World.cell?_of_block (a := ⟨w.heap.size, 1, none⟩) (HSW.out w.heap.size (by omega))).trans p1, (World.cell?_of_block (a := ⟨b, o + k * 4, none⟩) (HSW.out b (by omega))).trans hc0, (World.cell?_of_block (a := ⟨b, o + k * 4 + 1, none⟩) (HSW.out b (by omega))).trans hc1, (World.cell?_of_block (a := ⟨b, o + k * 4 + 2, none⟩) (HSW.out b (by omega))).trans hc2, (World.cell?_of_block (a := ⟨b, o + k * 4 + 3, none⟩) (HSW.out b (by omega))).trans hc3⟩))
       clear hK K
       try simp only [Act.put, pa, pb, pc]
       refine tk 9 ?_
       have HSE : Hid (∀ q, q < w.heap.size + 1 → (w'.setCell ⟨w1.heap.size + 1, 1, none⟩ (.slice bv' nv' cv')).heap[q]? = wr.heap[q]?) := fun q hq => (Below.heap_setCell w' ⟨w1.heap.size + 1, 1, none⟩ _ q (show q ≠ w1.heap.size + 1 from by omega)).trans (HSW.out q hq)
       refine rd1 10 (fun K hK => ?_)
       go_simp
       refine hK.out _ _ ?_ (fun hHeld => ?_)
       focus ((try dsimp only); (exact ⟨(World.cell?_of_block (a := ⟨w.heap.size, 1, none⟩) (HSE.out w.heap.size (by omega))).trans p1, (World.cell?_of_block (a := ⟨b, o + k * 4, none⟩) (HSE.out b (by omega))).trans hc0, (World.cell?_of_block (a := ⟨b, o + k * 4 + 1, none⟩) (HSE.out b (by omega))).trans hc1, (World.cell?_of_block (a := ⟨b, o + k * 4 + 2, none⟩) (HSE.out b (by omega))).trans hc2, (World.cell?_of_block (a := ⟨b, o + k * 4 + 3, none⟩) (HSE.out b (by omega))).trans hc3⟩))
       clear hK K
       try simp only [Act.put, pa, pb, pc]
       refine wpAnyH_done (by kernel_rfl) ?_ _
       have hXe : Blk (w'.setCell ⟨w1.heap.size + 1, 1, none⟩ (.slice bv' nv' cv')) (w1.heap.size + 1) 32 #[.int .i64 z, .slice bv' nv' cv'] := (hXw.set_ 1 _).cast rfl
       have hOe := hown.setCell (a := ⟨w1.heap.size + 1, 1, none⟩) (fun g hg e => by obtain ⟨cs, hcs⟩ := hown.blk_of hg; exact hXw.ne hcs (by decide) e.symm) (.slice bv' nv' cv')
       have hBe := (((show Blk wr.drew _ _ _ from hB).alloc (.cells #[.string l[k].k, .int .i64 l[k].n, .int .i64 l[k].f, .int .i64 l[k].t] 68)).grown hgr (hOa.ne_block (by omega))).setOther (a := ⟨w1.heap.size + 1, 1, none⟩) (show w.heap.size ≠ w1.heap.size + 1 from by omega) (.slice bv' nv' cv')
       have hRe := (((show Blk wr.drew _ _ _ from hR).alloc (.cells #[.string l[k].k, .int .i64 l[k].n, .int .i64 l[k].f, .int .i64 l[k].t] 68)).grown hgr (hOa.ne_block (by omega))).setOther (a := ⟨w1.heap.size + 1, 1, none⟩) (show w.heap.size + 1 ≠ w1.heap.size + 1 from by omega) (.slice bv' nv' cv')
       have hbe : Below w.heap.size w (w'.setCell ⟨w1.heap.size + 1, 1, none⟩ (.slice bv' nv' cv')) := (hOa.below (below_alloc hb.drew (.cells #[.string l[k].k, .int .i64 l[k].n, .int .i64 l[k].f, .int .i64 l[k].t] 68)) hgr (by omega)).setCell (show w.heap.size ≤ w1.heap.size + 1 from by omega) _
       go_wp2
       go_roundw
       case rel => exact ⟨k + 1, _, by omega, by go_num, hXe, by rw [HK.out, HKK.out]; exact hOe, hBe, hRe, hbe⟩
       case measure => simp [intOf]; omega
    ·
     have HK := Lib.hid (keepL_no hkl he)
     have hd1 : (l[k].t == 0) = false := by unfold endB at he; simp at he ⊢; omega
     have hd2 : decide (t < l[k].t) = false := by unfold endB at he; simp at he ⊢; omega
     clear he
     go_wp2
     go_roundw
     case rel => exact ⟨k + 1, _, by omega, by go_num, hX, by rw [HK.out]; exact hO, hB, hR, hb⟩
     case measure => simp [intOf]; omega
   ·
    have hkI : decide ((k : Int) < (l.length : Int)) = false := decide_eq_false (by omega)
    have d0 : wr.cell? ⟨w.heap.size + 1, 0, none⟩ = some (.int .i64 0) := by rw [hR.cell]; rfl
    have d1 : wr.cell? ⟨w.heap.size + 1, 1, none⟩ = some (.slice none 0 0) := by rw [hR.cell]; rfl
    have f0 := hR.free 0
    have f1 := hR.free 1
    rw [List.take_of_length_le (by omega)] at hO
    go_wp2
    refine bodyPost_ret (v := .agg #[.int .i64 z, .slice bv nv cv]) (by simp [results, Tryz.results72, go_sem, d0, d1]) rfl ⟨.slice bv nv cv, rfl, ?_, ?_⟩
    ·
     have hne : ∀ g, (Value.slice bv nv cv).ownBlock = some g → g ≠ w.heap.size + 1 := fun g hg => by have := (hO.block_lt hg).1; omega
     exact ((hO.setCell (a := ⟨w.heap.size + 1, 0, none⟩) hne _).setCell (a := ⟨w.heap.size + 1, 1, none⟩) hne _).low (by have := hw1.size; omega)
    ·
     exact (hb.setCell (by simp <;> omega) _).setCell (by simp <;> omega) _

theorem specVersTrimO {v : Value} {z : Int} {l : List V} {base : Nat} {w : World} (t : Int) (h : OwnG w base v l) (hf : FitVs l) (hl : l.length ≤ 1048576) :
  Calls Tryz.prog 72 #[.agg #[.int .i64 z, v], .int .i64 t] w (RetV w (trimZ z l) (trimL z l t)) := by
 obtain ⟨A, c, rfl, h1, h2, hr⟩ := h.read
 exact specVersTrim z A c l t w hf h1 h2 hl hr

end Go.Proofs.YtnijgbinjbikbaaGreat
