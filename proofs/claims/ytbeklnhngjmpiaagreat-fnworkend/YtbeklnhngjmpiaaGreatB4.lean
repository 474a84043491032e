/- The program's chains: forget; the storage's vers.
VersTrim, of the model and of the program.
VersTrim of the model. -/
import Derived.Test.YtbeklnhngjmpiaaGreatB3
import Derived.StillTailTactics
namespace Go.Proofs.YtbeklnhngjmpiaaGreat
open Go.RowKit
set_option linter.unusedVariables false
set_option maxRecDepth 100000

/-- it stands no more at a time, nor later -/
def endB (t : Int) (x : V) : Bool := decide (x.t ≠ 0) && decide (x.t ≤ t)
/-- the call returns a history in new memory -/
def RetV (w : World) (z : Int) (l : List V) (e : Ending) (w' : World) : Prop := ∃ v, e = .returned (.agg #[.int .i64 z, v]) ∧ OwnG w' w.heap.size v l ∧ Below w.heap.size w w'

theorem flat_take_succ (chs : List Ch) (k : Nat) (h : k < chs.length) : (chs.take (k + 1)).flatMap Ch.vs = (chs.take k).flatMap Ch.vs ++ chs[k].vs := by
 rw [List.take_succ_eq_append_getElem h, List.flatMap_append]; simp
theorem vs_take_succ (c : Ch) (i : Nat) (y : Lk) (h : c.ls[i]? = some y) : c.vs.take (i + 1) = c.vs.take i ++ [y.v] := by
 unfold Ch.vs
 have hi := (List.getElem?_eq_some_iff.1 h).1
 rw [List.take_succ_eq_append_getElem (by simpa using hi), List.getElem_map, (List.getElem?_eq_some_iff.1 h).2]

set_option maxHeartbeats 2000000 in
theorem vers_c (n₀ s : Nat) (z : Int) (chs : List Ch) (w : World) (h : Sto w n₀ s z chs) (hl : chs.length ≤ 1048576) (hf : (chs.flatMap Ch.vs).length ≤ 1048577) :
  Calls Tryz.prog 137 #[.pointer (some ⟨s, 0, none⟩)] w (RetV w z (chs.flatMap Ch.vs)) := by
 obtain ⟨v0, hS, hO⟩ := h.blk
 obtain ⟨A, c, rfl, hlc, hcm, hr⟩ := hO.read
 have hpl := pts_length chs
 have c1 : w.cell? ⟨s, 1, none⟩ = some (.slice A chs.length c) := by rw [hS.cell, ← hpl]; rfl
 have hslt := hS.lt
 have hb0 : Below w.heap.size w (w.alloc (.cells #[.int .i64 0, .slice none 0 0] 34)) := below_alloc (Below.refl _ _) _
 have hB0 := blkA w #[.int .i64 0, .slice none 0 0] 34
 have hflat : ∀ k, ((chs.take k).flatMap Ch.vs).length ≤ 1048577 := fun k => by
  have : ((chs.take k).flatMap Ch.vs).length ≤ (chs.flatMap Ch.vs).length := by
   conv => rhs; rw [← List.take_append_drop k chs, List.flatMap_append, List.length_append]
   omega
  omega
 have HFL := Lib.hid hflat
 clear hflat
 go_enter Tryz.func137, Tryz.ntmps137
 go_wp2
 go_loopw [3, 12] (fun v i W => ∃ k : Nat, k ≤ chs.length ∧ i = .int .i64 k ∧ OwnG W (w.heap.size + 1) v ((chs.take k).flatMap Ch.vs) ∧ Blk W w.heap.size 34 #[.int .i64 0, .slice none 0 0] ∧ Below w.heap.size w W) (fun _ i _ => chs.length - (intOf i).toNat)
 case atStart => exact ⟨0, Nat.zero_le _, rfl, OwnG.nil _ _, hB0, hb0⟩
 case round =>
  obtain ⟨k, hk, rfl, hOv, hB, hb⟩ := hrel
  by_cases hkl : k < chs.length
  ·
   have hkI := lenI _ _ hkl
   obtain ⟨b, o, rfl, hbB, hc0⟩ := (hr.below hb).atPt (i := k) (by rw [hpl]; exact hkl)
   have hc1 : wr.cell? ⟨b, o + k, none⟩ = some (.pointer (some ⟨chs[k].g, 0, none⟩)) := by rw [hc0]; simp [pts]
   have hch := (h.cok _ (List.getElem_mem hkl)).next hb
   have hh : chs[k].ls.head? = chs[k].ls[0]? := by cases chs[k].ls <;> rfl
   have d1 : wr.cell? ⟨chs[k].g, 1, none⟩ = some (ptrO (chs[k].ls[0]?.map Lk.g)) := by rw [hch.blk.cell, ← hh]; rfl
   have HT := Lib.hid (flat_take_succ chs k hkl)
   have hpre := HFL.out (k + 1)
   rw [HT.out, List.length_append] at hpre
   obtain ⟨pre, HP⟩ : ∃ pre, Hid ((chs.take k).flatMap Ch.vs = pre) := ⟨_, Lib.hid rfl⟩
   rw [HP.out] at hOv hpre
   clear hc0
   go_wp2
   go_loopg [3, 6] chs[k].ls.length (fun gk v p W => ∃ i : Nat, i + gk = chs[k].ls.length ∧ p = ptrO (chs[k].ls[i]?.map Lk.g) ∧ OwnG W (w.heap.size + 1) v (pre ++ chs[k].vs.take i) ∧ Blk W w.heap.size 34 #[.int .i64 0, .slice none 0 0] ∧ Below w.heap.size w W)
   case atStart => exact ⟨0, by omega, rfl, by simpa using hOv, hB, hb⟩
   case round =>
    obtain ⟨i, hi, rfl, hOi, hBi, hbi⟩ := hrel
    cases hy : chs[k].ls[i]? with
    | none =>
     have hil : chs[k].ls.length ≤ i := List.getElem?_eq_none_iff.1 hy
     have HE := Lib.hid (show chs[k].vs.take i = chs[k].vs from List.take_of_length_le (by unfold Ch.vs; simpa using hil))
     rw [show ptrO (Option.map Lk.g none) = Value.pointer none from rfl]
     go_wp2
     go_roundw
     case rel => exact ⟨k + 1, by omega, by go_num, by rw [HT.out, HP.out]; have := hOi; rwa [HE.out] at this, hBi, hbi⟩
     case measure => simp [intOf]; omega
    | some y =>
     have hyb := ((h.cok _ (List.getElem_mem hkl)).ls i y hy).next' hbi
     have e0 : wr.cell? ⟨y.g, 0, none⟩ = some (.string y.v.k) := by rw [hyb.cell]; rfl
     have e1 : wr.cell? ⟨y.g, 1, none⟩ = some (.int .i64 y.v.n) := by rw [hyb.cell]; rfl
     have e2 : wr.cell? ⟨y.g, 2, none⟩ = some (.int .i64 y.v.f) := by rw [hyb.cell]; rfl
     have e3 : wr.cell? ⟨y.g, 3, none⟩ = some (.int .i64 y.v.t) := by rw [hyb.cell]; rfl
     have e4 : wr.cell? ⟨y.g, 4, none⟩ = some (ptrO (chs[k].ls[i + 1]?.map Lk.g)) := by rw [hyb.cell]; rfl
     have hyl := hyb.lt
     have hil := (List.getElem?_eq_some_iff.1 hy).1
     have HE := Lib.hid (vs_take_succ chs[k] i y hy)
     have hltk : (chs[k].vs.take i).length ≤ chs[k].vs.length := by rw [List.length_take]; omega
     have hsz : w.heap.size + 1 ≤ wr.heap.size := by have := hBi.lt; omega
     rw [show ptrO (Option.map Lk.g (some y)) = Value.pointer (some ⟨y.g, 0, none⟩) from rfl]
     go_wp2_with (at_builtin; refine wpList_appG (α := V) (wr.alloc (.cells #[.string y.v.k, .int .i64 y.v.n, .int .i64 y.v.f, .int .i64 y.v.t] 118)) rfl _ _ _ _ 118 rfl Tryz.underlying32 Tryz.underlying32 (w.heap.size + 1) _ (pre ++ chs[k].vs.take i) rfl (hOi.alloc _) (some ⟨wr.heap.size, 0, none⟩) 1 _ 1 [y.v] rfl rfl (rdOneV wr y.v 118) (by rw [List.length_append]; simp; omega) (by simp; omega) ?_; intro v' w' hown hgr hat; have e4' : w'.cell? ⟨y.g, 4, none⟩ = some (ptrO (chs[k].ls[i + 1]?.map Lk.g)) := (World.cell?_of_block (hgr.block y.g (by simp; omega) (fun e => by obtain ⟨cs, hcs⟩ := hOi.blk_of e.symm; exact hyb.ne hcs (by decide) rfl))).trans ((World.cell?_of_block (Below.heap_alloc wr _ y.g hyl)).trans e4))
     go_roundg (gk - 1)
     case measure => omega
     case rel => exact ⟨i + 1, by omega, rfl, by rw [HE.out, ← List.append_assoc]; exact hown, (hBi.alloc _).grown hgr (hOi.ne_block (by omega)), (hOi.alloc _).below (below_alloc hbi _) hgr (by omega)⟩
  ·
   have hkI : decide ((k : Int) < (chs.length : Int)) = false := decide_eq_false (by omega)
   have q0 : wr.cell? ⟨s, 0, none⟩ = some (.int .i64 z) := by rw [(hS.next hb).cell]; rfl
   have d0 : wr.cell? ⟨w.heap.size, 0, none⟩ = some (.int .i64 0) := by rw [hB.cell]; rfl
   have d1 : wr.cell? ⟨w.heap.size, 1, none⟩ = some (.slice none 0 0) := by rw [hB.cell]; rfl
   have f0 := hB.free 0
   have f1 := hB.free 1
   rw [List.take_of_length_le (by omega)] at hOv
   obtain ⟨bv, nv, cv, rfl⟩ := hOv.slice
   go_wp2
   refine bodyPost_ret (v := .agg #[.int .i64 z, .slice bv nv cv]) (by simp [results, Tryz.results137, go_sem, d0, d1]) rfl ⟨.slice bv nv cv, rfl, ?_, ?_⟩
   ·
    have hne : ∀ g, (Value.slice bv nv cv).ownBlock = some g → g ≠ w.heap.size := fun g hg => by have := (hOv.block_lt hg).1; omega
    exact ((hOv.setCell (a := ⟨w.heap.size, 0, none⟩) hne _).setCell (a := ⟨w.heap.size, 1, none⟩) hne _).low (by omega)
   ·
    exact (hb.setCell (by simp <;> omega) _).setCell (by simp <;> omega) _

end Go.Proofs.YtbeklnhngjmpiaaGreat

namespace Go.Proofs.YtbeklnhngjmpiaaGreat
open Go.RowKit
set_option linter.unusedVariables false
set_option maxRecDepth 100000

def keepL (l : List V) (t : Int) : List V := l.filter fun x => !endB t x
noncomputable def trimZ (z : Int) (l : List V) : Int := if versB z l then z else 0
noncomputable def trimL (z : Int) (l : List V) (t : Int) : List V := if versB z l then keepL l t else []
theorem keepL_length (l : List V) (t : Int) : (keepL l t).length ≤ l.length := List.length_filter_le _ _
theorem trimL_length (z : Int) (l : List V) (t : Int) : (trimL z l t).length ≤ l.length := by
 unfold trimL
 split
 ·
  exact keepL_length l t
 ·
  simp
theorem keepL_yes {l : List V} {t : Int} {k : Nat} (hk : k < l.length) (h : endB t l[k] = false) : keepL (l.take (k + 1)) t = keepL (l.take k) t ++ [l[k]] := by
 rw [List.take_succ_eq_append_getElem hk]; unfold keepL; rw [List.filter_append, List.filter_cons_of_pos (by simp [h])]; rfl
theorem keepL_no {l : List V} {t : Int} {k : Nat} (hk : k < l.length) (h : endB t l[k] = true) : keepL (l.take (k + 1)) t = keepL (l.take k) t := by
 rw [List.take_succ_eq_append_getElem hk]; unfold keepL; rw [List.filter_append, List.filter_cons_of_neg (by simp [h])]; simp

/-! the program's -/
end Go.Proofs.YtbeklnhngjmpiaaGreat

namespace Go.Proofs.YtbeklnhngjmpiaaGreat
open Go.RowKit
set_option linter.unusedVariables false
set_option maxRecDepth 100000

set_option maxHeartbeats 2000000 in
theorem specVersTrim (z : Int) (A : Option Addr) (c : Nat) (l : List V) (t : Int) (w : World) (hfit : FitVs l) (hlc : l.length ≤ c) (hcm : c ≤ maxLen) (hl : l.length ≤ 1048576) (hr : RdG w w.heap.size A l) :
  Calls Tryz.prog 135 #[.agg #[.int .i64 z, .slice A l.length c], .int .i64 t] w (RetV w (trimZ z l) (trimL z l t)) := by
 have hb0 : Below w.heap.size w ((w.alloc (.cells #[.int .i64 z, .slice A l.length c] 34)).alloc (.cells #[.int .i64 0, .slice none 0 0] 34)) := below_alloc (below_alloc (Below.refl _ _) _) _
 have hB0 := (blkA w #[.int .i64 z, .slice A l.length c] 34).alloc (.cells #[.int .i64 0, .slice none 0 0] 34)
 have hR0 := blkA (w.alloc (.cells #[.int .i64 z, .slice A l.length c] 34)) #[.int .i64 0, .slice none 0 0] 34
 simp only [World.size_alloc] at hR0
 cases hv : versB z l
 ·
  have HE := Lib.hid (show trimZ z l = 0 ∧ trimL z l t = [] from by unfold trimZ trimL; rw [hv]; exact ⟨rfl, rfl⟩)
  rw [HE.out.1, HE.out.2]
  go_enter Tryz.func135, Tryz.ntmps135
  go_wp2_with fail
  refine (specVersOk z A c l _ hfit hlc hcm (hr.next hb0)).mono ?_
  rintro e w1 ⟨rfl, hb1⟩
  rw [hv]
  have hw1 := below_next hb0 hb1
  have hR1 := hR0.next hb1
  have d0 : w1.cell? ⟨w.heap.size + 1, 0, none⟩ = some (.int .i64 0) := by rw [hR1.cell]; rfl
  have d1 : w1.cell? ⟨w.heap.size + 1, 1, none⟩ = some (.slice none 0 0) := by rw [hR1.cell]; rfl
  have f0 := hR1.free 0
  have f1 := hR1.free 1
  go_wp2
  refine bodyPost_ret (v := .agg #[.int .i64 0, .slice none 0 0]) (by simp [results, Tryz.results135, go_sem, d0, d1]) rfl ⟨.slice none 0 0, rfl, OwnG.nil _ _, ?_⟩
  exact (hw1.setCell (by simp <;> omega) _).setCell (by simp <;> omega) _
 ·
  have HE := Lib.hid (show trimZ z l = z ∧ trimL z l t = keepL l t from by unfold trimZ trimL; rw [hv]; exact ⟨rfl, rfl⟩)
  rw [HE.out.1, HE.out.2]
  go_enter Tryz.func135, Tryz.ntmps135
  go_wp2_with fail
  refine (specVersOk z A c l _ hfit hlc hcm (hr.next hb0)).mono ?_
  rintro e w1 ⟨rfl, hb1⟩
  rw [hv]
  have hw1 := below_next hb0 hb1
  have hB1 := hB0.next hb1
  have hR1 := hR0.next hb1
  have hRlt := hR1.lt
  have q0 : w1.cell? ⟨w.heap.size, 0, none⟩ = some (.int .i64 z) := by rw [hB1.cell]; rfl
  have q1 : w1.cell? ⟨w.heap.size, 1, none⟩ = some (.slice A l.length c) := by rw [hB1.cell]; rfl
  have hbx : Below w1.heap.size w1 ((w1.alloc (.cells #[] 118)).alloc (.cells #[.int .i64 z, .slice (some ⟨w1.heap.size, 0, none⟩) 0 0] 34)) := below_alloc (below_alloc (Below.refl _ _) _) _
  have hX0 := blkA (w1.alloc (.cells #[] 118)) #[.int .i64 z, .slice (some ⟨w1.heap.size, 0, none⟩) 0 0] 34
  have hO0 := (OwnG.fresh (α := V) w1 w1.heap.size (Nat.le_refl _)).alloc (.cells #[.int .i64 z, .slice (some ⟨w1.heap.size, 0, none⟩) 0 0] 34)
  simp only [World.size_alloc] at hX0
  have hw2 := below_next hw1 hbx
  go_wp2
  go_loopw [6] (fun i W => ∃ (k : Nat) (v : Value), k ≤ l.length ∧ i = .int .i64 k ∧ Blk W (w1.heap.size + 1) 34 #[.int .i64 z, v] ∧ OwnG W w1.heap.size v (keepL (l.take k) t) ∧ Blk W w.heap.size 34 #[.int .i64 z, .slice A l.length c] ∧ Blk W (w.heap.size + 1) 34 #[.int .i64 0, .slice none 0 0] ∧ Below w.heap.size w W) (fun i _ => l.length - (intOf i).toNat)
  case atStart => exact ⟨0, _, Nat.zero_le _, rfl, hX0, hO0, hB1.next hbx, hR1.next hbx, hw2⟩
  case round =>
   obtain ⟨k, v, hk, rfl, hX, hO, hB, hR, hb⟩ := hrel
   obtain ⟨bv, nv, cv, rfl⟩ := hO.slice
   have p1 : wr.cell? ⟨w.heap.size, 1, none⟩ = some (.slice A l.length c) := by rw [hB.cell]; rfl
   have x0 : wr.cell? ⟨w1.heap.size + 1, 0, none⟩ = some (.int .i64 z) := by rw [hX.cell]; rfl
   have x1 : wr.cell? ⟨w1.heap.size + 1, 1, none⟩ = some (.slice bv nv cv) := by rw [hX.cell]; rfl
   have fx := hX.free 1
   by_cases hkl : k < l.length
   ·
    obtain ⟨b, o, rfl, hbB, hc0, hc1, hc2, hc3⟩ := (hr.below hb).atV hkl
    have hkI := lenI _ _ hkl
    cases he : endB t l[k]
    ·
     have HK := Lib.hid (keepL_yes hkl he)
     have hd : (l[k].t == 0) = true ∨ ((l[k].t == 0) = false ∧ decide (t < l[k].t) = true) := by
      unfold endB at he
      simp at he ⊢
      omega
     have hlen := keepL_length (l.take k) t
     rw [List.length_take] at hlen
     obtain ⟨KL, HKK⟩ : ∃ K, Hid (keepL (l.take k) t = K) := ⟨_, Lib.hid rfl⟩
     rw [HKK.out] at hO hlen
     clear he
     have hwlt := hX.lt
     have hRl := hR.lt
     rcases hd with hd1 | ⟨hd1, hd2⟩
     ·
      have hOa := (show OwnG wr.drew w1.heap.size (.slice bv nv cv) KL from hO).alloc (.cells #[.string l[k].k, .int .i64 l[k].n, .int .i64 l[k].f, .int .i64 l[k].t] 118)
      have hXa := (show Blk wr.drew (w1.heap.size + 1) 34 #[.int .i64 z, .slice bv nv cv] from hX).alloc (.cells #[.string l[k].k, .int .i64 l[k].n, .int .i64 l[k].f, .int .i64 l[k].t] 118)
      have xa1 : (wr.drew.alloc (.cells #[.string l[k].k, .int .i64 l[k].n, .int .i64 l[k].f, .int .i64 l[k].t] 118)).cell? ⟨w1.heap.size + 1, 1, none⟩ = some (.slice bv nv cv) := by rw [hXa.cell]; rfl
      have HSA : Hid (∀ q, q < w.heap.size + 1 → (wr.drew.alloc (.cells #[.string l[k].k, .int .i64 l[k].n, .int .i64 l[k].f, .int .i64 l[k].t] 118)).heap[q]? = wr.heap[q]?) := fun q hq => Below.heap_alloc wr.drew _ q (show q < wr.heap.size from by omega)
      go_wp2
      refine wp_region_held_drew (S := (fun W => W.cell? ⟨w.heap.size, 1, none⟩ = some (.slice (some ⟨b, o, none⟩) l.length c) ∧ W.cell? ⟨b, o + k * 4, none⟩ = some (.string l[k].k) ∧ W.cell? ⟨b, o + k * 4 + 1, none⟩ = some (.int .i64 l[k].n) ∧ W.cell? ⟨b, o + k * 4 + 2, none⟩ = some (.int .i64 l[k].f) ∧ W.cell? ⟨b, o + k * 4 + 3, none⟩ = some (.int .i64 l[k].t))) (by kernel_rfl) ?_ (fun hHeld => ?_)
      focus ((try dsimp only); (exact ⟨p1, hc0, hc1, hc2, hc3⟩))
      refine tk 0 ?_
      refine tk 2 ?_
      refine tk 3 ?_
      refine tk 4 ?_
      refine tk 5 ?_
      refine tk 6 ?_
      refine wpAnyH_ready (rs := [1, 7]) (by kernel_rfl) (by simp) (AllReadyH.cons (by (simp only [ga, gb, gc]; rfl)) (fun K hK => ?_) (AllReadyH.cons (by (simp only [ga, gb, gc]; rfl)) (fun K hK => ?_) AllReadyH.nil))
      ·
       go_simp
       refine hK.out _ _ ?_ (fun hHeld => ?_)
       focus ((try dsimp only); (exact ⟨p1, hc0, hc1, hc2, hc3⟩))
       clear hK K
       try simp only [Act.put, pa, pb, pc]
       refine rd1 7 (fun K hK => ?_)
       go_simp
       refine hK.out _ _ ?_ (fun hHeld => ?_)
       focus ((try dsimp only); (exact ⟨(World.cell?_of_block (a := ⟨w.heap.size, 1, none⟩) (HSA.out w.heap.size (by omega))).trans p1, (World.cell?_of_block (a := ⟨b, o + k * 4, none⟩) (HSA.out b (by omega))).trans hc0, (World.cell?_of_block (a := ⟨b, o + k * 4 + 1, none⟩) (HSA.out b (by omega))).trans hc1, (World.cell?_of_block (a := ⟨b, o + k * 4 + 2, none⟩) (HSA.out b (by omega))).trans hc2, (World.cell?_of_block (a := ⟨b, o + k * 4 + 3, none⟩) (HSA.out b (by omega))).trans hc3⟩))
       clear hK K
       try simp only [Act.put, pa, pb, pc]
       refine rd1 8 (fun K hK => ?_)
       refine step_appG (α := V) (wr.drew.alloc (.cells #[.string l[k].k, .int .i64 l[k].n, .int .i64 l[k].f, .int .i64 l[k].t] 118)) rfl _ _ _ _ 118 rfl Tryz.underlying32 Tryz.underlying32 w1.heap.size (.slice bv nv cv) KL rfl hOa (some ⟨wr.heap.size, 0, none⟩) 1 _ 1 [l[k]] rfl rfl (rdOneV wr.drew l[k] 118) (by simp; omega) (by simp; omega) ?_
       intro v' w' hown hgr hat
       obtain ⟨bv', nv', cv', rfl⟩ := hown.slice
       have hXw := hXa.grown hgr (fun e => by obtain ⟨cs, hcs⟩ := hOa.blk_of e.symm; exact hXa.ne hcs (by decide) rfl)
       have xw1 : w'.cell? ⟨w1.heap.size + 1, 1, none⟩ = some (.slice bv nv cv) := (by rw [hXw.cell]; rfl)
       have xwf := hXw.free 1
       have HSW : Hid (∀ q, q < w.heap.size + 1 → w'.heap[q]? = wr.heap[q]?) := fun q hq => (hgr.block q (by simp; omega) (hOa.ne_block (by omega))).trans (HSA.out q hq)
       refine hK.out _ _ ?_ (fun hHeld => ?_)
       focus ((try dsimp only); (exact ⟨(World.cell?_of_block (a := ⟨w.heap.size, 1, none⟩) (HSW.out w.heap.size (by omega))).trans p1, (World.cell?_of_block (a := ⟨b, o + k * 4, none⟩) (HSW.out b (by omega))).trans hc0, (World.cell?_of_block (a := ⟨b, o + k * 4 + 1, none⟩) (HSW.out b (by omega))).trans hc1, (World.cell?_of_block (a := ⟨b, o + k * 4 + 2, none⟩) (HSW.out b (by omega))).trans hc2, (World.cell?_of_block (a := ⟨b, o + k * 4 + 3, none⟩) (HSW.out b (by omega))).trans hc3⟩))
       clear hK K
       try simp only [Act.put, pa, pb, pc]
       refine tk 9 ?_
       have HSE : Hid (∀ q, q < w.heap.size + 1 → (w'.setCell ⟨w1.heap.size + 1, 1, none⟩ (.slice bv' nv' cv')).heap[q]? = wr.heap[q]?) := fun q hq => (Below.heap_setCell w' ⟨w1.heap.size + 1, 1, none⟩ _ q (show q ≠ w1.heap.size + 1 from by omega)).trans (HSW.out q hq)
       refine rd1 10 (fun K hK => ?_)
       go_simp
       refine hK.out _ _ ?_ (fun hHeld => ?_)
       focus ((try dsimp only); (exact ⟨(World.cell?_of_block (a := ⟨w.heap.size, 1, none⟩) (HSE.out w.heap.size (by omega))).trans p1, (World.cell?_of_block (a := ⟨b, o + k * 4, none⟩) (HSE.out b (by omega))).trans hc0, (World.cell?_of_block (a := ⟨b, o + k * 4 + 1, none⟩) (HSE.out b (by omega))).trans hc1, (World.cell?_of_block (a := ⟨b, o + k * 4 + 2, none⟩) (HSE.out b (by omega))).trans hc2, (World.cell?_of_block (a := ⟨b, o + k * 4 + 3, none⟩) (HSE.out b (by omega))).trans hc3⟩))
       clear hK K
       try simp only [Act.put, pa, pb, pc]
       refine wpAnyH_done (by kernel_rfl) ?_ _
       have hXe : Blk (w'.setCell ⟨w1.heap.size + 1, 1, none⟩ (.slice bv' nv' cv')) (w1.heap.size + 1) 34 #[.int .i64 z, .slice bv' nv' cv'] := (hXw.set_ 1 _).cast rfl
       have hOe := hown.setCell (a := ⟨w1.heap.size + 1, 1, none⟩) (fun g hg e => by obtain ⟨cs, hcs⟩ := hown.blk_of hg; exact hXw.ne hcs (by decide) e.symm) (.slice bv' nv' cv')
       have hBe := (((show Blk wr.drew _ _ _ from hB).alloc (.cells #[.string l[k].k, .int .i64 l[k].n, .int .i64 l[k].f, .int .i64 l[k].t] 118)).grown hgr (hOa.ne_block (by omega))).setOther (a := ⟨w1.heap.size + 1, 1, none⟩) (show w.heap.size ≠ w1.heap.size + 1 from by omega) (.slice bv' nv' cv')
       have hRe := (((show Blk wr.drew _ _ _ from hR).alloc (.cells #[.string l[k].k, .int .i64 l[k].n, .int .i64 l[k].f, .int .i64 l[k].t] 118)).grown hgr (hOa.ne_block (by omega))).setOther (a := ⟨w1.heap.size + 1, 1, none⟩) (show w.heap.size + 1 ≠ w1.heap.size + 1 from by omega) (.slice bv' nv' cv')
       have hbe : Below w.heap.size w (w'.setCell ⟨w1.heap.size + 1, 1, none⟩ (.slice bv' nv' cv')) := (hOa.below (below_alloc hb.drew (.cells #[.string l[k].k, .int .i64 l[k].n, .int .i64 l[k].f, .int .i64 l[k].t] 118)) hgr (by omega)).setCell (show w.heap.size ≤ w1.heap.size + 1 from by omega) _
       go_wp2
       go_roundw
       case rel => exact ⟨k + 1, _, by omega, by go_num, hXe, by rw [HK.out, HKK.out]; exact hOe, hBe, hRe, hbe⟩
       case measure => simp [intOf]; omega
      ·
       go_simp
       refine hK.out _ _ ?_ (fun hHeld => ?_)
       focus ((try dsimp only); (exact ⟨(World.cell?_of_block (a := ⟨w.heap.size, 1, none⟩) (HSA.out w.heap.size (by omega))).trans p1, (World.cell?_of_block (a := ⟨b, o + k * 4, none⟩) (HSA.out b (by omega))).trans hc0, (World.cell?_of_block (a := ⟨b, o + k * 4 + 1, none⟩) (HSA.out b (by omega))).trans hc1, (World.cell?_of_block (a := ⟨b, o + k * 4 + 2, none⟩) (HSA.out b (by omega))).trans hc2, (World.cell?_of_block (a := ⟨b, o + k * 4 + 3, none⟩) (HSA.out b (by omega))).trans hc3⟩))
       clear hK K
       try simp only [Act.put, pa, pb, pc]
       refine rd1 1 (fun K hK => ?_)
       go_simp
       refine hK.out _ _ ?_ (fun hHeld => ?_)
       focus ((try dsimp only); (exact ⟨(World.cell?_of_block (a := ⟨w.heap.size, 1, none⟩) (HSA.out w.heap.size (by omega))).trans p1, (World.cell?_of_block (a := ⟨b, o + k * 4, none⟩) (HSA.out b (by omega))).trans hc0, (World.cell?_of_block (a := ⟨b, o + k * 4 + 1, none⟩) (HSA.out b (by omega))).trans hc1, (World.cell?_of_block (a := ⟨b, o + k * 4 + 2, none⟩) (HSA.out b (by omega))).trans hc2, (World.cell?_of_block (a := ⟨b, o + k * 4 + 3, none⟩) (HSA.out b (by omega))).trans hc3⟩))
       clear hK K
       try simp only [Act.put, pa, pb, pc]
       refine rd1 8 (fun K hK => ?_)
       refine step_appG (α := V) (wr.drew.alloc (.cells #[.string l[k].k, .int .i64 l[k].n, .int .i64 l[k].f, .int .i64 l[k].t] 118)) rfl _ _ _ _ 118 rfl Tryz.underlying32 Tryz.underlying32 w1.heap.size (.slice bv nv cv) KL rfl hOa (some ⟨wr.heap.size, 0, none⟩) 1 _ 1 [l[k]] rfl rfl (rdOneV wr.drew l[k] 118) (by simp; omega) (by simp; omega) ?_
       intro v' w' hown hgr hat
       obtain ⟨bv', nv', cv', rfl⟩ := hown.slice
       have hXw := hXa.grown hgr (fun e => by obtain ⟨cs, hcs⟩ := hOa.blk_of e.symm; exact hXa.ne hcs (by decide) rfl)
       have xw1 : w'.cell? ⟨w1.heap.size + 1, 1, none⟩ = some (.slice bv nv cv) := (by rw [hXw.cell]; rfl)
       have xwf := hXw.free 1
       have HSW : Hid (∀ q, q < w.heap.size + 1 → w'.heap[q]? = wr.heap[q]?) := fun q hq => (hgr.block q (by simp; omega) (hOa.ne_block (by omega))).trans (HSA.out q hq)
       refine hK.out _ _ ?_ (fun hHeld => ?_)
       focus ((try dsimp only); (exact ⟨(World.cell?_of_block (a := ⟨w.heap.size, 1, none⟩) (HSW.out w.heap.size (by omega))).trans p1, (World.cell?_of_block (a := ⟨b, o + k * 4, none⟩) (HSW.out b (by omega))).trans hc0, (World.cell?_of_block (a := ⟨b, o + k * 4 + 1, none⟩) (HSW.out b (by omega))).trans hc1, (World.cell?_of_block (a := ⟨b, o + k * 4 + 2, none⟩) (HSW.out b (by omega))).trans hc2, (World.cell?_of_block (a := ⟨b, o + k * 4 + 3, none⟩) (HSW.out b (by omega))).trans hc3⟩))
       clear hK K
       try simp only [Act.put, pa, pb, pc]
       refine tk 9 ?_
       have HSE : Hid (∀ q, q < w.heap.size + 1 → (w'.setCell ⟨w1.heap.size + 1, 1, none⟩ (.slice bv' nv' cv')).heap[q]? = wr.heap[q]?) := fun q hq => (Below.heap_setCell w' ⟨w1.heap.size + 1, 1, none⟩ _ q (show q ≠ w1.heap.size + 1 from by omega)).trans (HSW.out q hq)
       refine rd1 10 (fun K hK => ?_)
       go_simp
       refine hK.out _ _ ?_ (fun hHeld => ?_)
       focus ((try dsimp only); (exact ⟨(World.cell?_of_block (a := ⟨w.heap.size, 1, none⟩) (HSE.out w.heap.size (by omega))).trans p1, (World.cell?_of_block (a := ⟨b, o + k * 4, none⟩) (HSE.out b (by omega))).trans hc0, (World.cell?_of_block (a := ⟨b, o + k * 4 + 1, none⟩) (HSE.out b (by omega))).trans hc1, (World.cell?_of_block (a := ⟨b, o + k * 4 + 2, none⟩) (HSE.out b (by omega))).trans hc2, (World.cell?_of_block (a := ⟨b, o + k * 4 + 3, none⟩) (HSE.out b (by omega))).trans hc3⟩))
       clear hK K
       try simp only [Act.put, pa, pb, pc]
       refine wpAnyH_done (by kernel_rfl) ?_ _
       have hXe : Blk (w'.setCell ⟨w1.heap.size + 1, 1, none⟩ (.slice bv' nv' cv')) (w1.heap.size + 1) 34 #[.int .i64 z, .slice bv' nv' cv'] := (hXw.set_ 1 _).cast rfl
       have hOe := hown.setCell (a := ⟨w1.heap.size + 1, 1, none⟩) (fun g hg e => by obtain ⟨cs, hcs⟩ := hown.blk_of hg; exact hXw.ne hcs (by decide) e.symm) (.slice bv' nv' cv')
       have hBe := (((show Blk wr.drew _ _ _ from hB).alloc (.cells #[.string l[k].k, .int .i64 l[k].n, .int .i64 l[k].f, .int .i64 l[k].t] 118)).grown hgr (hOa.ne_block (by omega))).setOther (a := ⟨w1.heap.size + 1, 1, none⟩) (show w.heap.size ≠ w1.heap.size + 1 from by omega) (.slice bv' nv' cv')
       have hRe := (((show Blk wr.drew _ _ _ from hR).alloc (.cells #[.string l[k].k, .int .i64 l[k].n, .int .i64 l[k].f, .int .i64 l[k].t] 118)).grown hgr (hOa.ne_block (by omega))).setOther (a := ⟨w1.heap.size + 1, 1, none⟩) (show w.heap.size + 1 ≠ w1.heap.size + 1 from by omega) (.slice bv' nv' cv')
       have hbe : Below w.heap.size w (w'.setCell ⟨w1.heap.size + 1, 1, none⟩ (.slice bv' nv' cv')) := (hOa.below (below_alloc hb.drew (.cells #[.string l[k].k, .int .i64 l[k].n, .int .i64 l[k].f, .int .i64 l[k].t] 118)) hgr (by omega)).setCell (show w.heap.size ≤ w1.heap.size + 1 from by omega) _
       go_wp2
       go_roundw
       case rel => exact ⟨k + 1, _, by omega, by go_num, hXe, by rw [HK.out, HKK.out]; exact hOe, hBe, hRe, hbe⟩
       case measure => simp [intOf]; omega
     ·
      have hOa := (show OwnG wr.drew w1.heap.size (.slice bv nv cv) KL from hO).alloc (.cells #[.string l[k].k, .int .i64 l[k].n, .int .i64 l[k].f, .int .i64 l[k].t] 118)
      have hXa := (show Blk wr.drew (w1.heap.size + 1) 34 #[.int .i64 z, .slice bv nv cv] from hX).alloc (.cells #[.string l[k].k, .int .i64 l[k].n, .int .i64 l[k].f, .int .i64 l[k].t] 118)
      have xa1 : (wr.drew.alloc (.cells #[.string l[k].k, .int .i64 l[k].n, .int .i64 l[k].f, .int .i64 l[k].t] 118)).cell? ⟨w1.heap.size + 1, 1, none⟩ = some (.slice bv nv cv) := by rw [hXa.cell]; rfl
      have HSA : Hid (∀ q, q < w.heap.size + 1 → (wr.drew.alloc (.cells #[.string l[k].k, .int .i64 l[k].n, .int .i64 l[k].f, .int .i64 l[k].t] 118)).heap[q]? = wr.heap[q]?) := fun q hq => Below.heap_alloc wr.drew _ q (show q < wr.heap.size from by omega)
      go_wp2
      refine wp_region_held_drew (S := (fun W => W.cell? ⟨w.heap.size, 1, none⟩ = some (.slice (some ⟨b, o, none⟩) l.length c) ∧ W.cell? ⟨b, o + k * 4, none⟩ = some (.string l[k].k) ∧ W.cell? ⟨b, o + k * 4 + 1, none⟩ = some (.int .i64 l[k].n) ∧ W.cell? ⟨b, o + k * 4 + 2, none⟩ = some (.int .i64 l[k].f) ∧ W.cell? ⟨b, o + k * 4 + 3, none⟩ = some (.int .i64 l[k].t))) (by kernel_rfl) ?_ (fun hHeld => ?_)
      focus ((try dsimp only); (exact ⟨p1, hc0, hc1, hc2, hc3⟩))
      refine tk 0 ?_
      refine tk 2 ?_
      refine tk 3 ?_
      refine tk 4 ?_
      refine tk 5 ?_
      refine tk 6 ?_
      refine wpAnyH_ready (rs := [1, 7]) (by kernel_rfl) (by simp) (AllReadyH.cons (by (simp only [ga, gb, gc]; rfl)) (fun K hK => ?_) (AllReadyH.cons (by (simp only [ga, gb, gc]; rfl)) (fun K hK => ?_) AllReadyH.nil))
      ·
       go_simp
       refine hK.out _ _ ?_ (fun hHeld => ?_)
       focus ((try dsimp only); (exact ⟨p1, hc0, hc1, hc2, hc3⟩))
       clear hK K
       try simp only [Act.put, pa, pb, pc]
       refine rd1 7 (fun K hK => ?_)
       go_simp
       refine hK.out _ _ ?_ (fun hHeld => ?_)
       focus ((try dsimp only); (exact ⟨(World.cell?_of_block (a := ⟨w.heap.size, 1, none⟩) (HSA.out w.heap.size (by omega))).trans p1, (World.cell?_of_block (a := ⟨b, o + k * 4, none⟩) (HSA.out b (by omega))).trans hc0, (World.cell?_of_block (a := ⟨b, o + k * 4 + 1, none⟩) (HSA.out b (by omega))).trans hc1, (World.cell?_of_block (a := ⟨b, o + k * 4 + 2, none⟩) (HSA.out b (by omega))).trans hc2, (World.cell?_of_block (a := ⟨b, o + k * 4 + 3, none⟩) (HSA.out b (by omega))).trans hc3⟩))
       clear hK K
       try simp only [Act.put, pa, pb, pc]
       refine rd1 8 (fun K hK => ?_)
       refine step_appG (α := V) (wr.drew.alloc (.cells #[.string l[k].k, .int .i64 l[k].n, .int .i64 l[k].f, .int .i64 l[k].t] 118)) rfl _ _ _ _ 118 rfl Tryz.underlying32 Tryz.underlying32 w1.heap.size (.slice bv nv cv) KL rfl hOa (some ⟨wr.heap.size, 0, none⟩) 1 _ 1 [l[k]] rfl rfl (rdOneV wr.drew l[k] 118) (by simp; omega) (by simp; omega) ?_
       intro v' w' hown hgr hat
       obtain ⟨bv', nv', cv', rfl⟩ := hown.slice
       have hXw := hXa.grown hgr (fun e => by obtain ⟨cs, hcs⟩ := hOa.blk_of e.symm; exact hXa.ne hcs (by decide) rfl)
       have xw1 : w'.cell? ⟨w1.heap.size + 1, 1, none⟩ = some (.slice bv nv cv) := (by rw [hXw.cell]; rfl)
       have xwf := hXw.free 1
       have HSW : Hid (∀ q, q < w.heap.size + 1 → w'.heap[q]? = wr.heap[q]?) := fun q hq => (hgr.block q (by simp; omega) (hOa.ne_block (by omega))).trans (HSA.out q hq)
       refine hK.out _ _ ?_ (fun hHeld => ?_)
       focus ((try dsimp only); (exact ⟨(World.cell?_of_block (a := ⟨w.heap.size, 1, none⟩) (HSW.out w.heap.size (by omega))).trans p1, (World.cell?_of_block (a := ⟨b, o + k * 4, none⟩) (HSW.out b (by omega))).trans hc0, (World.cell?_of_block (a := ⟨b, o + k * 4 + 1, none⟩) (HSW.out b (by omega))).trans hc1, (World.cell?_of_block (a := ⟨b, o + k * 4 + 2, none⟩) (HSW.out b (by omega))).trans hc2, (World.cell?_of_block (a := ⟨b, o + k * 4 + 3, none⟩) (HSW.out b (by omega))).trans hc3⟩))
       clear hK K
       try simp only [Act.put, pa, pb, pc]
       refine tk 9 ?_
       have HSE : Hid (∀ q, q < w.heap.size + 1 → (w'.setCell ⟨w1.heap.size + 1, 1, none⟩ (.slice bv' nv' cv')).heap[q]? = wr.heap[q]?) := fun q hq => (Below.heap_setCell w' ⟨w1.heap.size + 1, 1, none⟩ _ q (show q ≠ w1.heap.size + 1 from by omega)).trans (HSW.out q hq)
       refine rd1 10 (fun K hK => ?_)
       go_simp
       refine hK.out _ _ ?_ (fun hHeld => ?_)
       focus ((try dsimp only); (exact ⟨(World.cell?_of_block (a := ⟨w.heap.size, 1, none⟩) (HSE.out w.heap.size (by omega))).trans p1, (World.cell?_of_block (a := ⟨b, o + k * 4, none⟩) (HSE.out b (by omega))).trans hc0, (World.cell?_of_block (a := ⟨b, o + k * 4 + 1, none⟩) (HSE.out b (by omega))).trans hc1, (World.cell?_of_block (a := ⟨b, o + k * 4 + 2, none⟩) (HSE.out b (by omega))).trans hc2, (World.cell?_of_block (a := ⟨b, o + k * 4 + 3, none⟩) (HSE.out b (by omega))).trans hc3⟩))
       clear hK K
       try simp only [Act.put, pa, pb, pc]
       refine wpAnyH_done (by kernel_rfl) ?_ _
       have hXe : Blk (w'.setCell ⟨w1.heap.size + 1, 1, none⟩ (.slice bv' nv' cv')) (w1.heap.size + 1) 34 #[.int .i64 z, .slice bv' nv' cv'] := (hXw.set_ 1 _).cast rfl
       have hOe := hown.setCell (a := ⟨w1.heap.size + 1, 1, none⟩) (fun g hg e => by obtain ⟨cs, hcs⟩ := hown.blk_of hg; exact hXw.ne hcs (by decide) e.symm) (.slice bv' nv' cv')
       have hBe := (((show Blk wr.drew _ _ _ from hB).alloc (.cells #[.string l[k].k, .int .i64 l[k].n, .int .i64 l[k].f, .int .i64 l[k].t] 118)).grown hgr (hOa.ne_block (by omega))).setOther (a := ⟨w1.heap.size + 1, 1, none⟩) (show w.heap.size ≠ w1.heap.size + 1 from by omega) (.slice bv' nv' cv')
       have hRe := (((show Blk wr.drew _ _ _ from hR).alloc (.cells #[.string l[k].k, .int .i64 l[k].n, .int .i64 l[k].f, .int .i64 l[k].t] 118)).grown hgr (hOa.ne_block (by omega))).setOther (a := ⟨w1.heap.size + 1, 1, none⟩) (show w.heap.size + 1 ≠ w1.heap.size + 1 from by omega) (.slice bv' nv' cv')
       have hbe : Below w.heap.size w (w'.setCell ⟨w1.heap.size + 1, 1, none⟩ (.slice bv' nv' cv')) := (hOa.below (below_alloc hb.drew (.cells #[.string l[k].k, .int .i64 l[k].n, .int .i64 l[k].f, .int .i64 l[k].t] 118)) hgr (by omega)).setCell (show w.heap.size ≤ w1.heap.size + 1 from by omega) _
       go_wp2
       go_roundw
       case rel => exact ⟨k + 1, _, by omega, by go_num, hXe, by rw [HK.out, HKK.out]; exact hOe, hBe, hRe, hbe⟩
       case measure => simp [intOf]; omega
      ·
       go_simp
       refine hK.out _ _ ?_ (fun hHeld => ?_)
       focus ((try dsimp only); (exact ⟨(World.cell?_of_block (a := ⟨w.heap.size, 1, none⟩) (HSA.out w.heap.size (by omega))).trans p1, (World.cell?_of_block (a := ⟨b, o + k * 4, none⟩) (HSA.out b (by omega))).trans hc0, (World.cell?_of_block (a := ⟨b, o + k * 4 + 1, none⟩) (HSA.out b (by omega))).trans hc1, (World.cell?_of_block (a := ⟨b, o + k * 4 + 2, none⟩) (HSA.out b (by omega))).trans hc2, (World.cell?_of_block (a := ⟨b, o + k * 4 + 3, none⟩) (HSA.out b (by omega))).trans hc3⟩))
       clear hK K
       try simp only [Act.put, pa, pb, pc]
       refine rd1 1 (fun K hK => ?_)
       go_simp
       refine hK.out _ _ ?_ (fun hHeld => ?_)
       focus ((try dsimp only); (exact ⟨(World.cell?_of_block (a := ⟨w.heap.size, 1, none⟩) (HSA.out w.heap.size (by omega))).trans p1, (World.cell?_of_block (a := ⟨b, o + k * 4, none⟩) (HSA.out b (by omega))).trans hc0, (World.cell?_of_block (a := ⟨b, o + k * 4 + 1, none⟩) (HSA.out b (by omega))).trans hc1, (World.cell?_of_block (a := ⟨b, o + k * 4 + 2, none⟩) (HSA.out b (by omega))).trans hc2, (World.cell?_of_block (a := ⟨b, o + k * 4 + 3, none⟩) (HSA.out b (by omega))).trans hc3⟩))
       clear hK K
       try simp only [Act.put, pa, pb, pc]
       refine rd1 8 (fun K hK => ?_)
       refine step_appG (α := V) (wr.drew.alloc (.cells #[.string l[k].k, .int .i64 l[k].n, .int .i64 l[k].f, .int .i64 l[k].t] 118)) rfl _ _ _ _ 118 rfl Tryz.underlying32 Tryz.underlying32 w1.heap.size (.slice bv nv cv) KL rfl hOa (some ⟨wr.heap.size, 0, none⟩) 1 _ 1 [l[k]] rfl rfl (rdOneV wr.drew l[k] 118) (by simp; omega) (by simp; omega) ?_
       intro v' w' hown hgr hat
       obtain ⟨bv', nv', cv', rfl⟩ := hown.slice
       have hXw := hXa.grown hgr (fun e => by obtain ⟨cs, hcs⟩ := hOa.blk_of e.symm; exact hXa.ne hcs (by decide) rfl)
       have xw1 : w'.cell? ⟨w1.heap.size + 1, 1, none⟩ = some (.slice bv nv cv) := (by rw [hXw.cell]; rfl)
       have xwf := hXw.free 1
       have HSW : Hid (∀ q, q < w.heap.size + 1 → w'.heap[q]? = wr.heap[q]?) := fun q hq => (hgr.block q (by simp; omega) (hOa.ne_block (by omega))).trans (HSA.out q hq)
       refine hK.out _ _ ?_ (fun hHeld => ?_)
       focus ((try dsimp only); (exact ⟨(World.cell?_of_block (a := ⟨w.heap.size, 1, none⟩) (HSW.out w.heap.size (by omega))).trans p1, (World.cell?_of_block (a := ⟨b, o + k * 4, none⟩) (HSW.out b (by omega))).trans hc0, (World.cell?_of_block (a := ⟨b, o + k * 4 + 1, none⟩) (HSW.out b (by omega))).trans hc1, (World.cell?_of_block (a := ⟨b, o + k * 4 + 2, none⟩) (HSW.out b (by omega))).trans hc2, (World.cell?_of_block (a := ⟨b, o + k * 4 + 3, none⟩) (HSW.out b (by omega))).trans hc3⟩))
       clear hK K
       try simp only [Act.put, pa, pb, pc]
       refine tk 9 ?_
       have HSE : Hid (∀ q, q < w.heap.size + 1 → (w'.setCell ⟨w1.heap.size + 1, 1, none⟩ (.slice bv' nv' cv')).heap[q]? = wr.heap[q]?) := fun q hq => (Below.heap_setCell w' ⟨w1.heap.size + 1, 1, none⟩ _ q (show q ≠ w1.heap.size + 1 from by omega)).trans (HSW.out q hq)
       refine rd1 10 (fun K hK => ?_)
       go_simp
       refine hK.out _ _ ?_ (fun hHeld => ?_)
       focus ((try dsimp only); (exact ⟨(World.cell?_of_block (a := ⟨w.heap.size, 1, none⟩) (HSE.out w.heap.size (by omega))).trans p1, (World.cell?_of_block (a := ⟨b, o + k * 4, none⟩) (HSE.out b (by omega))).trans hc0, (World.cell?_of_block (a := ⟨b, o + k * 4 + 1, none⟩) (HSE.out b (by omega))).trans hc1, (World.cell?_of_block (a := ⟨b, o + k * 4 + 2, none⟩) (HSE.out b (by omega))).trans hc2, (World.cell?_of_block (a := ⟨b, o + k * 4 + 3, none⟩) (HSE.out b (by omega))).trans hc3⟩))
       clear hK K
       try simp only [Act.put, pa, pb, pc]
       refine wpAnyH_done (by kernel_rfl) ?_ _
       have hXe : Blk (w'.setCell ⟨w1.heap.size + 1, 1, none⟩ (.slice bv' nv' cv')) (w1.heap.size + 1) 34 #[.int .i64 z, .slice bv' nv' cv'] := (hXw.set_ 1 _).cast rfl
       have hOe := hown.setCell (a := ⟨w1.heap.size + 1, 1, none⟩) (fun g hg e => by obtain ⟨cs, hcs⟩ := hown.blk_of hg; exact hXw.ne hcs (by decide) e.symm) (.slice bv' nv' cv')
       have hBe := (((show Blk wr.drew _ _ _ from hB).alloc (.cells #[.string l[k].k, .int .i64 l[k].n, .int .i64 l[k].f, .int .i64 l[k].t] 118)).grown hgr (hOa.ne_block (by omega))).setOther (a := ⟨w1.heap.size + 1, 1, none⟩) (show w.heap.size ≠ w1.heap.size + 1 from by omega) (.slice bv' nv' cv')
       have hRe := (((show Blk wr.drew _ _ _ from hR).alloc (.cells #[.string l[k].k, .int .i64 l[k].n, .int .i64 l[k].f, .int .i64 l[k].t] 118)).grown hgr (hOa.ne_block (by omega))).setOther (a := ⟨w1.heap.size + 1, 1, none⟩) (show w.heap.size + 1 ≠ w1.heap.size + 1 from by omega) (.slice bv' nv' cv')
       have hbe : Below w.heap.size w (w'.setCell ⟨w1.heap.size + 1, 1, none⟩ (.slice bv' nv' cv')) := (hOa.below (below_alloc hb.drew (.cells #[.string l[k].k, .int .i64 l[k].n, .int .i64 l[k].f, .int .i64 l[k].t] 118)) hgr (by omega)).setCell (show w.heap.size ≤ w1.heap.size + 1 from by omega) _
       go_wp2
       go_roundw
       case rel => exact ⟨k + 1, _, by omega, by go_num, hXe, by rw [HK.out, HKK.out]; exact hOe, hBe, hRe, hbe⟩
       case measure => simp [intOf]; omega
    ·
     have HK := Lib.hid (keepL_no hkl he)
     have hd1 : (l[k].t == 0) = false := by unfold endB at he; simp at he ⊢; omega
     have hd2 : decide (t < l[k].t) = false := by unfold endB at he; simp at he ⊢; omega
     clear he
     go_wp2
     go_roundw
     case rel => exact ⟨k + 1, _, by omega, by go_num, hX, by rw [HK.out]; exact hO, hB, hR, hb⟩
     case measure => simp [intOf]; omega
   ·
    have hkI : decide ((k : Int) < (l.length : Int)) = false := decide_eq_false (by omega)
    have d0 : wr.cell? ⟨w.heap.size + 1, 0, none⟩ = some (.int .i64 0) := by rw [hR.cell]; rfl
    have d1 : wr.cell? ⟨w.heap.size + 1, 1, none⟩ = some (.slice none 0 0) := by rw [hR.cell]; rfl
    have f0 := hR.free 0
    have f1 := hR.free 1
    rw [List.take_of_length_le (by omega)] at hO
    go_wp2
    refine bodyPost_ret (v := .agg #[.int .i64 z, .slice bv nv cv]) (by simp [results, Tryz.results135, go_sem, d0, d1]) rfl ⟨.slice bv nv cv, rfl, ?_, ?_⟩
    ·
     have hne : ∀ g, (Value.slice bv nv cv).ownBlock = some g → g ≠ w.heap.size + 1 := fun g hg => by have := (hO.block_lt hg).1; omega
     exact ((hO.setCell (a := ⟨w.heap.size + 1, 0, none⟩) hne _).setCell (a := ⟨w.heap.size + 1, 1, none⟩) hne _).low (by have := hw1.size; omega)
    ·
     exact (hb.setCell (by simp <;> omega) _).setCell (by simp <;> omega) _

end Go.Proofs.YtbeklnhngjmpiaaGreat
