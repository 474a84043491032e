/- The program's snapshot: its iterator. -/
import Derived.RangeFuncNested
import Derived.RangeFuncBound
import Derived.RangeFuncCalls
import Derived.RangeFuncLeaves
import Derived.RangeFuncBox
import Derived.Shelf.Abstract
import Derived.Shelf.RegionOpen
import Derived.WalkKit
import Derived.OwnWalkIn
import Derived.TacticsInMore
import Derived.LoopNIn
import Derived.LoopIn
import Derived.Maps.AppendAt
import Derived.Stop.RegionWithIn
import Derived.Deep.RegionWith
import Derived.Deep.Cut
import Derived.Test.YtbhdgalkedegjaaC2e
namespace Go.Proofs.Ytbhdgalkedegjaa
open Go.RowKit Go.Shelf
set_option linter.unusedVariables false
set_option maxRecDepth 100000
attribute [local go_sem] Oper.semAt_some

theorem grown_below {w w' : World} (hb : Below w.heap.size w w') : w.grownBy w' none := ⟨hb.os, hb.tape, hb.output, hb.size, fun k hk _ => hb.block k hk⟩
def encR (x : R) : Value := .agg #[.string x.1, .int .i64 x.2]
/-- what a round keeps: the blocks of T -/
def KpT (T : Nat → Prop) (W W' : World) : Prop := W.heap.size ≤ W'.heap.size ∧ ∀ k, T k → W'.heap[k]? = W.heap[k]?
theorem KpT.refl (T : Nat → Prop) (W : World) : KpT T W W := ⟨Nat.le_refl _, fun _ _ => rfl⟩
theorem KpT.trans {T : Nat → Prop} {A B C : World} (h : KpT T A B) (k : KpT T B C) : KpT T A C := ⟨Nat.le_trans h.1 k.1, fun i h1 => (k.2 i h1).trans (h.2 i h1)⟩
theorem KpT.mono {T T' : Nat → Prop} {W W' : World} (h : KpT T W W') (hs : ∀ k, T' k → T k) : KpT T' W W' := ⟨h.1, fun k hk => h.2 k (hs k hk)⟩
theorem KpT.below {T : Nat → Prop} {W W' : World} (hb : Below W.heap.size W W') (hn : ∀ k, T k → k < W.heap.size) : KpT T W W' := ⟨hb.size, fun k h2 => hb.block k (hn k h2)⟩
theorem Blk.kp {W W' : World} {T : Nat → Prop} {g : Nat} {t : TypeId} {cs : Array Value} (h : Blk W g t cs) (hk : KpT T W W') (h1 : T g) : Blk W' g t cs := (hk.2 g h1).trans h

theorem Sto.kp {w W' : World} {T : Nat → Prop} {n₀ s : Nat} {z : Int} {chs : List Ch} (h : Sto w n₀ s z chs) (hi : ∀ k, n₀ ≤ k → k < w.heap.size → T k) (hk : KpT T w W') : Sto W' n₀ s z chs := by
  obtain ⟨v, h1, h2⟩ := h.blk
  refine ⟨⟨v, h1.kp hk (hi _ h.lo h1.lt), h2.keep fun g hg => ?_⟩, fun c hc => ?_, h.dis, h.lo, h.los⟩
  · have := h2.block_lt hg
    exact hk.2 g (hi g this.1 this.2)
  · have hcc := h.cok c hc
    refine ⟨hcc.blk.kp hk (hi _ (h.los c hc _ (.inl rfl)) hcc.blk.lt), fun i x hx => ?_, hcc.nd⟩
    have hm : c.has x.g := .inr (List.mem_map.2 ⟨x, List.mem_of_getElem? hx, rfl⟩)
    exact (hcc.ls i x hx).kp hk (hi _ (h.los c hc _ hm) (hcc.lt hm))

/-- the rows of a time, chain by chain -/
def snapL (t : Int) (chs : List Ch) : List R := chs.filterMap fun c => (seen t c).map rowOf
theorem snapL_none {t : Int} {chs : List Ch} {j : Nat} (hj : j < chs.length) (h : seen t chs[j] = none) : snapL t (chs.take (j + 1)) = snapL t (chs.take j) := by
  rw [List.take_succ_eq_append_getElem hj]; unfold snapL; rw [List.filterMap_append]; simp [h]
theorem snapL_some {t : Int} {chs : List Ch} {j : Nat} {x : V} (hj : j < chs.length) (h : seen t chs[j] = some x) : snapL t (chs.take (j + 1)) = snapL t (chs.take j) ++ [(x.k, x.n)] := by
  rw [List.take_succ_eq_append_getElem hj]; unfold snapL; rw [List.filterMap_append]; simp [h, rowOf]
theorem snapL_length (t : Int) (chs : List Ch) : (snapL t chs).length ≤ chs.length := List.length_filterMap_le _ _

theorem yield_i {m l0 : Nat} {T : Nat → Prop} {args : Array Value} {W : World} {p q : World → Prop} (h : YieldAt Fence.wide m Try.prog l0 args W fun e W' => (e = .returned (.bool true) ∧ p W' ∧ KpT T W W') ∨ (e = .returned (.bool false) ∧ q W')) :
    YieldAt Fence.wide m Try.prog l0 args W fun e W' => ∃ t, e = .returned (.bool t) ∧ ((t = true ∧ p W' ∧ KpT T W W') ∨ (t = false ∧ q W')) := by
  obtain ⟨fn, tmps, assign, body, hy, hR⟩ := h
  refine ⟨fn, tmps, assign, body, hy, hR.mono ?_⟩
  rintro e w' (⟨rfl, h1, h2⟩ | ⟨rfl, h1⟩)
  · exact ⟨true, rfl, .inl ⟨rfl, h1, h2⟩⟩
  · exact ⟨false, rfl, .inr ⟨rfl, h1⟩⟩

theorem OwnG.kp {α : Type} [Elt α] {w W' : World} {T : Nat → Prop} {n₀ : Nat} {v : Value} {l : List α} (h : OwnG w n₀ v l) (hi : ∀ k, n₀ ≤ k → k < w.heap.size → T k) (hk : KpT T w W') : OwnG W' n₀ v l :=
  h.keep fun g hg => by have := h.block_lt hg; exact hk.2 g (hi g this.1 this.2)

set_option maxHeartbeats 4000000 in
theorem snapshot1_c (n l0 n₀ s Bs Bt : Nat) (T : Nat → Prop) (z t : Int) (chs : List Ch) (hl : chs.length ≤ 1048576) (J Jx : List R → World → Prop)
    (W W0 : World) (hJ : AbidesFrom W.heap.size J)
    (hY : ∀ pre x W1, J pre W1 → pre.length < chs.length → YieldAt Fence.wide (n - 1) Try.prog l0 #[encR x] W1 fun e W' =>
      (e = .returned (.bool true) ∧ J (pre ++ [x]) W' ∧ KpT T W1 W') ∨ (e = .returned (.bool false) ∧ Jx (pre ++ [x]) W'))
    (hn₁ : ∀ k, T k → k < W.heap.size) (hS : Sto W0 n₀ s z chs) (hhi : ∀ k, n₀ ≤ k → k < W0.heap.size → T k) (hk0 : KpT (fun k => n₀ ≤ k ∧ k < W0.heap.size) W0 W)
    (hBs : Blk W Bs 81 #[.pointer (some ⟨s, 0, none⟩)]) (hBt : Blk W Bt 88 #[.int .i64 t]) (hBs1 : T Bs) (hBt1 : T Bt) (h0 : J [] W) :
    Calls Try.prog 111 #[.func (.yield l0) #[] #[], .pointer (some ⟨Bs, 0, none⟩), .pointer (some ⟨Bt, 0, none⟩)] W fun e W' => (∃ v, e = .returned v) ∧
      ((∃ ys, ys = snapL t chs ∧ J ys W') ∨ (∃ pre, True ∧ Jx pre W')) := by
  obtain ⟨v, hB, hO⟩ := hS.blk
  have hslt := hB.lt
  have hSW := hS.kp (fun k h1 h2 => ⟨h1, h2⟩) hk0
  obtain ⟨A, c, rfl, hlc, hcm, hr⟩ := hO.read
  have hpl := pts_length chs
  have c1 : W.cell? ⟨s, 1, none⟩ = some (.slice A chs.length c) := by rw [(hB.kp hk0 ⟨hS.lo, hslt⟩).cell, ← hpl]; rfl
  have cB : W.cell? ⟨Bs, 0, none⟩ = some (.pointer (some ⟨s, 0, none⟩)) := by rw [hBs.cell]; rfl
  go_enter Try.func111, Try.ntmps111
  go_wp2
  go_loopw [13] (fun i wr => ∃ j : Nat, j ≤ chs.length ∧ i = .int .i64 j ∧ J (snapL t (chs.take j)) wr ∧ KpT T W wr) (fun i _ => chs.length - (intOf i).toNat)
  case atStart => exact ⟨0, Nat.zero_le _, rfl, h0, KpT.refl _ _⟩
  case round =>
    obtain ⟨j, hj, rfl, hJr, hk⟩ := hrel
    by_cases hjl : j < chs.length
    · have hjI := lenI _ _ hjl
      have hk2 := hk0.trans (hk.mono fun k hk' => hhi k hk'.1 hk'.2)
      have hSr := hS.kp (fun k h1 h2 => ⟨h1, h2⟩) hk2
      have hch := hSr.cok chs[j] (List.getElem_mem hjl)
      obtain ⟨_, _, _, hrr⟩ := (hO.kp (fun k h1 h2 => ⟨h1, h2⟩) hk2).rd'
      obtain ⟨b, o, rfl, hbB, hc0⟩ := hrr.atPt (i := j) (by rw [hpl]; exact hjl)
      have hc1 : wr.cell? ⟨b, o + j, none⟩ = some (.pointer (some ⟨chs[j].g, 0, none⟩)) := by rw [hc0]; simp [pts]
      have cT : wr.cell? ⟨Bt, 0, none⟩ = some (.int .i64 t) := by rw [(hBt.kp hk hBt1).cell]; rfl
      clear hc0 hrr
      have hszr : ∀ k, T k → k < wr.heap.size := fun k h => Nat.lt_of_lt_of_le (hn₁ k h) hk.1
      have hlenp := snapL_length t (chs.take j)
      rw [List.length_take] at hlenp
      cases hse : seen t chs[j] with
      | none =>
        have HE := Lib.hid (snapL_none hjl hse)
        go_wp2_with ((go_at_call 112; refine (at_c chs[j] t _ hch).mono ?_; rintro e w' ⟨rfl, hb2⟩; rw [hse]; dsimp only [seenT]))
        go_roundw
        case rel =>
          have hb3 := below_alloc hb2 (.cells #[.string ByteArray.empty, .int .i64 0, .int .i64 0, .int .i64 0] 68)
          exact ⟨j + 1, by omega, by go_num, by rw [HE.out]; exact hJ _ _ _ none hJr (grown_below hb3) (fun _ h => by cases h), hk.trans (KpT.below hb3 hszr)⟩
        case measure => simp [intOf]; omega
      | some x =>
        have HE := Lib.hid (snapL_some hjl hse)
        go_upto_region 4 with (go_at_call 112; refine (at_c chs[j] t _ hch).mono ?_; rintro e w' ⟨rfl, hb2⟩; rw [hse]; dsimp only [seenT])
        have hb3 := below_alloc hb2 (.cells #[.string x.k, .int .i64 x.n, .int .i64 x.f, .int .i64 x.t] 68)
        have k1 : (w'.alloc (.cells #[.string x.k, .int .i64 x.n, .int .i64 x.f, .int .i64 x.t] 68)).cell? ⟨w'.heap.size, 0, none⟩ = some (.string x.k) := by rw [World.cell?_alloc_at _ _ _ _ rfl]; rfl
        have k2 : (w'.alloc (.cells #[.string x.k, .int .i64 x.n, .int .i64 x.f, .int .i64 x.t] 68)).cell? ⟨w'.heap.size, 1, none⟩ = some (.int .i64 x.n) := by rw [World.cell?_alloc_at _ _ _ _ rfl]; rfl
        generalize w'.alloc (.cells #[.string x.k, .int .i64 x.n, .int .i64 x.f, .int .i64 x.t] 68) = w3 at hb3 k1 k2 ⊢
        have hJ3 : J (snapL t (chs.take j)) w3 := hJ _ _ _ none hJr (grown_below hb3) (fun _ h => by cases h)
        obtain ⟨fn, tmps, assign, body, hy, hR⟩ := yield_i (hY (snapL t (chs.take j)) (x.k, x.n) w3 hJ3 (by omega))
        dsimp only [encR] at hy
        refine (wpIn_wide (n := n)).1 ?_
        gi_wp2_with (first
          | (refine ⟨(fun h => by cases h), hR.mono ?_⟩
             rintro e w5 ⟨tt, rfl, hT⟩))
        rcases hT with ⟨rfl, hJ5, hk5⟩ | ⟨rfl, hx5⟩
        · go_wp2
          go_roundw
          case rel => exact ⟨j + 1, by omega, by go_num, by rw [HE.out]; exact hJ5, hk.trans ((KpT.below hb3 hszr).trans hk5)⟩
          case measure => simp [intOf]; omega
        · go_wp2
          refine bodyPost_ret (results_none rfl _ _ _) rfl ?_
          exact ⟨⟨_, rfl⟩, .inr ⟨_, trivial, hx5⟩⟩
    · have hi1 : decide ((j : Int) < (chs.length : Int)) = false := decide_eq_false (by omega)
      go_wp2
      go_end0
      rw [List.take_of_length_le (by omega)] at hJr
      exact ⟨⟨_, rfl⟩, .inl ⟨_, rfl, hJr⟩⟩

set_option maxHeartbeats 1000000 in
theorem snapshot_c (s : Nat) (t : Int) (w : World) :
    Calls Try.prog 68 #[.pointer (some ⟨s, 0, none⟩), .int .i64 t] w fun e w' =>
      e = .returned (.func (.func 111) #[] #[.pointer (some ⟨w.heap.size, 0, none⟩), .pointer (some ⟨w.heap.size + 1, 0, none⟩)]) ∧
      w' = (w.alloc (.cells #[.pointer (some ⟨s, 0, none⟩)] 81)).alloc (.cells #[.int .i64 t] 88) := by
  go_enter Try.func68, Try.ntmps68
  go_wp2
  go_ret
  exact ⟨by simp, rfl⟩

theorem snapshot_stops (m n₀ s Bs Bt : Nat) (T : Nat → Prop) (z t : Int) (chs : List Ch) (hl : chs.length ≤ 1048576) (w0 W0 : World)
    (hn₁ : ∀ k, T k → k < w0.heap.size) (hS : Sto W0 n₀ s z chs) (hhi : ∀ k, n₀ ≤ k → k < W0.heap.size → T k) (hk0 : KpT (fun k => n₀ ≤ k ∧ k < W0.heap.size) W0 w0)
    (hBs : Blk w0 Bs 81 #[.pointer (some ⟨s, 0, none⟩)]) (hBt : Blk w0 Bt 88 #[.int .i64 t]) (hBs1 : T Bs) (hBt1 : T Bt) :
    SeqStopsK Fence.wide m Try.prog 111 #[.pointer (some ⟨Bs, 0, none⟩), .pointer (some ⟨Bt, 0, none⟩)] (fun x : R => #[encR x]) (KpT T) (fun ys => ys = snapL t chs) (fun _ => True) chs.length w0 :=
  fun l0 J Jx W hW hJ _ hY h0 => callsIn_wide.2 (snapshot1_c m l0 n₀ s Bs Bt T z t chs hl J Jx W W0 hJ hY (fun k h => Nat.lt_of_lt_of_le (hn₁ k h) hW.size) hS hhi (hk0.trans (KpT.below hW (fun k h => Nat.lt_of_lt_of_le h.2 hk0.1))) (hBs.next hW) (hBt.next hW) hBs1 hBt1 h0)

end Go.Proofs.Ytbhdgalkedegjaa
