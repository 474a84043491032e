/- The program's view: the iterator that merges a snapshot and the writes. -/
import Derived.Test.YtnijgbinjbikbaaGreatX3b
import Derived.Laws.EntriesVeiled
import Derived.Sort.LoopGhostIn
namespace Go.Proofs.YtnijgbinjbikbaaGreat
open Go.RowKit Go.Maps Go.Shelf
set_option linter.unusedVariables false
set_option maxRecDepth 100000
attribute [local go_sem] Oper.semAt_some

/-- what an iterator may do to its caller: new blocks, and blocks of its own from n₀ on that the caller does not own -/
structure Cal (n₀ : Nat) (own : World → Nat → Prop) (J : List R → World → Prop) : Prop where
 lt : ∀ {pre W k}, J pre W → own W k → k < W.heap.size
 step : ∀ {pre A B row}, J pre A → A.grownBy B row → (∀ r, row = some r → n₀ ≤ r ∧ (¬ own A r ∨ ∃ o, A.heap[r]? = some o ∧ o.isCells = false)) → J pre B
 same : ∀ {A B : World} {row}, n₀ ≤ A.heap.size → A.grownBy B row → (∀ r, row = some r → n₀ ≤ r ∧ (¬ own A r ∨ ∃ o, A.heap[r]? = some o ∧ o.isCells = false)) → ∀ k, own B k ↔ own A k
/-- what a round of the caller keeps -/
structure Kpt (n₀ : Nat) (own : World → Nat → Prop) (W W' : World) : Prop where
 size : W.heap.size ≤ W'.heap.size
 same : ∀ k, k < W.heap.size → ¬ own W k → W'.heap[k]? = W.heap[k]?
 free : ∀ k, k < W.heap.size → ¬ own W k → ¬ own W' k
 from_ : KeepsFrom n₀ W W'
def YieldOk (n₀ l0 : Nat) (own : World → Nat → Prop) (J : List R → World → Prop) : Prop :=
 ∀ n pre x W1, J pre W1 → pre.length ≤ 2097152 → YieldAt Fence.wide n Tryz.prog l0 #[encR x] W1 fun e W' => e = .returned (.bool true) ∧ J (pre ++ [x]) W' ∧ Kpt n₀ own W1 W'

/-- the iterator's own variables: the writes that are left -/
structure It (W : World) (own : World → Nat → Prop) (l0 yb nb xb mb rb a c0 : Nat) (pend : List X) : Prop where
 y : Blk W yb 155 #[.func (.yield l0) #[] #[]]
 n : Blk W nb 176 #[.func (.func 120) #[] #[.pointer (some ⟨rb, 0, none⟩)]]
 m : Blk W mb 4 #[.bool (!pend.isEmpty)]
 x : ∃ h : X, (pend ≠ [] → pend.head? = some h) ∧ Blk W xb 98 #[.string h.k, .int .i64 h.n, .bool h.g]
 rest : Rest W (fun k => a ≤ k ∧ k < c0) rb pend.tail
 free : ¬ own W yb ∧ ¬ own W nb ∧ ¬ own W mb ∧ ¬ own W xb ∧ ∀ k, a ≤ k → k < c0 → ¬ own W k
 far : yb < a ∧ c0 ≤ nb ∧ c0 ≤ xb ∧ c0 ≤ mb
theorem It.keep {W W' : World} {own : World → Nat → Prop} {l0 yb nb xb mb rb a c0 : Nat} {pend : List X} (h : It W own l0 yb nb xb mb rb a c0 pend) (hs : W.heap.size ≤ W'.heap.size)
  (hk : ∀ k o, W.heap[k]? = some o → o.isCells = true → ¬ own W k → W'.heap[k]? = W.heap[k]?) (hf : ∀ k, k < W.heap.size → ¬ own W k → ¬ own W' k) (hc : c0 ≤ W.heap.size) : It W' own l0 yb nb xb mb rb a c0 pend := by
 obtain ⟨f1, f2, f3, f4, f5⟩ := h.free
 obtain ⟨hd, h1, h2⟩ := h.x
 exact ⟨(hk _ _ h.y rfl f1).trans h.y, (hk _ _ h.n rfl f2).trans h.n, (hk _ _ h.m rfl f3).trans h.m, ⟨hd, h1, (hk _ _ h2 rfl f4).trans h2⟩,
  h.rest.keep hs (fun k o hk' h1 h2 => hk k o h1 h2 (f5 k hk'.1 hk'.2)),
  ⟨hf _ h.y.lt f1, hf _ h.n.lt f2, hf _ h.m.lt f3, hf _ h2.lt f4, fun k h1 h2 => hf k (by omega) (f5 k h1 h2)⟩, h.far⟩

/-- between two rows of the snapshot -/
structure OvI (own : World → Nat → Prop) (J : List R → World → Prop) (l0 yb nb xb mb rb a c0 : Nat) (W : World) (ws : List X) (rows : List R) (Wc : World) : Prop where
 j : J (mrgT rows ws).1 Wc
 it : It Wc own l0 yb nb xb mb rb a c0 (mrgT rows ws).2
 free : ∀ k, k < W.heap.size → ¬ own W k → ¬ own Wc k
 same : ∀ k, k < W.heap.size → ¬ own W k → Wc.heap[k]? = W.heap[k]?
 size : mb < Wc.heap.size
theorem OvI.grown {own : World → Nat → Prop} {J : List R → World → Prop} {l0 yb nb xb mb rb a c0 : Nat} {W : World} {ws : List X} {rows : List R} {A B : World} {row : Option Nat} (hJ : Cal W.heap.size own J) (hmb : W.heap.size ≤ mb)
  (h : OvI own J l0 yb nb xb mb rb a c0 W ws rows A) (hg : A.grownBy B row) (hr : ∀ r, row = some r → W.heap.size ≤ r ∧ ∃ o, A.heap[r]? = some o ∧ o.isCells = false) : OvI own J l0 yb nb xb mb rb a c0 W ws rows B := by
 have hc : ∀ r, row = some r → W.heap.size ≤ r ∧ (¬ own A r ∨ ∃ o, A.heap[r]? = some o ∧ o.isCells = false) := fun r e => ⟨(hr r e).1, .inr (hr r e).2⟩
 have hs := hJ.same (by have := h.size; omega) hg hc
 have hcm := h.size
 have hfar := h.it.far
 refine ⟨hJ.step h.j hg hc, h.it.keep hg.size (fun k o h1 h2 h3 => hg.block k (Array.getElem?_eq_some_iff.1 h1).1 (fun e => ?_)) (fun k _ h1 h2 => h1 ((hs k).1 h2)) (by omega), fun k h1 h2 h3 => h.free k h1 h2 ((hs k).1 h3), fun k h1 h2 => (hg.block k (by omega) (fun e => by have := (hr k e.symm).1; omega)).trans (h.same k h1 h2), by have := hg.size; omega⟩
 obtain ⟨_, o', h4, h5⟩ := hr k e.symm
 rw [h1] at h4; cases h4; rw [h2] at h5; cases h5

theorem Chg.toGrown {w w' : World} {g : Nat} (h : Chg (fun k => k = g) w w') : w.grownBy w' (some g) := ⟨h.os, h.tape, h.output, h.size, fun k hk hn => h.block k hk (fun e => hn (by rw [e]))⟩
theorem grown_set1 (W : World) (b o : Nat) (v : Value) : W.grownBy (W.setCell ⟨b, o, none⟩ v) (some b) := ⟨rfl, rfl, rfl, by simp [World.setCell], fun k _ hk => Below.heap_setCell _ _ _ k (fun e => hk (by rw [e]))⟩
/-- inside a round: what has come, the row's box, what is kept -/
structure OvB (own : World → Nat → Prop) (J : List R → World → Prop) (W : World) (n4 : Nat) (Wb : World) (Kb : Nat → Obj → Prop) (out : List R) (wr : World) : Prop where
 j : J out wr
 kp : ∀ k o, Kb k o → wr.heap[k]? = some o ∧ ¬ own wr k
 free : ∀ k, k < W.heap.size → ¬ own W k → ¬ own wr k
 same : ∀ k, k < W.heap.size → ¬ own W k → wr.heap[k]? = W.heap[k]?
 size : W.heap.size ≤ wr.heap.size
 from_ : KeepsFrom n4 Wb wr
theorem OvB.step {own : World → Nat → Prop} {J : List R → World → Prop} {W Wb A B : World} {n4 r : Nat} {Kb : Nat → Obj → Prop} {out : List R} (hJ : Cal W.heap.size own J) (h : OvB own J W n4 Wb Kb out A) (hg : A.grownBy B (some r)) (h1 : W.heap.size ≤ r) (h2 : ¬ own A r) (h3 : ∃ o, A.heap[r]? = some o ∧ o.isCells = true) (h4 : ∀ k o, Kb k o → r ≠ k) :
  OvB own J W n4 Wb Kb out B ∧ ∀ k, own B k ↔ own A k := by
 have hc : ∀ r', some r = some r' → W.heap.size ≤ r' ∧ (¬ own A r' ∨ ∃ o, A.heap[r']? = some o ∧ o.isCells = false) := fun r' e => by injection e with e; subst e; exact ⟨h1, .inl h2⟩
 have hs := hJ.same h.size hg hc
 refine ⟨⟨hJ.step h.j hg hc, fun k o q => ⟨(hg.block k (Array.getElem?_eq_some_iff.1 (h.kp k o q).1).1 (fun e => h4 k o q (by injection e with e; exact e.symm))).trans (h.kp k o q).1, fun e => (h.kp k o q).2 ((hs k).1 e)⟩, fun k q1 q2 q3 => h.free k q1 q2 ((hs k).1 q3), fun k q1 q2 => (hg.block k (by have := h.size; omega) (fun e => by injection e with e; omega)).trans (h.same k q1 q2), by have := h.size; have := hg.size; omega, h.from_.trans ((KeepsOthers.of_grownBy hg (fun j o e hj => ?_)).from _)⟩, hs⟩
 injection e with e
 subst e
 obtain ⟨o', q1, q2⟩ := h3
 rw [hj] at q1; cases q1; exact q2
theorem OvB.new {own : World → Nat → Prop} {J : List R → World → Prop} {W Wb A B : World} {n4 : Nat} {Kb : Nat → Obj → Prop} {out : List R} (hJ : Cal W.heap.size own J) (h : OvB own J W n4 Wb Kb out A) (hg : A.grownBy B none) :
  OvB own J W n4 Wb Kb out B ∧ ∀ k, own B k ↔ own A k := by
 have hc : ∀ r', none = some r' → W.heap.size ≤ r' ∧ (¬ own A r' ∨ ∃ o, A.heap[r']? = some o ∧ o.isCells = false) := fun r' e => by cases e
 have hs := hJ.same h.size hg hc
 exact ⟨⟨hJ.step h.j hg hc, fun k o q => ⟨(hg.block k (Array.getElem?_eq_some_iff.1 (h.kp k o q).1).1 (fun e => by cases e)).trans (h.kp k o q).1, fun e => (h.kp k o q).2 ((hs k).1 e)⟩, fun k q1 q2 q3 => h.free k q1 q2 ((hs k).1 q3), fun k q1 q2 => (hg.block k (by have := h.size; omega) (fun e => by cases e)).trans (h.same k q1 q2), by have := h.size; have := hg.size; omega, h.from_.trans ((KeepsOthers.of_grownBy hg (fun j o e hj => by cases e)).from _)⟩, hs⟩
theorem OvB.yield {own : World → Nat → Prop} {J : List R → World → Prop} {W Wb A B : World} {n4 : Nat} {Kb : Nat → Obj → Prop} {y : R} {out : List R} (hn : W.heap.size ≤ n4) (h : OvB own J W n4 Wb Kb out A) (hj : J (out ++ [y]) B) (hk : Kpt W.heap.size own A B) : OvB own J W n4 Wb Kb (out ++ [y]) B :=
 ⟨hj, fun k o q => ⟨(hk.same k (Array.getElem?_eq_some_iff.1 (h.kp k o q).1).1 (h.kp k o q).2).trans (h.kp k o q).1, hk.free k (Array.getElem?_eq_some_iff.1 (h.kp k o q).1).1 (h.kp k o q).2⟩, fun k q1 q2 => hk.free k (by have := h.size; omega) (h.free k q1 q2), fun k q1 q2 => (hk.same k (by have := h.size; omega) (h.free k q1 q2)).trans (h.same k q1 q2), by have := h.size; have := hk.size; omega, h.from_.trans ⟨hk.size, fun k o q1 q2 q3 => hk.from_.same k o (by omega) q2 q3⟩⟩
theorem It.new {own : World → Nat → Prop} {l0 yb nb xb mb rb a c0 : Nat} {pend : List X} {A B : World} (h : It A own l0 yb nb xb mb rb a c0 pend) (hg : A.grownBy B none) (hs : ∀ k, own B k ↔ own A k) (hc : c0 ≤ A.heap.size) : It B own l0 yb nb xb mb rb a c0 pend :=
 h.keep hg.size (fun k o h1 _ _ => hg.block k (Array.getElem?_eq_some_iff.1 h1).1 (fun e => by cases e)) (fun k _ h1 h2 => h1 ((hs k).1 h2)) hc
theorem It.yield {own : World → Nat → Prop} {l0 yb nb xb mb rb a c0 n₀ : Nat} {pend : List X} {A B : World} (h : It A own l0 yb nb xb mb rb a c0 pend) (hk : Kpt n₀ own A B) (hc : c0 ≤ A.heap.size) : It B own l0 yb nb xb mb rb a c0 pend :=
 h.keep hk.size (fun k o h1 _ h3 => hk.same k (Array.getElem?_eq_some_iff.1 h1).1 h3) (fun k h1 h2 => hk.free k h1 h2) hc
/-- the world behind 'x, more = next()' -/
def nextW (B : World) (xb mb : Nat) (h : X) (mo : Bool) : World := (((B.setCell ⟨xb, 0, none⟩ (.string h.k)).setCell ⟨xb, 1, none⟩ (.int .i64 h.n)).setCell ⟨xb, 2, none⟩ (.bool h.g)).setCell ⟨mb, 0, none⟩ (.bool mo)
theorem It.nexted {own : World → Nat → Prop} {J : List R → World → Prop} {W Wb A B : World} {n4 : Nat} {Kb : Nat → Obj → Prop} {out : List R} {l0 yb nb xb mb rb a c0 : Nat} {pd : List X} (hJ : Cal W.heap.size own J) (hb : OvB own J W n4 Wb Kb out A) (h : It A own l0 yb nb xb mb rb a c0 pd) (ha : W.heap.size ≤ a) (hxb : ∀ k o, Kb k o → xb ≠ k) (hmb : ∀ k o, Kb k o → mb ≠ k) (hrb : ∀ k o, Kb k o → rb ≠ k)
  (hc : Chg (fun k => k = rb) A B) (hR : Rest B (fun k => a ≤ k ∧ k < c0) rb pd.tail.tail) (hd : X) (mo : Bool) (hmo : mo = !pd.tail.isEmpty) (hhd : pd.tail ≠ [] → pd.tail.head? = some hd) :
  OvB own J W n4 Wb Kb out (nextW B xb mb hd mo) ∧ It (nextW B xb mb hd mo) own l0 yb nb xb mb rb a c0 pd.tail := by
 obtain ⟨h0, hq, hX⟩ := h.x
 obtain ⟨f1, f2, f3, f4, f5⟩ := h.free
 obtain ⟨g1, g2, g3, g4⟩ := h.far
 have hrm : a ≤ rb ∧ rb < c0 := h.rest.mem
 obtain ⟨Ar, cr, hRb, _⟩ := h.rest.box
 have e1 : xb ≠ mb := hX.ne h.m (by decide)
 have nY : Blk B yb _ _ := h.y.chg hc (by omega)
 have nN : Blk B nb _ _ := h.n.chg hc (by omega)
 have nM : Blk B mb _ _ := h.m.chg hc (by omega)
 have nX : Blk B xb _ _ := hX.chg hc (by omega)
 obtain ⟨b1, s1⟩ := hb.step hJ hc.toGrown (by omega) (f5 rb hrm.1 hrm.2) ⟨_, hRb, rfl⟩ hrb
 obtain ⟨b2, s2⟩ := b1.step hJ (grown_set1 B xb 0 (.string hd.k)) (by omega) (fun e => f4 ((s1 xb).1 e)) ⟨_, nX, rfl⟩ hxb
 have nX2 := nX.set_ 0 (.string hd.k)
 obtain ⟨b3, s3⟩ := b2.step hJ (grown_set1 _ xb 1 (.int .i64 hd.n)) (by omega) (fun e => f4 ((s1 xb).1 ((s2 xb).1 e))) ⟨_, nX2, rfl⟩ hxb
 have nX3 := nX2.set_ 1 (.int .i64 hd.n)
 obtain ⟨b4, s4⟩ := b3.step hJ (grown_set1 _ xb 2 (.bool hd.g)) (by omega) (fun e => f4 ((s1 xb).1 ((s2 xb).1 ((s3 xb).1 e)))) ⟨_, nX3, rfl⟩ hxb
 have nX4 := nX3.set_ 2 (.bool hd.g)
 have nM4 := ((nM.setOther (a := ⟨xb, 0, none⟩) e1.symm (.string hd.k)).setOther (a := ⟨xb, 1, none⟩) e1.symm (.int .i64 hd.n)).setOther (a := ⟨xb, 2, none⟩) e1.symm (.bool hd.g)
 obtain ⟨b5, s5⟩ := b4.step hJ (grown_set1 _ mb 0 (.bool mo)) (by omega) (fun e => f3 ((s1 mb).1 ((s2 mb).1 ((s3 mb).1 ((s4 mb).1 e))))) ⟨_, nM4, rfl⟩ hmb
 have so : ∀ k, own (nextW B xb mb hd mo) k → own A k := fun k e => (s1 k).1 ((s2 k).1 ((s3 k).1 ((s4 k).1 ((s5 k).1 e))))
 have hk : ∀ k, k ≠ xb → k ≠ mb → (nextW B xb mb hd mo).heap[k]? = B.heap[k]? := fun k q1 q2 => by
  unfold nextW
  rw [Below.heap_setCell _ ⟨mb, 0, none⟩ _ k q2, Below.heap_setCell _ ⟨xb, 2, none⟩ _ k q1, Below.heap_setCell _ ⟨xb, 1, none⟩ _ k q1, Below.heap_setCell _ ⟨xb, 0, none⟩ _ k q1]
 have hyx : yb ≠ xb := by omega
 have hym : yb ≠ mb := by omega
 have hnx : nb ≠ xb := h.n.ne hX (by decide)
 have hnm : nb ≠ mb := h.n.ne h.m (by decide)
 refine ⟨b5, ⟨(hk yb hyx hym).trans nY, (hk nb hnx hnm).trans nN, ?_, ⟨hd, hhd, ?_⟩, hR.keep (by unfold nextW; simp [World.setCell]) (fun k o q _ _ => hk k (by omega) (by omega)), ⟨fun e => f1 (so _ e), fun e => f2 (so _ e), fun e => f3 (so _ e), fun e => f4 (so _ e), fun k q1 q2 e => f5 k q1 q2 (so _ e)⟩, h.far⟩⟩
 ·
  rw [← hmo]
  exact (nM4.set_ 0 (.bool mo)).cast rfl
 ·
  exact (nX4.setOther (a := ⟨mb, 0, none⟩) e1 (.bool mo)).cast rfl

/-- a write is shown -/
theorem show_ov {own : World → Nat → Prop} {J : List R → World → Prop} {W Wb wr : World} {n4 : Nat} {Kb : Nat → Obj → Prop} {out : List R} {l0 yb nb xb mb rb a c0 : Nat} {pd : List X} (hJ : Cal W.heap.size own J) (hY : YieldOk W.heap.size l0 own J) (hn : W.heap.size ≤ n4) (y : X) (hB : OvB own J W n4 Wb Kb out wr) (hI : It wr own l0 yb nb xb mb rb a c0 pd) (hl : out.length ≤ 2097152) (hc : c0 ≤ wr.heap.size) :
  Calls Tryz.prog 113 #[.agg #[.string y.k, .int .i64 y.n, .bool y.g], .func (.yield l0) #[] #[]] wr fun e w5 => e = .returned (.bool true) ∧ OvB own J W n4 Wb Kb (out ++ showX y) w5 ∧ It w5 own l0 yb nb xb mb rb a c0 pd ∧ wr.heap.size ≤ w5.heap.size := by
 have hg : wr.grownBy (wr.alloc (.cells #[.string y.k, .int .i64 y.n, .bool y.g] 98)) none := World.grownBy_alloc _ _ _
 obtain ⟨hB1, hs1⟩ := hB.new hJ hg
 have hI1 := hI.new hg hs1 hc
 have hc1 : c0 ≤ (wr.alloc (.cells #[.string y.k, .int .i64 y.n, .bool y.g] 98)).heap.size := Nat.le_trans hc hg.size
 refine (show_c 5 l0 y wr (fun t W' => t = true ∧ J (out ++ [(y.k, y.n)]) W' ∧ Kpt W.heap.size own (wr.alloc (.cells #[.string y.k, .int .i64 y.n, .bool y.g] 98)) W') (fun _ => ?_)).mono ?_
 ·
  obtain ⟨fn, tmps, assign, body, hy, hR⟩ := hY 4 out (y.k, y.n) _ hB1.j hl
  refine ⟨fn, tmps, assign, body, hy, hR.mono ?_⟩
  rintro e w' ⟨rfl, h1, h2⟩
  exact ⟨true, rfl, rfl, h1, h2⟩
 ·
  rintro e w5 ⟨tt, rfl, ⟨hg1, rfl, rfl⟩ | ⟨hg1, rfl, hj, hk⟩⟩
  ·
   refine ⟨rfl, ?_, hI1, hg.size⟩
   have : showX y = [] := by unfold showX; rw [hg1]; rfl
   rw [this, List.append_nil]; exact hB1
  ·
   have : showX y = [(y.k, y.n)] := by unfold showX; rw [hg1]; rfl
   rw [this]
   exact ⟨rfl, hB1.yield hn hj hk, hI1.yield hk hc1, Nat.le_trans hg.size hk.size⟩

set_option maxHeartbeats 4000000 in
theorem over1_c (l0 ns s Bb b nn Bq Bs Bt : Nat) (z t : Int) (chs : List Ch) (ws : List X) (hl : chs.length ≤ 1048576) (hlw : ws.length ≤ 1048576) (ha : AscW ws) (hfx : FitXs ws)
  (own : World → Nat → Prop) (J : List R → World → Prop) (W : World) (hJ : Cal W.heap.size own J) (hY : YieldOk W.heap.size l0 own J) (h0 : J [] W)
  (hBb : Blk W Bb 142 #[.map (some b)]) (hBuf : Buf W b nn ws) (hBq : Blk W Bq 114 #[.func (.func 96) #[] #[.pointer (some ⟨Bs, 0, none⟩), .pointer (some ⟨Bt, 0, none⟩)]])
  (hBs : Blk W Bs 71 #[.pointer (some ⟨s, 0, none⟩)]) (hBt : Blk W Bt 105 #[.int .i64 t]) (W0 : World) (hS : Sto W0 ns s z chs) (hk0 : KpT (fun k => ns ≤ k ∧ k < W0.heap.size) W0 W)
  (hfree : ∀ k, (k = Bb ∨ k = Bq ∨ k = Bs ∨ k = Bt ∨ (ns ≤ k ∧ k < W0.heap.size)) → ¬ own W k) :
  Calls Tryz.prog 111 #[.func (.yield l0) #[] #[], .pointer (some ⟨Bb, 0, none⟩), .pointer (some ⟨Bq, 0, none⟩)] W fun e W' => (∃ v, e = .returned v) ∧ J (mrg (snapL t chs) ws) W' := by
 have hby : Below W.heap.size W (W.alloc (.cells #[.func (.yield l0) #[] #[]] 155)) := below_alloc (Below.refl _ _) _
 have hBy := blkA W #[.func (.yield l0) #[] #[]] 155
 have c1 : (W.alloc (.cells #[.func (.yield l0) #[] #[]] 155)).cell? ⟨Bb, 0, none⟩ = some (.map (some b)) := by rw [(hBb.next hby).cell]; rfl
 refine (callsIn_wide (n := 5)).1 (callsIn_of_wp_marks Tryz.func111 rfl trivial ?_ rfl)
 simp only [Tryz.ntmps111, List.size_toArray, List.length_cons, List.length_nil, Nat.reduceAdd, Nat.reduceSub, Array.replicate_succ, Array.replicate_zero, List.push_toArray, List.append_toArray, List.nil_append, List.cons_append]
 refine wpIn_wide.2 ?_
 go_wp2_with fail
 refine (cursor_c b nn ws _ ha hfx hlw (hBuf.next hby)).mono ?_
 rintro e w1 ⟨rb, rfl, hR1, hb1⟩
 have hbn : Below w1.heap.size w1 (w1.alloc (.cells #[.func (.func 120) #[] #[.pointer (some ⟨rb, 0, none⟩)]] 176)) := below_alloc (Below.refl _ _) _
 have hBn := blkA w1 #[.func (.func 120) #[] #[.pointer (some ⟨rb, 0, none⟩)]] 176
 have hR2 := hR1.kp (KpT.below hbn (fun k hk => hk.2))
 have hrbT := hR1.mem
 have hlQ := hBq.lt
 go_wp2_with (go_at_call 120; refine (next_h _ rb ws _ (by omega) hR2).mono ?_; rintro e w3 ⟨hd, mo, rfl, HMO, HHD, hR3, hc3⟩; have hW1 : Below W.heap.size W w1 := below_next hby hb1; have hW3 : Below W.heap.size W w3 := (below_next hW1 hbn).trans (hc3.toBelow (by have := hW1.size; simp; omega) (fun k hk => by simp at hrbT; omega)); have cQ : w3.cell? ⟨Bq, 0, none⟩ = some (.func (.func 96) #[] #[.pointer (some ⟨Bs, 0, none⟩), .pointer (some ⟨Bt, 0, none⟩)]) := (by rw [(hBq.below hW3 hlQ).cell]; rfl); have hQ3 : Bq < w3.heap.size := Nat.lt_of_lt_of_le hlQ hW3.size)
 have hr0 : W.heap.size + 1 ≤ rb ∧ rb < w1.heap.size := by simpa using hrbT
 have hW4 : Below W.heap.size W ((w3.alloc (.cells #[.string hd.k, .int .i64 hd.n, .bool hd.g] 98)).alloc (.cells #[.bool mo] 4)) := below_alloc (below_alloc hW3 _) _
 have hs13 : w1.heap.size + 1 ≤ w3.heap.size := by have := hc3.size; simpa using this
 have hsz4 : ((w3.alloc (.cells #[.string hd.k, .int .i64 hd.n, .bool hd.g] 98)).alloc (.cells #[.bool mo] 4)).heap.size = w3.heap.size + 2 := by simp
 have hn3 : w3.grownBy ((w3.alloc (.cells #[.string hd.k, .int .i64 hd.n, .bool hd.g] 98)).alloc (.cells #[.bool mo] 4)) none := grown_below (below_alloc (below_alloc (Below.refl _ _) _) _)
 have hBx4 := (blkA w3 #[.string hd.k, .int .i64 hd.n, .bool hd.g] 98).alloc (.cells #[.bool mo] 4)
 have hBm4 := blkAt (w := w3.alloc (.cells #[.string hd.k, .int .i64 hd.n, .bool hd.g] 98)) (g := w3.heap.size + 1) #[.bool mo] 4 (by simp)
 have hBy3 := ((hBy.next hb1).next hbn).chg hc3 (by omega)
 have hBn3 := hBn.chg hc3 (by omega)
 have hR4 := (hR3.mono (T' := fun k => W.heap.size + 1 ≤ k ∧ k < w1.heap.size) (fun k hk => by simpa using hk)).keep hn3.size (fun k o _ h1 _ => hn3.block k (Array.getElem?_eq_some_iff.1 h1).1 (fun e => by cases e))
 have hBy4 : Blk _ W.heap.size _ _ := (hn3.block _ hBy3.lt (fun e => by cases e)).trans hBy3
 have hBn4 : Blk _ w1.heap.size _ _ := (hn3.block _ hBn3.lt (fun e => by cases e)).trans hBn3
 generalize ((w3.alloc (.cells #[.string hd.k, .int .i64 hd.n, .bool hd.g] 98)).alloc (.cells #[.bool mo] 4)) = w4 at hW4 hsz4 hBx4 hBm4 hR4 hBy4 hBn4 hn3 ⊢
 have hown4 := hJ.same (Nat.le_refl _) (grown_below hW4) (fun r e => by cases e)
 have hnot : ∀ k, W.heap.size ≤ k → ¬ own w4 k := fun k hk e => by have := hJ.lt h0 ((hown4 k).1 e); omega
 have hI0 : OvI own J l0 W.heap.size w1.heap.size w3.heap.size (w3.heap.size + 1) rb (W.heap.size + 1) w1.heap.size W ws [] w4 :=
  ⟨hJ.step h0 (grown_below hW4) (fun r e => by cases e), ⟨hBy4, hBn4, by have := HMO.out; subst this; exact hBm4, ⟨hd, HHD.out, hBx4⟩, hR4, ⟨hnot _ (Nat.le_refl _), hnot _ hW1.size, hnot _ (by omega), hnot _ (by omega), fun k h1 _ => hnot k (by omega)⟩, ⟨by omega, by omega, by omega, by omega⟩⟩,
   fun k _ h1 h2 => h1 ((hown4 k).1 h2), fun k h1 _ => hW4.block k h1, by omega⟩
 have hWs := hW1.size
 have hlS := hBs.lt
 have hlT := hBt.lt
 have hk4 : KpT (fun k => ns ≤ k ∧ k < W0.heap.size) W0 w4 := hk0.trans (KpT.below hW4 (fun k h => Nat.lt_of_lt_of_le h.2 hk0.1))
 refine (wpIn_wide (n := 5)).1 ?_
 refine wpIn_rangeFunc_ownH rfl (by omega) (gf := 96) (lb := #[.pointer (some ⟨Bs, 0, none⟩), .pointer (some ⟨Bt, 0, none⟩)]) rfl trivial (enters_of Tryz.func96 (by kernel_rfl) rfl)
  (snapshot_stops _ ns s Bs Bt (fun k => k < W.heap.size ∧ ¬ own W k) z t chs hl w4 W0 (fun k hk => Nat.lt_of_lt_of_le hk.1 hW4.size) hS (fun k h1 h2 => ⟨Nat.lt_of_lt_of_le h2 hk0.1, hfree k (.inr (.inr (.inr (.inr ⟨h1, h2⟩))))⟩) hk4 (hBs.below hW4 hlS) (hBt.below hW4 hlT) ⟨hlS, hfree _ (.inr (.inr (.inl rfl)))⟩ ⟨hlT, hfree _ (.inr (.inr (.inr (.inl rfl))))⟩)
  KpT.trans (kpT_b (w := w4) (fun k hk => Nat.lt_of_lt_of_le hk.1 hW4.size)) (Below.refl _ _) (fun _ => rfl)
  (OvI own J l0 W.heap.size w1.heap.size w3.heap.size (w3.heap.size + 1) rb (W.heap.size + 1) w1.heap.size W ws) (fun _ _ _ => False)
  (fun rows A B row h hg hr => h.grown hJ (by omega) hg (fun r e => ⟨by have := (hr r e).1; omega, (hr r e).2⟩)) (fun _ _ _ _ _ hs _ _ => hs) hI0
  (fun x a' Wc => ∃ Bx, Blk Wc Bx 94 #[.string x.1, .int .i64 x.2] ∧ w4.heap.size ≤ Bx ∧ ¬ own Wc Bx ∧ a' = { tmps := #[.func (.yield l0) #[] #[], .pointer (some ⟨Bb, 0, none⟩), .pointer (some ⟨Bq, 0, none⟩), .pointer (some ⟨W.heap.size, 0, none⟩), .pointer (some ⟨w1.heap.size, 0, none⟩), .pointer (some ⟨w3.heap.size, 0, none⟩), .pointer (some ⟨w3.heap.size + 1, 0, none⟩), .pointer (some ⟨Bx, 0, none⟩), .map (some b), .func (.func 120) #[] #[.pointer (some ⟨rb, 0, none⟩)], .tuple #[.agg #[.string hd.k, .int .i64 hd.n, .bool hd.g], .bool mo], .func (.func 120) #[] #[.pointer (some ⟨rb, 0, none⟩)], .tuple #[.agg #[.string hd.k, .int .i64 hd.n, .bool hd.g], .bool mo], .agg #[.string hd.k, .int .i64 hd.n, .bool hd.g], .bool mo, .func (.func 96) #[] #[.pointer (some ⟨Bs, 0, none⟩), .pointer (some ⟨Bt, 0, none⟩)], .agg #[.string x.1, .int .i64 x.2], undef, undef, undef, undef, undef, undef, undef, undef, undef, undef, undef, undef, undef, undef, undef, undef, undef, undef, undef, undef, undef, undef, undef, undef, undef, undef, undef, undef, undef, undef, undef, undef, undef, undef, undef, undef, undef, undef, undef, undef, undef, undef, undef, undef, undef, undef, undef, undef, undef], defers := [] })
  ?hAx ?assign ?body ?done ?stop
 case hAx =>
  rintro x a' _ A B row ⟨Bx, hX, hB4, hXf, rfl⟩ hg hr'
  refine ⟨Bx, (hg.block Bx hX.lt fun e => ?_).trans hX, hB4, fun e => hXf ?_, rfl⟩
  ·
   obtain ⟨_, o, h1, h2⟩ := hr' Bx e.symm
   rw [show A.heap[Bx]? = _ from hX] at h1
   cases h1; cases h2
  ·
   exact (hJ.same (by have := hX.lt; omega) hg (fun r e => ⟨by have := (hr' r e).1; omega, .inr (hr' r e).2⟩) Bx).1 e
 case assign =>
  rintro lr pre x Wc K hi' hK
  dsimp only [encR]
  gi_wp2
  have hg : Wc.grownBy (Wc.alloc (.cells #[.string x.1, .int .i64 x.2] 94)) none := World.grownBy_alloc _ _ _
  have hi2 := hi'.grown hJ (by omega) hg (fun r e => by cases e)
  have hz := hi'.size
  exact hK _ _ ((KeepsOthers.alloc _ _).from _) (KpT.below (below_alloc (Below.refl _ _) _) (fun k hk => by omega)) hi2 ⟨Wc.heap.size, heap_alloc_new Wc _, by omega, fun e => by
   have := hJ.lt hi'.j ((hJ.same (by omega) hg (fun r e => by cases e) Wc.heap.size).1 e); omega, rfl⟩
 case body =>
  rintro lr pre x a' Wb hlr ⟨rr, hrr⟩ hI ⟨Bx, hX, hXB, hXf, rfl⟩ hlt
  have hOB : OvB own J W w4.heap.size Wb (fun k o => k = Bx ∧ o = .cells #[.string x.1, .int .i64 x.2] 94 (0, 0)) (mrgT pre ws).1 Wb := ⟨hI.j, fun k o q => by obtain ⟨rfl, rfl⟩ := q; exact ⟨hX, hXf⟩, hI.free, hI.same, by have := hI.size; omega, KeepsFrom.refl _ _⟩
  have hIt := hI.it
  have hlen := mrgT_length ws pre
  generalize hpend : (mrgT pre ws).2 = pend at hIt hlen
  generalize hout : (mrgT pre ws).1 = out at hOB hlen
  have HM : Hid (mrgT (pre ++ [x]) ws = (out ++ (rowStep x pend).1, (rowStep x pend).2)) := Lib.hid (by rw [mrgT_snoc, ← hout, ← hpend]; rfl)
  clear hpend hout hI
  have fin : ∀ (s1 : List R) (s2 : List X) (w5 : World), Hid ((s1, s2) = rowStep x pend) → OvB own J W w4.heap.size Wb (fun k o => k = Bx ∧ o = .cells #[.string x.1, .int .i64 x.2] 94 (0, 0)) (out ++ s1) w5 → It w5 own l0 W.heap.size w1.heap.size w3.heap.size (w3.heap.size + 1) rb (W.heap.size + 1) w1.heap.size s2 → KeepsFrom w4.heap.size Wb w5 ∧ KpT (fun k => k < W.heap.size ∧ ¬ own W k) Wb w5 ∧ OvI own J l0 W.heap.size w1.heap.size w3.heap.size (w3.heap.size + 1) rb (W.heap.size + 1) w1.heap.size W ws (pre ++ [x]) w5 := by
   intro s1 s2 w5 H h1 h2
   have e1 : (mrgT (pre ++ [x]) ws).1 = out ++ s1 := by rw [HM.out, ← H.out]
   have e2 : (mrgT (pre ++ [x]) ws).2 = s2 := by rw [HM.out, ← H.out]
   exact ⟨h1.from_, ⟨h1.from_.size, fun k hk => (h1.same k hk.1 hk.2).trans (hOB.same k hk.1 hk.2).symm⟩, ⟨by rw [e1]; exact h1.j, by rw [e2]; exact h2, h1.free, h1.same, h2.m.lt⟩⟩
  have FIN := Lib.hid fin
  clear fin HM
  gi_wp2
  gi_loopg [17] pend.length (fun gk _ wr => ∃ (sh : List R) (pd : List X), pd.length = gk ∧ sh.length + pd.length ≤ pend.length ∧ OvB own J W w4.heap.size Wb (fun k o => k = Bx ∧ o = .cells #[.string x.1, .int .i64 x.2] 94 (0, 0)) (out ++ sh) wr ∧ It wr own l0 W.heap.size w1.heap.size w3.heap.size (w3.heap.size + 1) rb (W.heap.size + 1) w1.heap.size pd ∧ Hid ((sh ++ (rowStep x pd).1, (rowStep x pd).2) = rowStep x pend))
  case atStart => exact ⟨[], pend, rfl, by simp, by rw [List.append_nil]; exact hOB, hIt, Lib.hid rfl⟩
  case round =>
   obtain ⟨sh, pd, hgk, hshl, hB, hI, HR⟩ := hrel
   obtain ⟨hh, hhq, hXb⟩ := hI.x
   have hHQ := Lib.hid hhq
   clear hhq
   have k0 : wr.cell? ⟨w3.heap.size, 0, none⟩ = some (.string hh.k) := by rw [hXb.cell]; rfl
   have k1 : wr.cell? ⟨w3.heap.size, 1, none⟩ = some (.int .i64 hh.n) := by rw [hXb.cell]; rfl
   have k2 : wr.cell? ⟨w3.heap.size, 2, none⟩ = some (.bool hh.g) := by rw [hXb.cell]; rfl
   have hBx9 : Blk wr Bx 94 #[.string x.1, .int .i64 x.2] := (hB.kp Bx _ ⟨rfl, rfl⟩).1
   have kr0 : wr.cell? ⟨Bx, 0, none⟩ = some (.string x.1) := by rw [hBx9.cell]; rfl
   have kr1 : wr.cell? ⟨Bx, 1, none⟩ = some (.int .i64 x.2) := by rw [hBx9.cell]; rfl
   have ky : wr.cell? ⟨W.heap.size, 0, none⟩ = some (.func (.yield l0) #[] #[]) := by rw [hI.y.cell]; rfl
   have kn : wr.cell? ⟨w1.heap.size, 0, none⟩ = some (.func (.func 120) #[] #[.pointer (some ⟨rb, 0, none⟩)]) := by rw [hI.n.cell]; rfl
   have hcsz : w1.heap.size ≤ wr.heap.size := by have := hI.m.lt; omega
   have hlo : (out ++ sh).length ≤ 2097152 := by rw [List.length_append]; omega
   obtain ⟨fn, tmps, assign, body, hy, hR⟩ := hY 2 (out ++ sh) x wr hB.j hlo
   dsimp only [encR] at hy
   cases pd with
   | nil =>
    have km : wr.cell? ⟨w3.heap.size + 1, 0, none⟩ = some (.bool false) := by rw [hI.m.cell]; rfl
    gi_wp2_with fail
    refine hR.mono ?_
    rintro e w5 ⟨rfl, hj5, hk5⟩
    gi_wp2
    exact FIN.out (sh ++ [x]) [] w5 HR (by rw [← List.append_assoc]; exact hB.yield hW4.size hj5 hk5) (hI.yield hk5 hcsz)
   | cons y ys =>
    have km : wr.cell? ⟨w3.heap.size + 1, 0, none⟩ = some (.bool true) := by rw [hI.m.cell]; rfl
    obtain rfl : y = hh := Option.some.inj (hHQ.out (by simp))
    cases hlt1 : lt y.k x.1
    ·
     have hlt2 : Op.bytesLess y.k.toList x.1.toList = false := hlt1
     cases hek : y.k.toList == x.1.toList
     ·
      have HR2 : Hid ((sh ++ [x], y :: ys) = rowStep x pend) := Lib.hid (by rw [← HR.out]; simp [rowStep, hlt1, hek])
      gi_wp2_with fail
      refine hR.mono ?_
      rintro e w5 ⟨rfl, hj5, hk5⟩
      gi_wp2
      exact FIN.out (sh ++ [x]) (y :: ys) w5 HR2 (by rw [← List.append_assoc]; exact hB.yield hW4.size hj5 hk5) (hI.yield hk5 hcsz)
     ·
      have HR2 : Hid ((sh ++ showX y, ys) = rowStep x pend) := Lib.hid (by rw [← HR.out]; simp [rowStep, hlt1, hek])
      clear hy hR
      gi_wp2_with fail
      first
       | refine (CallsIn.inRound lr (callsIn_wide.2 (show_ov hJ hY hW4.size y hB hI hlo hcsz))).mono ?_
       | refine ⟨trivial, (CallsIn.inRound lr (callsIn_wide.2 (show_ov hJ hY hW4.size y hB hI hlo hcsz))).mono ?_⟩
       | refine ⟨trivial, (fun h => by cases h), (CallsIn.inRound lr (callsIn_wide.2 (show_ov hJ hY hW4.size y hB hI hlo hcsz))).mono ?_⟩
      rintro e w5 ⟨rfl, hB5, hI5, hz5⟩
      have kn5 : w5.cell? ⟨w1.heap.size, 0, none⟩ = some (.func (.func 120) #[] #[.pointer (some ⟨rb, 0, none⟩)]) := (by rw [hI5.n.cell]; rfl)
      have hlys : ys.length ≤ 4194304 := by simp at hshl; omega
      have hRe5 : Rest w5 (fun k => W.heap.size + 1 ≤ k ∧ k < w1.heap.size) rb ys := hI5.rest
      gi_wp2_with fail
      first
       | refine (CallsIn.inRound lr (callsIn_wide.2 (next_h _ rb ys _ hlys hRe5))).mono ?_
       | refine ⟨trivial, (CallsIn.inRound lr (callsIn_wide.2 (next_h _ rb ys _ hlys hRe5))).mono ?_⟩
       | refine ⟨trivial, (fun h => by cases h), (CallsIn.inRound lr (callsIn_wide.2 (next_h _ rb ys _ hlys hRe5))).mono ?_⟩
      rintro e w6 ⟨hd6, mo6, rfl, HMO6, HHD6, hR6, hc6⟩
      obtain ⟨h7, _, hX7⟩ := hI5.x
      have hM6 := hI5.m.chg hc6 (by omega)
      have hX6 := hX7.chg hc6 (by omega)
      have q0 : w6.cell? ⟨w3.heap.size, 0, none⟩ = some (.string h7.k) := by rw [hX6.cell]; rfl
      have q1 : w6.cell? ⟨w3.heap.size, 1, none⟩ = some (.int .i64 h7.n) := by rw [hX6.cell]; rfl
      have q2 : w6.cell? ⟨w3.heap.size, 2, none⟩ = some (.bool h7.g) := by rw [hX6.cell]; rfl
      have q3 : w6.cell? ⟨w3.heap.size + 1, 0, none⟩ = some (.bool true) := by rw [hM6.cell]; rfl
      have g0 := hX6.free 0
      have g1 := hX6.free 1
      have g2 := hX6.free 2
      have g3 := hM6.free 0
      gi_wp2
      obtain ⟨b9, i9⟩ := (It.nexted hJ hB5 hI5 (by omega) (fun k o q => by have := q.1; omega) (fun k o q => by have := q.1; omega) (fun k o q => by have := q.1; omega) hc6 hR6 hd6 mo6 HMO6.out HHD6.out)
      exact FIN.out (sh ++ showX y) ys _ HR2 (by rw [← List.append_assoc]; exact b9) i9
    ·
     have hlt2 : Op.bytesLess y.k.toList x.1.toList = true := hlt1
     have HR2 : Hid (((sh ++ showX y) ++ (rowStep x ys).1, (rowStep x ys).2) = rowStep x pend) := Lib.hid (by rw [← HR.out]; simp [rowStep, hlt1])
     have hlx := showX_length y
     clear hy hR
     gi_wp2_with fail
     first
      | refine (CallsIn.inRound lr (callsIn_wide.2 (show_ov hJ hY hW4.size y hB hI hlo hcsz))).mono ?_
      | refine ⟨trivial, (CallsIn.inRound lr (callsIn_wide.2 (show_ov hJ hY hW4.size y hB hI hlo hcsz))).mono ?_⟩
      | refine ⟨trivial, (fun h => by cases h), (CallsIn.inRound lr (callsIn_wide.2 (show_ov hJ hY hW4.size y hB hI hlo hcsz))).mono ?_⟩
     rintro e w5 ⟨rfl, hB5, hI5, hz5⟩
     have kn5 : w5.cell? ⟨w1.heap.size, 0, none⟩ = some (.func (.func 120) #[] #[.pointer (some ⟨rb, 0, none⟩)]) := (by rw [hI5.n.cell]; rfl)
     have hlys : ys.length ≤ 4194304 := by simp at hshl; omega
     have hRe5 : Rest w5 (fun k => W.heap.size + 1 ≤ k ∧ k < w1.heap.size) rb ys := hI5.rest
     gi_wp2_with fail
     first
      | refine (CallsIn.inRound lr (callsIn_wide.2 (next_h _ rb ys _ hlys hRe5))).mono ?_
      | refine ⟨trivial, (CallsIn.inRound lr (callsIn_wide.2 (next_h _ rb ys _ hlys hRe5))).mono ?_⟩
      | refine ⟨trivial, (fun h => by cases h), (CallsIn.inRound lr (callsIn_wide.2 (next_h _ rb ys _ hlys hRe5))).mono ?_⟩
     rintro e w6 ⟨hd6, mo6, rfl, HMO6, HHD6, hR6, hc6⟩
     obtain ⟨h7, _, hX7⟩ := hI5.x
     have hM6 := hI5.m.chg hc6 (by omega)
     have hX6 := hX7.chg hc6 (by omega)
     have q0 : w6.cell? ⟨w3.heap.size, 0, none⟩ = some (.string h7.k) := by rw [hX6.cell]; rfl
     have q1 : w6.cell? ⟨w3.heap.size, 1, none⟩ = some (.int .i64 h7.n) := by rw [hX6.cell]; rfl
     have q2 : w6.cell? ⟨w3.heap.size, 2, none⟩ = some (.bool h7.g) := by rw [hX6.cell]; rfl
     have q3 : w6.cell? ⟨w3.heap.size + 1, 0, none⟩ = some (.bool true) := by rw [hM6.cell]; rfl
     have g0 := hX6.free 0
     have g1 := hX6.free 1
     have g2 := hX6.free 2
     have g3 := hM6.free 0
     gi_wp2
     obtain ⟨b9, i9⟩ := (It.nexted hJ hB5 hI5 (by omega) (fun k o q => by have := q.1; omega) (fun k o q => by have := q.1; omega) (fun k o q => by have := q.1; omega) hc6 hR6 hd6 mo6 HMO6.out HHD6.out)
     gi_roundg (gk - 1)
     case measure => simp at hgk; omega
     case rel => exact ⟨sh ++ showX y, ys, by simp at hgk; omega, by simp at hshl ⊢; omega, by rw [← List.append_assoc]; exact b9, i9, HR2⟩
 case done =>
  rintro D ys Wd hD rfl hI hK
  have hOB : OvB own J W w4.heap.size Wd (fun _ _ => False) (mrgT (snapL t chs) ws).1 Wd := ⟨hI.j, fun k o q => q.elim, hI.free, hI.same, by have := hI.size; omega, KeepsFrom.refl _ _⟩
  have hIt := hI.it
  have hlen := mrgT_length ws (snapL t chs)
  have hlsn := snapL_length t chs
  have HALL := Lib.hid (mrgT_all (snapL t chs) ws)
  generalize (mrgT (snapL t chs) ws).2 = pend at hIt hlen HALL
  generalize (mrgT (snapL t chs) ws).1 = out at hOB hlen HALL
  clear hI
  go_wp2
  go_loopg [55] pend.length (fun gk _ wr => ∃ (sh : List R) (pd : List X), pd.length = gk ∧ sh.length + pd.length ≤ pend.length ∧ OvB own J W w4.heap.size Wd (fun _ _ => False) (out ++ sh) wr ∧ It wr own l0 W.heap.size w1.heap.size w3.heap.size (w3.heap.size + 1) rb (W.heap.size + 1) w1.heap.size pd ∧ Hid (sh ++ pd.flatMap showX = pend.flatMap showX))
  case atStart => exact ⟨[], pend, rfl, by simp, by rw [List.append_nil]; exact hOB, hIt, Lib.hid rfl⟩
  case round =>
   obtain ⟨sh, pd, hgk, hshl, hB, hI, HR⟩ := hrel
   obtain ⟨hh, hhq, hXb⟩ := hI.x
   have hHQ := Lib.hid hhq
   clear hhq
   have k0 : wr.cell? ⟨w3.heap.size, 0, none⟩ = some (.string hh.k) := by rw [hXb.cell]; rfl
   have k1 : wr.cell? ⟨w3.heap.size, 1, none⟩ = some (.int .i64 hh.n) := by rw [hXb.cell]; rfl
   have k2 : wr.cell? ⟨w3.heap.size, 2, none⟩ = some (.bool hh.g) := by rw [hXb.cell]; rfl
   have ky : wr.cell? ⟨W.heap.size, 0, none⟩ = some (.func (.yield l0) #[] #[]) := by rw [hI.y.cell]; rfl
   have hcsz : w1.heap.size ≤ wr.heap.size := by have := hI.m.lt; omega
   have hlo : (out ++ sh).length ≤ 2097152 := by rw [List.length_append]; omega
   cases pd with
   | nil =>
    have km : wr.cell? ⟨w3.heap.size + 1, 0, none⟩ = some (.bool false) := by rw [hI.m.cell]; rfl
    have hKr := hB.from_.same D _ hD hK rfl
    have hjF : J (mrg (snapL t chs) ws) wr := by
     have e := HR.out
     rw [List.flatMap_nil, List.append_nil] at e
     rw [← HALL.out, ← e]; exact hB.j
    go_wp2
    refine ⟨by simp, .inl ⟨_, _, rfl, run_takeDeferred hKr, ?_⟩⟩
    refine ⟨_, results_none rfl _ _ _, ⟨_, rfl⟩, ?_⟩
    exact hJ.step hjF (grownBy_putObj' wr D (.deferred none)) (fun r e => by injection e with e; subst e; exact ⟨by omega, .inr ⟨_, hKr, rfl⟩⟩)
   | cons y ys =>
    have km : wr.cell? ⟨w3.heap.size + 1, 0, none⟩ = some (.bool true) := by rw [hI.m.cell]; rfl
    obtain rfl : y = hh := Option.some.inj (hHQ.out (by simp))
    have hlx := showX_length y
    have HR2 : Hid ((sh ++ showX y) ++ ys.flatMap showX = pend.flatMap showX) := Lib.hid (by rw [← HR.out]; simp)
    have hlys : ys.length ≤ 4194304 := by simp at hshl; omega
    go_wp2_with fail
    refine (show_ov hJ hY hW4.size y hB hI hlo hcsz).mono ?_
    rintro e w5 ⟨rfl, hB5, hI5, hz5⟩
    have kn5 : w5.cell? ⟨w1.heap.size, 0, none⟩ = some (.func (.func 120) #[] #[.pointer (some ⟨rb, 0, none⟩)]) := (by rw [hI5.n.cell]; rfl)
    have hRe5 : Rest w5 (fun k => W.heap.size + 1 ≤ k ∧ k < w1.heap.size) rb ys := hI5.rest
    go_wp2_with fail
    refine (next_h _ rb ys _ hlys hRe5).mono ?_
    rintro e w6 ⟨hd6, mo6, rfl, HMO6, HHD6, hR6, hc6⟩
    obtain ⟨h7, _, hX7⟩ := hI5.x
    have hM6 := hI5.m.chg hc6 (by omega)
    have hX6 := hX7.chg hc6 (by omega)
    have q0 : w6.cell? ⟨w3.heap.size, 0, none⟩ = some (.string h7.k) := by rw [hX6.cell]; rfl
    have q1 : w6.cell? ⟨w3.heap.size, 1, none⟩ = some (.int .i64 h7.n) := by rw [hX6.cell]; rfl
    have q2 : w6.cell? ⟨w3.heap.size, 2, none⟩ = some (.bool h7.g) := by rw [hX6.cell]; rfl
    have q3 : w6.cell? ⟨w3.heap.size + 1, 0, none⟩ = some (.bool true) := by rw [hM6.cell]; rfl
    have g0 := hX6.free 0
    have g1 := hX6.free 1
    have g2 := hX6.free 2
    have g3 := hM6.free 0
    obtain ⟨b9, i9⟩ := It.nexted hJ hB5 hI5 (by omega) (fun k o q => q.elim) (fun k o q => q.elim) (fun k o q => q.elim) hc6 hR6 hd6 mo6 HMO6.out HHD6.out
    have B9 := Lib.hid b9
    have I9 := Lib.hid i9
    clear b9 i9
    go_wp2
    go_roundg (gk - 1)
    case measure => simp at hgk; omega
    case rel => exact ⟨sh ++ showX y, ys, by simp at hgk; omega, by simp at hshl ⊢; omega, by rw [← List.append_assoc]; exact B9.out, I9.out, HR2⟩
 case stop =>
  rintro D c0 pre W _ _ h _
  exact h.elim
end Go.Proofs.YtnijgbinjbikbaaGreat
