/- Facts in bundles: what holds of a world and still holds after all that leaves the other blocks be; short words for regions that draw their order. -/
import Derived.Test.YtheblejlmlfddaaB1
namespace Go.Proofs.Ytheblejlmlfddaa
open Go.RowKit
set_option linter.unusedVariables false

abbrev C1 (W : World) (g : Nat) (a : Value) : Prop := W.cell? ⟨g, 0, none⟩ = some a
abbrev C2 (W : World) (g : Nat) (a b : Value) : Prop := W.cell? ⟨g, 0, none⟩ = some a ∧ W.cell? ⟨g, 1, none⟩ = some b
abbrev C3 (W : World) (g : Nat) (a b c : Value) : Prop := W.cell? ⟨g, 0, none⟩ = some a ∧ W.cell? ⟨g, 1, none⟩ = some b ∧ W.cell? ⟨g, 2, none⟩ = some c
abbrev C4 (W : World) (g : Nat) (a b c d : Value) : Prop := W.cell? ⟨g, 0, none⟩ = some a ∧ W.cell? ⟨g, 1, none⟩ = some b ∧ W.cell? ⟨g, 2, none⟩ = some c ∧ W.cell? ⟨g, 3, none⟩ = some d
abbrev C7 (W : World) (g : Nat) (a b c d e f h : Value) : Prop := C4 W g a b c d ∧ W.cell? ⟨g, 4, none⟩ = some e ∧ W.cell? ⟨g, 5, none⟩ = some f ∧ W.cell? ⟨g, 6, none⟩ = some h
section
variable {W W' w w' : World} {g g' p q n : Nat} {t t' : TypeId} {a b c d e f h x y z u : Value} {cs cs' : Array Value} {X X' : Nat → Prop} {Φ Ψ : World → Prop}
theorem Blk.c1 (B : Blk W g t #[a]) : C1 W g a := B.cell 0
theorem Blk.c2 (B : Blk W g t #[a, b]) : C2 W g a b := ⟨B.cell 0, B.cell 1⟩
theorem Blk.c3 (B : Blk W g t #[a, b, c]) : C3 W g a b c := ⟨B.cell 0, B.cell 1, B.cell 2⟩
theorem Blk.c4 (B : Blk W g t #[a, b, c, d]) : C4 W g a b c d := ⟨B.cell 0, B.cell 1, B.cell 2, B.cell 3⟩
theorem Blk.c7 (B : Blk W g t #[a, b, c, d, e, f, h]) : C7 W g a b c d e f h := ⟨⟨B.cell 0, B.cell 1, B.cell 2, B.cell 3⟩, B.cell 4, B.cell 5, B.cell 6⟩
theorem Blk.fz (B : Blk W g t cs) : ∀ i, W.frozen? ⟨g, i, none⟩ = false := B.free
theorem Blk.s2 (B : Blk W g t #[a, b]) (x y : Value) : Blk ((W.setCell ⟨g, 0, none⟩ x).setCell ⟨g, 1, none⟩ y) g t #[x, y] := (B.set_ 0 x).set_ 1 y
theorem Blk.s4 (B : Blk W g t #[a, b, c, d]) (x y z u : Value) : Blk ((((W.setCell ⟨g, 0, none⟩ x).setCell ⟨g, 1, none⟩ y).setCell ⟨g, 2, none⟩ z).setCell ⟨g, 3, none⟩ u) g t #[x, y, z, u] := (((B.set_ 0 x).set_ 1 y).set_ 2 z).set_ 3 u

/-- Φ holds at W, and at all worlds that come of W by turning the blocks of X alone -/
def Fr (X : Nat → Prop) (Φ : World → Prop) (W : World) : Prop := ∀ W', Chg X W W' → Φ W'
theorem Fr.now (F : Fr X Φ W) : Φ W := F W (Chg.refl _ _)
theorem Fr.chg (F : Fr X Φ W) (h : Chg X W W') : Fr X Φ W' := fun V k => F V (h.trans k fun _ _ h => h)
theorem Fr.next (F : Fr X Φ W) (h : Below W.heap.size W W') : Fr X Φ W' := F.chg (Chg.of_below h)
theorem Fr.set (F : Fr X Φ W) (k : X g) (i : Nat) (x : Value) : Fr X Φ (W.setCell ⟨g, i, none⟩ x) := F.chg ((Chg.refl _ _).setCell (.inl k) x)
theorem Fr.and (F : Fr X Φ W) (G : Fr X Ψ W) : Fr X (fun V => Φ V ∧ Ψ V) W := fun V k => ⟨F V k, G V k⟩
theorem Fr.less (F : Fr X Φ W) (h : ∀ k, X' k → X k) : Fr X' Φ W := fun V k => F V (k.mono h)
theorem Fr.hc (F : Fr X Φ W) {C : World → Prop} (f : ∀ V, Φ V → C V) : ∀ V, Φ V → C V := f
/-- the blocks from p on, below q -/
def Rg (p q k : Nat) : Prop := p ≤ k ∧ k < q
theorem Rg.no (h : g < p ∨ q ≤ g) : ¬ Rg p q g := fun k => by unfold Rg at k; omega
theorem Rg.in_ (h : p ≤ g) (k : g < q) : Rg p q g := ⟨h, k⟩
theorem Fr.blk (F : Fr (Rg p q) Φ W) (B : Blk W g t cs) (h : g < p ∨ q ≤ g := by omega) : Fr (Rg p q) (fun V => Φ V ∧ Blk V g t cs) W := F.and fun V k => B.chg k (Rg.no h)
section
variable {α : Type} [Elt α] {l : List α} {v : Value}
theorem Fr.ownG (F : Fr (Rg p q) Φ W) (h : OwnG W n v l) (hn : q ≤ n := by omega) : Fr (Rg p q) (fun V => Φ V ∧ OwnG V n v l) W := F.and fun V k => h.keep fun g hg => k.block g (h.block_lt hg).2 (Rg.no (.inr (Nat.le_trans hn (h.block_lt hg).1)))
/-- of blocks that were there at w -/
theorem Fr.oldG (F : Fr (Rg p q) Φ W) (hb : Below w.heap.size w W) (h : OwnG w n v l) (hn : w.heap.size ≤ p := by omega) : Fr (Rg p q) (fun V => Φ V ∧ OwnG V n v l) W := F.and fun V k => (h.next hb).keep fun g hg => k.block g ((h.next hb).block_lt hg).2 (Rg.no (.inl (Nat.lt_of_lt_of_le (h.block_lt hg).2 hn)))
theorem Fr.neG (F : Fr (Rg p q) Φ W) (h : OwnG W n v l) (hn : ∀ g, v.ownBlock = some g → g < p ∨ q ≤ g) : Fr (Rg p q) (fun V => Φ V ∧ OwnG V n v l) W := F.and fun V k => h.keep fun g hg => k.block g (h.block_lt hg).2 (Rg.no (hn g hg))
end
section
variable {l : List R} {v : Value}
end
theorem Fr.bel (hb : Below w.heap.size w W) (hn : w.heap.size ≤ p := by omega) : Fr (Rg p q) (fun V => Below w.heap.size w V) W := fun V k =>
 ⟨k.os.trans hb.os, k.tape.trans hb.tape, k.output.trans hb.output, Nat.le_trans hb.size k.size, fun i hi => (k.block i (Nat.lt_of_lt_of_le hi hb.size) (Rg.no (.inl (Nat.lt_of_lt_of_le hi hn)))).trans (hb.block i hi)⟩
/-- while nothing is turned: what has come since -/
theorem Fr.at_ (F : Fr X Φ W) : Fr (Rg W.heap.size W.heap.size) (fun V => Φ V ∧ Below W.heap.size W V) W := (F.less fun k h => absurd h (Rg.no (by omega))).and (Fr.bel (Below.refl _ _) (Nat.le_refl _))
/-- blocks that are new since n -/
def Nw (n k : Nat) : Prop := n ≤ k
theorem Fr.cut (F : Fr X Φ W) : Fr (Nw W.heap.size) (fun V => Φ V ∧ Below W.heap.size W V) W := fun V k =>
 have hb : Below W.heap.size W V := k.toBelow (Nat.le_refl _) fun _ h => h
 ⟨F V (Chg.of_below hb), hb⟩
theorem Chg.st (h : Chg (fun k => k = g) W W') (i : Nat) (x : Value) : Chg (fun k => k = g) W (W'.setCell ⟨g, i, none⟩ x) := h.setCell (a := ⟨g, i, none⟩) (.inl rfl) x
theorem Fr.blkN (F : Fr (Nw n) Φ W) (B : Blk W g t cs) (h : g < n := by omega) : Fr (Nw n) (fun V => Φ V ∧ Blk V g t cs) W := F.and fun V k => B.chg k (Nat.not_le.2 h)
theorem st23 (F : Fr X Φ W) (B : Blk W g t #[a, b, c, d]) (hX : X g) (x y : Value) : ∃ V, (W.setCell ⟨g, 2, none⟩ x).setCell ⟨g, 3, none⟩ y = V ∧ V.heap.size = W.heap.size ∧ Fr X Φ V ∧ Blk V g t #[a, b, x, y] ∧ Chg (fun k => k = g) W V :=
 ⟨_, rfl, by simp [World.setCell], (F.set hX 2 x).set hX 3 y, (B.set_ 2 x).set_ 3 y, ((Chg.refl _ _).st _ x).st _ y⟩
theorem st2 (F : Fr X Φ W) (B : Blk W g t #[a, b]) (hX : X g) (x y : Value) : ∃ V, (W.setCell ⟨g, 0, none⟩ x).setCell ⟨g, 1, none⟩ y = V ∧ V.heap.size = W.heap.size ∧ Fr X Φ V ∧ Blk V g t #[x, y] ∧ Chg (fun k => k = g) W V :=
 ⟨_, rfl, by simp [World.setCell], (F.set hX 0 x).set hX 1 y, B.s2 x y, ((Chg.refl _ _).st _ x).st _ y⟩
theorem chg_s2 (W : World) (g : Nat) (x y : Value) : Chg (fun k => k = g) W ((W.setCell ⟨g, 0, none⟩ x).setCell ⟨g, 1, none⟩ y) := ((Chg.refl _ _).st _ x).st _ y
theorem chg_s4 (W : World) (g : Nat) (x y z u : Value) : Chg (fun k => k = g) W ((((W.setCell ⟨g, 0, none⟩ x).setCell ⟨g, 1, none⟩ y).setCell ⟨g, 2, none⟩ z).setCell ⟨g, 3, none⟩ u) := ((((Chg.refl _ _).st _ x).st _ y).st _ z).st _ u
theorem OwnG.chg {α : Type} [Elt α] {l : List α} {v : Value} (h : OwnG W n v l) (k : Chg (fun k => k = g) W W') (hn : ∀ k, v.ownBlock = some k → k ≠ g) : OwnG W' n v l := h.keep fun j hj => k.block j (h.block_lt hj).2 (hn j hj)
theorem Blk.chg1 (B : Blk W g t cs) (k : Chg (fun k => k = g') W W') (hn : g ≠ g' := by omega) : Blk W' g t cs := B.chg k hn
section
variable {α : Type} [E : Elt α] {l : List α} {v : Value}
/-- a list of its own does not lie in a block of another type -/
theorem OwnG.neT (h : OwnG W n v l) (B : Blk W g t cs) (ht : t ≠ E.T) : ∀ k, v.ownBlock = some k → k ≠ g := by
 intro k hk e
 subst e
 rcases h.cases with ⟨rfl, rfl⟩ | ⟨j, cap, cur, rfl, -, hB, -⟩
 ·
  simp [Value.ownBlock] at hk
 ·
  have : j = k := by simpa [Value.ownBlock] using hk
  subst this
  exact B.ne hB ht rfl
theorem Fr.tyG (F : Fr (Rg p (p + 2)) Φ W) (h : OwnG W n v l) (B1 : Blk W p t cs) (B2 : Blk W (p + 1) t' cs') (h1 : t ≠ E.T := by decide) (h2 : t' ≠ E.T := by decide) : Fr (Rg p (p + 2)) (fun V => Φ V ∧ OwnG V n v l) W :=
 F.neG h fun k hk => by have e1 := h.neT B1 h1 k hk; have e2 := h.neT B2 h2 k hk; omega
end
/-- a new block -/
theorem al1 (W : World) {m : Nat} (hm : W.heap.size = m) (cs : Array Value) (t : TypeId) : ∃ V, W.alloc (.cells cs t) = V ∧ V.heap.size = m + 1 ∧ Blk V m t cs ∧ Below W.heap.size W V := by
 subst hm; exact ⟨_, rfl, World.size_alloc _ _, blkA W cs t, below_alloc (Below.refl _ _) _⟩
/-- four boxes at a call's beginning: two arguments and two results -/
theorem ent4 (w : World) (c0 : Array Value) (t0 : TypeId) (c1 : Array Value) (t1 : TypeId) (c2 : Array Value) (t2 : TypeId) (c3 : Array Value) (t3 : TypeId) :
  ∃ W, (((w.alloc (.cells c0 t0)).alloc (.cells c1 t1)).alloc (.cells c2 t2)).alloc (.cells c3 t3) = W ∧ W.heap.size = w.heap.size + 4 ∧ Blk W (w.heap.size + 2) t2 c2 ∧ Blk W (w.heap.size + 3) t3 c3 ∧
   Blk W w.heap.size t0 c0 ∧ Blk W (w.heap.size + 1) t1 c1 ∧ Below w.heap.size w W := by
 obtain ⟨W0, e0, s0, b0, h0⟩ := al1 w rfl c0 t0
 obtain ⟨W1, e1, s1, b1, h1⟩ := al1 W0 s0 c1 t1
 obtain ⟨W2, e2, s2, b2, h2⟩ := al1 W1 s1 c2 t2
 obtain ⟨W3, e3, s3, b3, h3⟩ := al1 W2 s2 c3 t3
 exact ⟨W3, by rw [e0, e1, e2, e3], s3, b2.next h3, b3, ((b0.next h1).next h2).next h3, (b1.next h2).next h3, below_next (below_next (below_next h0 h1) h2) h3⟩
/-- five: three arguments and two results -/
theorem ent5 (w : World) (c0 : Array Value) (t0 : TypeId) (c1 : Array Value) (t1 : TypeId) (c4 : Array Value) (t4 : TypeId) (c2 : Array Value) (t2 : TypeId) (c3 : Array Value) (t3 : TypeId) :
  ∃ W, ((((w.alloc (.cells c0 t0)).alloc (.cells c1 t1)).alloc (.cells c4 t4)).alloc (.cells c2 t2)).alloc (.cells c3 t3) = W ∧ W.heap.size = w.heap.size + 5 ∧ Blk W (w.heap.size + 3) t2 c2 ∧ Blk W (w.heap.size + 4) t3 c3 ∧
   Blk W w.heap.size t0 c0 ∧ Blk W (w.heap.size + 1) t1 c1 ∧ Blk W (w.heap.size + 2) t4 c4 ∧ Below w.heap.size w W := by
 obtain ⟨W0, e0, s0, b0, h0⟩ := al1 w rfl c0 t0
 obtain ⟨W1, e1, s1, b2, b3, b4, b5, h2⟩ := ent4 W0 c1 t1 c4 t4 c2 t2 c3 t3
 rw [s0] at s1 b2 b3 b4 b5
 exact ⟨W1, by rw [e0, e1], s1, b2, b3, b0.next h2, b4, b5, below_next h0 h2⟩
end

section
variable {P : Program} {md : Region.Mode} {ops : Array Oper} {Q : Exit → Act → World → Prop} {S : World → Prop} {fuel : Nat} {listed : Array Bool} {a : Act} {w : World} {X : Nat → Prop}
/-- a region that draws its order begins: the world has a name from here on -/
theorem reg {id : Nat} (F : Fr X S w) (h : ∀ wd, Below w.heap.size w wd → Fr X S wd → wpAnyH P .any ops Q S ops.size (Array.replicate ops.size false) a wd) (hm : P.follows .mixedOrders = true := by kernel_rfl) : (Code.region id ops true).wp P Q a w :=
 wp_region_held hm (h w.drew (Below.refl _ _).drew (F.next (Below.refl _ _).drew))
/-- what is wanted and reads alone is taken -/
theorem tkc {C : World → Prop} (F : Fr X S w) (hc : ∀ w, S w → C w) (i : Nat) {oi : Oper} {v : Value} {a' : Act} (h : wpAnyH P md ops Q S fuel (listed.setIfInBounds i true) a' w) (hi : ops[i]? = some oi := by (simp only [ga, gb, gc]; rfl)) (hb : (Region.noSelect ops && Region.free md ops listed i && (Region.ready md ops listed).contains i) = true := by kernel_rfl)
  (hw : Region.wanted oi (yielded ops a.tmps) = true := by rfl)
  (hy : ∀ w, C w → (execOp a.eval oi).run P w = .ok (.value v) w := by (intro w hSw; (try dsimp only at hSw); go_simp) <;> with_reducible rfl) (ha : a.put oi.dst v = a' := by ((try simp only [Act.put, pa, pb, pc]); rfl))
  (hQ : ∀ c a w, Q (.panic c) (a.put oi.dst v) w → Q (.panic c) a w := by (intro _ _ _ h; exact h)) : wpAnyH P md ops Q S (fuel + 1) listed a w := tkW hi hb hQ hw (fun w s => hy w (hc w s)) F.now (by rw [ha]; exact h)
theorem tsc (F : Fr X S w) (i : Nat) {oi : Oper} {a' : Act} (h : wpAnyH P md ops Q S fuel (listed.setIfInBounds i true) a' w) (hi : ops[i]? = some oi := by (simp only [ga, gb, gc]; rfl)) (hb : (Region.noSelect ops && Region.free md ops listed i && (Region.ready md ops listed).contains i) = true := by kernel_rfl)
  (hw : Region.wanted oi (yielded ops a.tmps) = false := by rfl) (ha : a.put oi.dst undef = a' := by ((try simp only [Act.put, pa, pb, pc]); rfl))
  (hQ : ∀ c a w, Q (.panic c) (a.put oi.dst undef) w → Q (.panic c) a w := by (intro _ _ _ h; exact h)) : wpAnyH P md ops Q S (fuel + 1) listed a w := tkS hi hb hQ hw F.now (by rw [ha]; exact h)
/-- one is ready (looked at at once: for loops over the orders) -/
theorem rdo (i : Nat) {oi : Oper} (h : ∀ K' : Act → World → Prop, Shut (∀ a w, S w → (S w → wpAnyH P md ops Q S fuel (listed.setIfInBounds i true) a w) → K' a w) → if Region.wanted oi (yielded ops a.tmps) = true then Oper.wp P oi a w K' Q else K' (a.put oi.dst undef) w)
  (hr : Region.ready md ops listed = [i] := by decide +kernel) (hi : ops[i]? = some oi := by (simp only [ga, gb, gc]; rfl)) : wpAnyH P md ops Q S (fuel + 1) listed a w := rd1 i h hr hi
/-- two are ready -/
theorem rd2 (i j : Nat) {oi oj : Oper} (h : ∀ K' : Act → World → Prop, Shut (∀ a w, S w → (S w → wpAnyH P md ops Q S fuel (listed.setIfInBounds i true) a w) → K' a w) → if Region.wanted oi (yielded ops a.tmps) = true then Oper.wp P oi a w K' Q else K' (a.put oi.dst undef) w)
  (k : ∀ K' : Act → World → Prop, Shut (∀ a w, S w → (S w → wpAnyH P md ops Q S fuel (listed.setIfInBounds j true) a w) → K' a w) → if Region.wanted oj (yielded ops a.tmps) = true then Oper.wp P oj a w K' Q else K' (a.put oj.dst undef) w)
  (hr : Region.ready md ops listed = [i, j] := by decide +kernel) (hi : ops[i]? = some oi := by (simp only [ga, gb, gc]; rfl)) (hj : ops[j]? = some oj := by (simp only [ga, gb, gc]; rfl)) : wpAnyH P md ops Q S (fuel + 1) listed a w := wpAnyH_ready hr (by simp) (AllReadyH.cons hi h (AllReadyH.cons hj k AllReadyH.nil))
/-- three are ready -/
theorem rd3 (i j m : Nat) {oi oj om : Oper} (h : ∀ K' : Act → World → Prop, Shut (∀ a w, S w → (S w → wpAnyH P md ops Q S fuel (listed.setIfInBounds i true) a w) → K' a w) → if Region.wanted oi (yielded ops a.tmps) = true then Oper.wp P oi a w K' Q else K' (a.put oi.dst undef) w)
  (k : ∀ K' : Act → World → Prop, Shut (∀ a w, S w → (S w → wpAnyH P md ops Q S fuel (listed.setIfInBounds j true) a w) → K' a w) → if Region.wanted oj (yielded ops a.tmps) = true then Oper.wp P oj a w K' Q else K' (a.put oj.dst undef) w)
  (n : ∀ K' : Act → World → Prop, Shut (∀ a w, S w → (S w → wpAnyH P md ops Q S fuel (listed.setIfInBounds m true) a w) → K' a w) → if Region.wanted om (yielded ops a.tmps) = true then Oper.wp P om a w K' Q else K' (a.put om.dst undef) w)
  (hr : Region.ready md ops listed = [i, j, m] := by decide +kernel) (hi : ops[i]? = some oi := by (simp only [ga, gb, gc]; rfl)) (hj : ops[j]? = some oj := by (simp only [ga, gb, gc]; rfl)) (hm : ops[m]? = some om := by (simp only [ga, gb, gc]; rfl)) : wpAnyH P md ops Q S (fuel + 1) listed a w := wpAnyH_ready hr (by simp) (AllReadyH.cons hi h (AllReadyH.cons hj k (AllReadyH.cons hm n AllReadyH.nil)))
variable {K : Act → World → Prop} {a' : Act}
/-- behind an operation that came up -/
theorem fn (hK : Shut (∀ a w, S w → (S w → wpAnyH P md ops Q S fuel listed a w) → K a w)) (F : Fr X S w) (h : wpAnyH P md ops Q S fuel listed a' w) (ha : a = a' := by ((try simp only [Act.put, pa, pb, pc]); rfl)) : K a w := hK.out _ _ F.now fun _ => by rw [ha]; exact h
/-- a new block has come -/
theorem fnA {cs : Array Value} {t : TypeId} (hK : Shut (∀ a w, S w → (S w → wpAnyH P md ops Q S fuel listed a w) → K a w)) (F : Fr X S w) (h : ∀ V g, w.heap.size = g → V.heap.size = g + 1 → Below w.heap.size w V → Blk V g t cs → wpAnyH P md ops Q S fuel listed a' V) (ha : a = a' := by ((try simp only [Act.put, pa, pb, pc]); rfl)) : K a (w.alloc (.cells cs t)) :=
 fn hK (F.next (below_alloc (Below.refl _ _) _)) (h _ _ rfl (World.size_alloc _ _) (below_alloc (Below.refl _ _) _) (blkA w cs t)) ha
/-- a new block of the region's own is stored into -/
theorem fnC2 {g : Nat} {t : TypeId} {x y x0 y0 : Value} (hK : Shut (∀ a w, S w → (S w → wpAnyH P md ops Q S fuel listed a w) → K a w)) (F : Fr X S w) (B : Blk w g t #[x0, y0]) (hX : X g) (h : ∀ V, Chg (fun k => k = g) w V → Fr X S V → Blk V g t #[x, y] → wpAnyH P md ops Q S fuel listed a' V) (ha : a = a' := by ((try simp only [Act.put, pa, pb, pc]); rfl)) : K a ((w.setCell ⟨g, 0, none⟩ x).setCell ⟨g, 1, none⟩ y) :=
 fn hK ((F.set hX 0 x).set hX 1 y) (h _ (chg_s2 w g x y) ((F.set hX 0 x).set hX 1 y) (B.s2 x y)) ha
theorem fnC3 {g : Nat} {t : TypeId} {x y z x0 y0 z0 : Value} (hK : Shut (∀ a w, S w → (S w → wpAnyH P md ops Q S fuel listed a w) → K a w)) (F : Fr X S w) (B : Blk w g t #[x0, y0, z0]) (hX : X g) (h : ∀ V, Chg (fun k => k = g) w V → Fr X S V → Blk V g t #[x, y, z] → wpAnyH P md ops Q S fuel listed a' V) (ha : a = a' := by ((try simp only [Act.put, pa, pb, pc]); rfl)) : K a (((w.setCell ⟨g, 0, none⟩ x).setCell ⟨g, 1, none⟩ y).setCell ⟨g, 2, none⟩ z) :=
 fn hK (((F.set hX 0 x).set hX 1 y).set hX 2 z) (h _ ((chg_s2 w g x y).st _ z) (((F.set hX 0 x).set hX 1 y).set hX 2 z) (((B.set_ 0 x).set_ 1 y).set_ 2 z)) ha
theorem fnC4 {g : Nat} {t : TypeId} {x y z u x0 y0 z0 u0 : Value} (hK : Shut (∀ a w, S w → (S w → wpAnyH P md ops Q S fuel listed a w) → K a w)) (F : Fr X S w) (B : Blk w g t #[x0, y0, z0, u0]) (hX : X g) (h : ∀ V, Chg (fun k => k = g) w V → Fr X S V → Blk V g t #[x, y, z, u] → wpAnyH P md ops Q S fuel listed a' V) (ha : a = a' := by ((try simp only [Act.put, pa, pb, pc]); rfl)) : K a ((((w.setCell ⟨g, 0, none⟩ x).setCell ⟨g, 1, none⟩ y).setCell ⟨g, 2, none⟩ z).setCell ⟨g, 3, none⟩ u) :=
 fn hK ((((F.set hX 0 x).set hX 1 y).set hX 2 z).set hX 3 u) (h _ (chg_s4 w g x y z u) ((((F.set hX 0 x).set hX 1 y).set hX 2 z).set hX 3 u) (B.s4 x y z u)) ha
/-- two cells have been stored -/
theorem fn2 {g g' : Nat} {t t' : TypeId} {x y x0 y0 : Value} {cs : Array Value} (hK : Shut (∀ a w, S w → (S w → wpAnyH P md ops Q S fuel listed a w) → K a w)) (F : Fr X S w) (B : Blk w g t #[x0, y0]) (B' : Blk w g' t' cs) (hX : X g) (hn : g' ≠ g)
  (h : ∀ W, Fr X S W → Blk W g t #[x, y] → Blk W g' t' cs → Chg (fun k => k = g) w W → wpAnyH P md ops Q S fuel listed a' W) (ha : a = a' := by ((try simp only [Act.put, pa, pb, pc]); rfl)) : K a ((w.setCell ⟨g, 0, none⟩ x).setCell ⟨g, 1, none⟩ y) :=
 fn hK ((F.set hX 0 x).set hX 1 y) (h _ ((F.set hX 0 x).set hX 1 y) (B.s2 x y) ((B'.setOther (a := ⟨g, 0, none⟩) hn x).setOther (a := ⟨g, 1, none⟩) hn y) (chg_s2 w g x y)) ha
/-- four cells have been stored -/
theorem fn4 {g g' : Nat} {t t' : TypeId} {x y z u x0 y0 z0 u0 : Value} {cs : Array Value} (hK : Shut (∀ a w, S w → (S w → wpAnyH P md ops Q S fuel listed a w) → K a w)) (F : Fr X S w) (B : Blk w g t #[x0, y0, z0, u0]) (B' : Blk w g' t' cs) (hX : X g) (hn : g' ≠ g)
  (h : ∀ W, Fr X S W → Blk W g t #[x, y, z, u] → Blk W g' t' cs → Chg (fun k => k = g) w W → wpAnyH P md ops Q S fuel listed a' W) (ha : a = a' := by ((try simp only [Act.put, pa, pb, pc]); rfl)) : K a ((((w.setCell ⟨g, 0, none⟩ x).setCell ⟨g, 1, none⟩ y).setCell ⟨g, 2, none⟩ z).setCell ⟨g, 3, none⟩ u) :=
 fn hK ((((F.set hX 0 x).set hX 1 y).set hX 2 z).set hX 3 u) (h _ ((((F.set hX 0 x).set hX 1 y).set hX 2 z).set hX 3 u) (B.s4 x y z u) ((((B'.setOther (a := ⟨g, 0, none⟩) hn x).setOther (a := ⟨g, 1, none⟩) hn y).setOther (a := ⟨g, 2, none⟩) hn z).setOther (a := ⟨g, 3, none⟩) hn u) (chg_s4 w g x y z u)) ha
end
end Go.Proofs.Ytheblejlmlfddaa
