/- Elements that lie in a fixed number of cells: how slices of them lie in memory, how they are made, appended and written.
Arguments that are slices of flat structs, or structs that hold one, opened.
Slices of Ver: how they lie in memory; the laws' own copies, sizes, comparisons and marks of them.
A struct Ver of the laws, read off its cells; a slice of them as an argument.
Vers: the laws' copies, sizes, comparisons and marks; the argument opened. -/
import Derived.Test.YtheblejlmlfddaaA2
import Derived.Test.YtheblejlmlfddaaRows
import Derived.ProofKit
import Derived.OpenShut
import Derived.ShutString
import Derived.ChangeOld
import Derived.Below
import Derived.Deep.SlicePairs
import Derived.Test.YtheblejlmlfddaaA4
import Derived.Deep.RegionHeld3
namespace Go.Proofs.Ytheblejlmlfddaa
open Go.RowKit
set_option linter.unusedVariables false

class Elt (α : Type) where
 T : TypeId
 wd : Nat
 byt : Nat
 zero : Value
 cs : α → List Value
 len : ∀ a, (cs a).length = wd
 pos : 0 < wd
 one : ∀ a, ∀ u ∈ cs a, u.oneCell' = true
 info : (Try.prog.info? T).map (fun i => (i.zero, i.size, i.bytes)) = some (some zero, wd, byt)
 zsize : zero.cells.size = wd
 small : byt ≤ 128

theorem blkA (w : World) (cs : Array Value) (t : TypeId) : Blk (w.alloc (.cells cs t)) w.heap.size t cs := heap_alloc_new w _
theorem Blk.alloc {w : World} {g : Nat} {t : TypeId} {cs : Array Value} (h : Blk w g t cs) (o : Obj) : Blk (w.alloc o) g t cs := h.next (below_alloc (Below.refl _ _) o)
theorem Blk.setOther {w : World} {g : Nat} {t : TypeId} {cs : Array Value} (h : Blk w g t cs) {a : Addr} (ha : g ≠ a.block) (u : Value) : Blk (w.setCell a u) g t cs := (Below.heap_setCell w a u g ha).trans h

theorem Blk.grown {w w' : World} {g : Nat} {t : TypeId} {cs : Array Value} {row : Option Nat} (h : Blk w g t cs) (hg : w.grownBy w' row) (hne : some g ≠ row) : Blk w' g t cs := (hg.block g h.lt hne).trans h
theorem rdOneAt (w : World) (g : Nat) (hg : w.heap.size = g) (key : ByteArray) (num : Int) (t : TypeId) : Rd (w.alloc (.cells #[.string key, .int .i64 num] t)) (w.alloc (.cells #[.string key, .int .i64 num] t)).heap.size (some ⟨g, 0, none⟩) [(key, num)] := by
 subst hg; exact rdOne w key num t

section
variable {α : Type} [E : Elt α]
open Elt

theorem infoG (α : Type) [E : Elt α] : ∃ i, Try.prog.info? (T α) = some i ∧ i.zero = some (zero α) ∧ i.size = wd α ∧ i.bytes = byt α := by
 have h := E.info
 cases hi : Try.prog.info? (T α) with
 | none => rw [hi] at h; cases h
 | some i =>
  rw [hi] at h
  simp only [Option.map_some, Option.some.injEq, Prod.mk.injEq] at h
  exact ⟨i, rfl, h.1, h.2.1, h.2.2⟩

def cellsG (l : List α) : List Value := l.flatMap cs
theorem cellsG_cons (a : α) (l : List α) : cellsG (a :: l) = cs a ++ cellsG l := rfl
theorem cellsG_append (a b : List α) : cellsG (a ++ b) = cellsG a ++ cellsG b := by simp [cellsG]
theorem cellsG_length (l : List α) : (cellsG l).length = l.length * wd α := by
 induction l with
 | nil => simp [cellsG]
 | cons a l ih => rw [cellsG_cons, List.length_append, len, ih, List.length_cons, Nat.add_mul]; omega
theorem cellsG_one (l : List α) : ∀ u ∈ cellsG l, u.oneCell' = true := by
 intro u hu
 obtain ⟨r, _, h⟩ := List.mem_flatMap.1 hu
 exact one r u h
theorem cellsG_get (l : List α) (i : Nat) (r : α) (h : l[i]? = some r) (j : Nat) (hj : j < wd α) : (cellsG l)[i * wd α + j]? = (cs r)[j]? := by
 induction l generalizing i with
 | nil => simp at h
 | cons a l ih =>
  rw [cellsG_cons]
  cases i with
  | zero => simp at h; subst h; rw [Nat.zero_mul, Nat.zero_add, List.getElem?_append_left (by rw [len]; exact hj)]
  | succ i => simp at h; rw [List.getElem?_append_right (by rw [len, Nat.add_mul]; omega), len, show (i + 1) * wd α + j - wd α = i * wd α + j from by rw [Nat.add_mul]; omega]; exact ih i h
theorem csG_lt {r : α} {j : Nat} {u : Value} (h : (cs r)[j]? = some u) : j < wd α := by
 have := (List.getElem?_eq_some_iff.1 h).1; rwa [len] at this
theorem cellsG_at (l : List α) (j : Nat) (u : Value) (h : (cellsG l)[j]? = some u) : ∃ r, l[j / wd α]? = some r ∧ (cs r)[j % wd α]? = some u := by
 have hj : j < l.length * wd α := by have := (List.getElem?_eq_some_iff.1 h).1; rwa [cellsG_length] at this
 have hi : j / wd α < l.length := Nat.div_lt_of_lt_mul (by rw [Nat.mul_comm]; exact hj)
 refine ⟨l[j / wd α], List.getElem?_eq_getElem hi, ?_⟩
 rw [← cellsG_get l _ _ (List.getElem?_eq_getElem hi) _ (Nat.mod_lt _ E.pos), Nat.div_add_mod']
 exact h

def RdG (w : World) (B : Nat) (A : Option Addr) (l : List α) : Prop :=
 ∀ i r, l[i]? = some r → ∃ b o, A = some ⟨b, o, none⟩ ∧ b < B ∧ ∀ j u, (cs r)[j]? = some u → w.cell? ⟨b, o + i * wd α + j, none⟩ = some u

variable {w w' : World} {B B' : Nat} {A : Option Addr} {l : List α}
theorem RdG.nil : RdG w B A ([] : List α) := fun i r h => by simp at h
theorem RdG.keep (h : RdG w B A l) (hk : ∀ b o, b < B → w'.cell? ⟨b, o, none⟩ = w.cell? ⟨b, o, none⟩) : RdG w' B A l := fun i r hi => by
 obtain ⟨b, o, e, hb, h1⟩ := h i r hi
 exact ⟨b, o, e, hb, fun j u hj => (hk _ _ hb).trans (h1 j u hj)⟩
theorem RdG.below (h : RdG w B A l) (hb : Below B w w') : RdG w' B A l := h.keep fun _ _ hp => hb.cell hp
theorem RdG.more (h : RdG w B A l) (hB : B ≤ B') : RdG w B' A l := fun i r hi => by
 obtain ⟨b, o, e, hb, h1⟩ := h i r hi
 exact ⟨b, o, e, by omega, h1⟩
theorem RdG.next (h : RdG w w.heap.size A l) (hb : Below w.heap.size w w') : RdG w' w'.heap.size A l := (h.below hb).more hb.size
theorem RdG.at_ (h : RdG w B A l) {i : Nat} (hi : i < l.length) : ∃ b o, A = some ⟨b, o, none⟩ ∧ b < B ∧ ∀ j u, (cs l[i])[j]? = some u → w.cell? ⟨b, o + i * wd α + j, none⟩ = some u :=
 h i l[i] (List.getElem?_eq_getElem hi)
theorem RdG.fix (h : RdG w B A l) {b o : Nat} (e : A = some ⟨b, o, none⟩) {i : Nat} (hi : i < l.length) : b < B ∧ ∀ j u, (cs l[i])[j]? = some u → w.cell? ⟨b, o + i * wd α + j, none⟩ = some u := by
 obtain ⟨b', o', e', hb, h1⟩ := h.at_ hi
 rw [e] at e'
 injection e' with e'
 injection e' with e1 e2
 subst e1 e2
 exact ⟨hb, h1⟩
theorem RdG.take (h : RdG w B A l) (k : Nat) : RdG w B A (l.take k) := fun i r hi => by
 rw [List.getElem?_take] at hi
 split at hi
 ·
  exact h i r hi
 ·
  cases hi
/-- where the slice xs[p:] begins -/
def cutG (α : Type) [E : Elt α] (A : Option Addr) (c p : Nat) : Option Addr := if c = p then A else A.map (·.add (p * wd α))
theorem RdG.drop (h : RdG w B A l) (k cap : Nat) (hc : l.length ≤ cap) : RdG w B (cutG α A cap k) (l.drop k) := fun i r hi => by
 rw [List.getElem?_drop] at hi
 have hl := (List.getElem?_eq_some_iff.1 hi).1
 unfold cutG
 rw [if_neg (by omega)]
 obtain ⟨b, o, rfl, hb, h1⟩ := h (k + i) r hi
 refine ⟨b, o + k * wd α, ?_, hb, fun j u hj => ?_⟩
 ·
  unfold Addr.add
  simp only [Option.map_some, Option.some.injEq]
  split
  ·
   rename_i h0; rw [h0]; rfl
  ·
   rfl
 ·
  rw [show o + k * wd α + i * wd α + j = o + (k + i) * wd α + j from by rw [Nat.add_mul]; omega]; exact h1 j u hj
theorem runCutG (t : TypeId) (ht : Try.prog.underlying t = some (.slice (T α))) (A : Option Addr) (n c p : Nat) (h1 : p ≤ n) (h2 : n ≤ c) (w : World) :
  (Instr.slice t (.slice A n c) (some (.int .i64 (p : Int))) none none).run Try.prog w = .ok (.slice (cutG α A c p) (n - p) (c - p)) w := by
 have i1 : (0 : Int) ≤ (p : Int) := by omega
 have i2 : (p : Int) ≤ (n : Int) := by omega
 obtain ⟨i, hi, _, hs, _⟩ := infoG α
 simp [go_sem, ht, i1, i2, cutG, sizeOf, typeInfo, hi, hs]
theorem RdG.cells {ad : Addr} (h : RdG w B (some ad) l) : ∀ j u, (cellsG l)[j]? = some u → w.cell? (ad.add j) = some u := by
 intro j u hu
 obtain ⟨r, hr, hv⟩ := cellsG_at l j u hu
 obtain ⟨b, o, e, _, h1⟩ := h _ r hr
 injection e with e
 subst e
 have ha : (⟨b, o, none⟩ : Addr).add j = ⟨b, o + j, none⟩ := by
  unfold Addr.add
  split
  ·
   rename_i h0; subst h0; rfl
  ·
   rfl
 rw [ha]
 have := h1 _ u hv
 rwa [Nat.add_assoc, Nat.div_add_mod'] at this

/-- elements in memory of the call's own -/
def OwnG (w : World) (base : Nat) (v : Value) (l : List α) : Prop := w.ownsRow base (T α) (wd α) v l.length (cellsG l)
theorem OwnG.cases {base : Nat} {v : Value} (h : OwnG w base v l) : (v = .slice none 0 0 ∧ l = []) ∨
  ∃ g cap cur, v = .slice (some ⟨g, 0, none⟩) l.length cap ∧ base ≤ g ∧ Blk w g (T α) cur ∧ l.length ≤ cap ∧ cap ≤ maxLen ∧ cur.size = cap * wd α ∧ cur.toList.take (l.length * wd α) = cellsG l := by
 rcases h.2 with ⟨h1, h2⟩ | ⟨g, cap, cur, h1, h2, h3, h4, h5, h6, h7⟩
 ·
  exact .inl ⟨h1, List.eq_nil_of_length_eq_zero h2⟩
 ·
  exact .inr ⟨g, cap, cur, h1, h2, h3, h4, h5, h6, h7⟩
theorem OwnG.nil (w : World) (base : Nat) : OwnG w base (.slice none 0 0) ([] : List α) := ⟨by simp [cellsG], .inl ⟨rfl, rfl⟩⟩
theorem OwnG.mk {base g cap : Nat} {cur : Array Value} (hb : base ≤ g) (h : Blk w g (T α) cur) (hl : l.length ≤ cap) (hc : cap ≤ maxLen) (hs : cur.size = cap * wd α)
  (ht : cur.toList.take (l.length * wd α) = cellsG l) : OwnG w base (.slice (some ⟨g, 0, none⟩) l.length cap) l := ⟨cellsG_length l, .inr ⟨g, cap, cur, rfl, hb, h, hl, hc, hs, ht⟩⟩
theorem OwnG.of_blk {base g : Nat} (hb : base ≤ g) (h : Blk w g (T α) (cellsG l).toArray) (hl : l.length ≤ maxLen) : OwnG w base (.slice (some ⟨g, 0, none⟩) l.length l.length) l :=
 OwnG.mk hb h (Nat.le_refl _) hl (by simp [cellsG_length]) (by rw [List.take_of_length_le]; simp [cellsG_length])
theorem take_get {cur : Array Value} {l : List α} (ht : cur.toList.take (l.length * wd α) = cellsG l) {i : Nat} {r : α} (hi : l[i]? = some r) {j : Nat} {u : Value} (hj : (cs r)[j]? = some u) : cur[i * wd α + j]? = some u := by
 have h1 := cellsG_get l i r hi j (csG_lt hj)
 have hil := (List.getElem?_eq_some_iff.1 hi).1
 have hlt : i * wd α + j < l.length * wd α := by
  have h1 := csG_lt hj
  have h2 : (i + 1) * wd α ≤ l.length * wd α := Nat.mul_le_mul_right _ hil
  rw [Nat.add_mul] at h2
  omega
 rw [← ht, List.getElem?_take_of_lt hlt, hj] at h1
 simpa using h1
theorem OwnG.read {base : Nat} {v : Value} (h : OwnG w base v l) : ∃ A c, v = .slice A l.length c ∧ l.length ≤ c ∧ c ≤ maxLen ∧ RdG w w.heap.size A l := by
 rcases h.cases with ⟨rfl, rfl⟩ | ⟨g, cap, cur, rfl, hb, hblk, hl, hm, hs, ht⟩
 ·
  exact ⟨none, 0, rfl, Nat.le_refl _, by unfold maxLen; omega, RdG.nil⟩
 ·
  refine ⟨_, cap, rfl, hl, hm, fun i r hi => ⟨g, 0, rfl, hblk.lt, fun j u hj => ?_⟩⟩
  rw [hblk.cell, Nat.zero_add]
  exact take_get ht hi hj
theorem OwnG.rd {base g n c : Nat} {a : Addr} (h : OwnG w base (.slice (some a) n c) l) : RdG w w.heap.size (some a) l := by
 obtain ⟨A, c', e, _, _, hr⟩ := h.read
 injection e with e1 e2 e3
 rw [e1]; exact hr
theorem OwnG.rd' {base n c : Nat} {A : Option Addr} (h : OwnG w base (.slice A n c) l) : n = l.length ∧ l.length ≤ c ∧ c ≤ maxLen ∧ RdG w w.heap.size A l := by
 obtain ⟨A, c', e, h1, h2, hr⟩ := h.read
 injection e with e1 e2 e3
 subst e1 e2 e3
 exact ⟨rfl, h1, h2, hr⟩
theorem OwnG.keep {base : Nat} {v : Value} (h : OwnG w base v l) (hk : ∀ g, v.ownBlock = some g → w'.heap[g]? = w.heap[g]?) : OwnG w' base v l := by
 rcases h.cases with ⟨rfl, rfl⟩ | ⟨g, cap, cur, rfl, hb, hblk, hl, hm, hs, ht⟩
 ·
  exact OwnG.nil _ _
 ·
  exact OwnG.mk hb ((hk g rfl).trans hblk) hl hm hs ht
theorem OwnG.block_lt {base : Nat} {v : Value} (h : OwnG w base v l) {g : Nat} (hg : v.ownBlock = some g) : base ≤ g ∧ g < w.heap.size := by
 rcases h.cases with ⟨rfl, rfl⟩ | ⟨g', cap, cur, rfl, hb, hblk, _⟩
 ·
  simp [Value.ownBlock] at hg
 ·
  have : g' = g := by simpa [Value.ownBlock] using hg
  subst this
  exact ⟨hb, hblk.lt⟩
theorem OwnG.next {base : Nat} {v : Value} (h : OwnG w base v l) (hb : Below w.heap.size w w') : OwnG w' base v l := h.keep fun g hg => hb.block g (h.block_lt hg).2
theorem OwnG.low {base base' : Nat} {v : Value} (h : OwnG w base v l) (hb : base' ≤ base) : OwnG w base' v l := by
 rcases h.cases with ⟨rfl, rfl⟩ | ⟨g, cap, cur, rfl, hb', hblk, hl, hm, hs, ht⟩
 ·
  exact OwnG.nil _ _
 ·
  exact OwnG.mk (by omega) hblk hl hm hs ht
theorem OwnG.cast' {base : Nat} {v : Value} {l' : List α} (h : OwnG w base v l) (e : l = l') : OwnG w base v l' := e ▸ h
theorem OwnG.alloc {base : Nat} {v : Value} (h : OwnG w base v l) (o : Obj) : OwnG (w.alloc o) base v l := World.ownsRow.alloc h o
theorem OwnG.kept {base : Nat} {v : Value} {row : Option Nat} (h : OwnG w base v l) (hg : w.grownBy w' row) (hne : ∀ g, v.ownBlock = some g → some g ≠ row) : OwnG w' base v l :=
 h.keep fun g hgv => hg.block g (h.block_lt hgv).2 (hne g hgv)
theorem OwnG.setCell {base : Nat} {v : Value} (h : OwnG w base v l) {a : Addr} (ha : ∀ g, v.ownBlock = some g → g ≠ a.block) (u : Value) : OwnG (w.setCell a u) base v l :=
 h.keep fun g hg => Below.heap_setCell w a u g (ha g hg)
theorem OwnG.fresh (w : World) (base : Nat) (hb : base ≤ w.heap.size) : OwnG (w.alloc (.cells #[] (T α))) base (.slice (some ⟨w.heap.size, 0, none⟩) 0 0) ([] : List α) :=
 OwnG.mk (l := []) hb (heap_alloc_new w _) (Nat.le_refl _) (by unfold maxLen; omega) (by simp) (by simp [cellsG])
theorem OwnG.ne_block {base g : Nat} {v : Value} (h : OwnG w base v l) (hg : g < base) : some g ≠ v.ownBlock := fun e => by have := (h.block_lt e.symm).1; omega
theorem OwnG.below {a w w' : World} {base : Nat} {v : Value} {l : List α} (h : OwnG w base v l) (hb : Below a.heap.size a w) (hg : w.grownBy w' v.ownBlock) (hle : a.heap.size ≤ base) : Below a.heap.size a w' :=
 hb.grown hg hb.size fun k hk => by have := (h.block_lt hk).1; omega
theorem OwnG.slice {base : Nat} {v : Value} (h : OwnG w base v l) : ∃ b n c, v = .slice b n c := by
 rcases h.cases with ⟨rfl, rfl⟩ | ⟨g, cap, cur, rfl, _⟩
 ·
  exact ⟨_, _, _, rfl⟩
 ·
  exact ⟨_, _, _, rfl⟩
theorem ownLowG {a W wc : World} {v : Value} (h : Below a.heap.size a W) (hown : OwnG wc W.heap.size v l) : OwnG wc a.heap.size v l := hown.low h.size
theorem belowAppG {a W w' : World} {v : Value} (h : Below a.heap.size a W) (hown : OwnG W a.heap.size v l) (hg : W.grownBy w' v.ownBlock) : Below a.heap.size a w' :=
 h.grown hg h.size fun k hk => (hown.block_lt hk).1

theorem runAppG (t t' ty e' : TypeId) (ht : Try.prog.underlying t = some (.slice (T α))) (ht' : Try.prog.underlying t' = some (.slice e')) (w : World) (base : Nat) (v : Value) (l : List α) (hown : OwnG w base v l)
  (A : Option Addr) (c B : Nat) (l2 : List α) (hr : RdG w B A l2) (hlen : l.length + l2.length ≤ 4194304) (hbase : base ≤ w.heap.size) :
  ∃ v' w', (Builtin.append_ #[t, t'] ty #[v, .slice A l2.length c]).run Try.prog w = .ok v' w' ∧ OwnG w' base v' (l ++ l2) ∧ w.grownBy w' v.ownBlock ∧ (v'.ownBlock = v.ownBlock ∨ v'.ownBlock = some w.heap.size) := by
 obtain ⟨i, hi, hz, hs, hb⟩ := infoG α
 have hty : (Builtin.append_ #[t, t'] ty #[v, .slice A l2.length c]).run Try.prog w = (Builtin.append_ #[t, t] ty #[v, .slice A l2.length c]).run Try.prog w := by
  obtain ⟨b, n, c', rfl⟩ := hown.slice
  exact app_types t t' ty _ _ i ht ht' hi b n c' A _ c w
 rw [hty]
 cases A with
 | none =>
  have h2 : l2 = [] := by
   cases l2 with
   | nil => rfl
   | cons r l2 =>
    obtain ⟨b, o, e, _⟩ := hr 0 r rfl
    cases e
  subst h2
  refine ⟨v, w, ?_, by simpa using hown, World.grownBy.refl _ _, .inl rfl⟩
  rcases hown.cases with ⟨rfl, rfl⟩ | ⟨g, cap, cur, rfl, _, _, hl, _⟩
  ·
   simp [Builtin.append_, run_underlying ht, sizeOf, typeInfo, hi, Builtin.lenOf, Builtin.firstCells]
  ·
   simp [Builtin.append_, run_underlying ht, sizeOf, typeInfo, hi, Builtin.lenOf, Builtin.firstCells, hl, storeCells]
 | some ad =>
  obtain ⟨v', w', h1, h2, h3, _, h5⟩ := run_append_own_at (P := Try.prog) w base t ty (T α) i (zero α) (wd α) (byt α) ht hi hz hs hb E.zsize E.pos v l.length (cellsG l) hown ad l2.length c (cellsG l2) (cellsG_length l2) hr.cells (cellsG_one l2)
   (by unfold maxLen; omega) (Nat.le_trans (Nat.mul_le_mul hlen E.small) (by omega)) hbase
  refine ⟨v', w', h1, ?_, h3, h5⟩
  unfold OwnG
  rw [cellsG_append, List.length_append]
  exact h2

theorem wp_appG {o : Oper} {a : Act} {K : Act → World → Prop} {Q : Exit → Act → World → Prop} (w : World) (s x : Operand) (t t' e' : TypeId)
  (ho : o.op = .call { callee := .builtin .append, args := #[s, x], argTypes := #[t, t'] }) (ht : Try.prog.underlying t = some (.slice (T α))) (ht' : Try.prog.underlying t' = some (.slice e'))
  (base : Nat) (v : Value) (l : List α) (hs : a.eval s = v) (hown : OwnG w base v l) (A : Option Addr) (c B n2 : Nat) (l2 : List α) (hn2 : l2.length = n2) (hx : a.eval x = .slice A n2 c) (hr : RdG w B A l2) (hlen : l.length + l2.length ≤ 4194304) (hbase : base ≤ w.heap.size)
  (h : ∀ v' w', OwnG w' base v' (l ++ l2) → w.grownBy w' v.ownBlock → (v'.ownBlock = v.ownBlock ∨ v'.ownBlock = some w.heap.size) → K (a.put o.dst v') w') : o.wp Try.prog a w K Q := by
 subst hn2
 obtain ⟨v', w', hrun, h2, h3, h4⟩ := runAppG t t' o.type e' ht ht' w base v l hown A c B l2 hr hlen hbase
 unfold Oper.wp execOp
 simp only [ho, resolve, invoke, builtin, Sem.run_bind, Sem.run_pure, Result.andThen_ok, List.map_toArray, List.map_cons, List.map_nil, hs, hx, hrun]
 exact h v' w' h2 h3 h4
theorem wpList_appG {ops : Array Oper} {rest : List Oper} {o : Oper} {a : Act} {Q : Exit → Act → World → Prop} (w : World) (hgd : o.guard = none) (s x : Operand) (t t' e' : TypeId)
  (ho : o.op = .call { callee := .builtin .append, args := #[s, x], argTypes := #[t, t'] }) (ht : Try.prog.underlying t = some (.slice (T α))) (ht' : Try.prog.underlying t' = some (.slice e'))
  (base : Nat) (v : Value) (l : List α) (hs : a.eval s = v) (hown : OwnG w base v l) (A : Option Addr) (c B n2 : Nat) (l2 : List α) (hn2 : l2.length = n2) (hx : a.eval x = .slice A n2 c) (hr : RdG w B A l2) (hlen : l.length + l2.length ≤ 4194304) (hbase : base ≤ w.heap.size)
  (h : ∀ v' w', OwnG w' base v' (l ++ l2) → w.grownBy w' v.ownBlock → (v'.ownBlock = v.ownBlock ∨ v'.ownBlock = some w.heap.size) → wpList Try.prog ops Q rest (a.put o.dst v') w') : wpList Try.prog ops Q (o :: rest) a w :=
 wpList_plain hgd fun _ hK => wp_appG w s x t t' e' ho ht ht' base v l hs hown A c B n2 l2 hn2 hx hr hlen hbase fun v' w' h2 h3 h4 => hK _ _ (h v' w' h2 h3 h4)
theorem step_appG {ops : Array Oper} {o : Oper} {a : Act} {K : Act → World → Prop} {Q : Exit → Act → World → Prop} {Z : Prop} (w : World) (hgd : o.guard = none) (s x : Operand) (t t' e' : TypeId)
  (ho : o.op = .call { callee := .builtin .append, args := #[s, x], argTypes := #[t, t'] }) (ht : Try.prog.underlying t = some (.slice (T α))) (ht' : Try.prog.underlying t' = some (.slice e'))
  (base : Nat) (v : Value) (l : List α) (hs : a.eval s = v) (hown : OwnG w base v l) (A : Option Addr) (c B n2 : Nat) (l2 : List α) (hn2 : l2.length = n2) (hx : a.eval x = .slice A n2 c) (hr : RdG w B A l2) (hlen : l.length + l2.length ≤ 4194304) (hbase : base ≤ w.heap.size)
  (h : ∀ v' w', OwnG w' base v' (l ++ l2) → w.grownBy w' v.ownBlock → (v'.ownBlock = v.ownBlock ∨ v'.ownBlock = some w.heap.size) → K (a.put o.dst v') w') :
  if Region.wanted o (yielded ops a.tmps) = true then Oper.wp Try.prog o a w K Q else Z := by
 have hw : Region.wanted o (yielded ops a.tmps) = true := by simp [Region.wanted, hgd]
 rw [if_pos hw]
 exact wp_appG w s x t t' e' ho ht ht' base v l hs hown A c B n2 l2 hn2 hx hr hlen hbase h

/-- one new element, as the call has just laid it -/
theorem rdOneG (w : World) (x : α) (us : Array Value) (t : TypeId) (hu : us.toList = cs x) : RdG (w.alloc (.cells us t)) (w.alloc (.cells us t)).heap.size (some ⟨w.heap.size, 0, none⟩) [x] := fun i r hi => by
 have h0 : i = 0 := by have := (List.getElem?_eq_some_iff.1 hi).1; simpa using this
 subst h0
 have : r = x := by simpa using hi.symm
 subst this
 refine ⟨w.heap.size, 0, rfl, by simp, fun j u hj => ?_⟩
 rw [World.cell?_alloc_at _ _ _ _ rfl]
 rw [← hu] at hj
 simpa using hj

theorem rdOneGAt (w : World) (g : Nat) (hg : w.heap.size = g) (x : α) (us : Array Value) (t : TypeId) (hu : us.toList = cs x) : RdG (w.alloc (.cells us t)) (w.alloc (.cells us t)).heap.size (some ⟨g, 0, none⟩) [x] := by
 subst hg; exact rdOneG w x us t hu

/-- a new array of n zero elements -/
def freshG (α : Type) [E : Elt α] (n : Nat) : Array Value := madeCells (zero α).cells (n * wd α)
theorem freshG_size (n : Nat) : (freshG α n).size = n * wd α := size_madeCells _ _
theorem mkG (t : TypeId) (ht : Try.prog.underlying t = some (.slice (T α))) (n c : Nat) (hn : n ≤ c) (hc : c ≤ 2097152) (w : World) : (Instr.makeSlice t (.int .i64 (n : Int)) (.int .i64 (c : Int))).run Try.prog w =
  .ok (.slice (some ⟨w.heap.size, 0, none⟩) n c) (w.alloc (.cells (freshG α c) (T α))) := by
 obtain ⟨i, hi, hz, hs, hb⟩ := infoG α
 have h1 : byt α * c ≤ 128 * 2097152 := Nat.mul_le_mul E.small hc
 have h := run_make (P := Try.prog) w t (T α) i _ ht hi hz .i64 .i64 (n : Int) (c : Int) (by omega) (by omega) (by rw [hb, ← Int.natCast_mul]; omega) (by omega)
 rw [hs] at h
 simp only [Int.toNat_natCast] at h
 exact h
theorem OwnG.made (w : World) (base c : Nat) (hb : base ≤ w.heap.size) (hc : c ≤ maxLen) : OwnG (w.alloc (.cells (freshG α c) (T α))) base (.slice (some ⟨w.heap.size, 0, none⟩) 0 c) ([] : List α) :=
 OwnG.mk (l := []) hb (heap_alloc_new w _) (Nat.zero_le _) hc (freshG_size c) (by simp [cellsG])

/-- the cells from k on are written -/
def putC (c : Array Value) (k : Nat) : List Value → Array Value
 | [] => c
 | u :: us => putC (c.setIfInBounds k u) (k + 1) us
theorem putC_size (us : List Value) : (c : Array Value) → (k : Nat) → (putC c k us).size = c.size := by
 induction us with
 | nil => intro c k; rfl
 | cons u us ih => intro c k; show (putC (c.setIfInBounds k u) (k + 1) us).size = _; rw [ih]; simp
theorem putC_out (us : List Value) : (c : Array Value) → (k j : Nat) → (j < k ∨ k + us.length ≤ j) → (putC c k us)[j]? = c[j]? := by
 induction us with
 | nil => intro c k j _; rfl
 | cons u us ih =>
  intro c k j h
  show (putC (c.setIfInBounds k u) (k + 1) us)[j]? = _
  rw [List.length_cons] at h
  rw [ih _ _ _ (by omega), Array.getElem?_setIfInBounds_ne (by omega)]
theorem putC_in (us : List Value) : (c : Array Value) → (k j : Nat) → (u : Value) → k + us.length ≤ c.size → us[j]? = some u → (putC c k us)[k + j]? = some u := by
 induction us with
 | nil => intro c k j u _ h; simp at h
 | cons v us ih =>
  intro c k j u hs h
  show (putC (c.setIfInBounds k v) (k + 1) us)[k + j]? = _
  rw [List.length_cons] at hs
  cases j with
  | zero =>
   rw [putC_out _ _ _ _ (by omega), Nat.add_zero, Array.getElem?_setIfInBounds_self_of_lt (by omega)]
   simpa using h
  | succ j => rw [show k + (j + 1) = k + 1 + j from by omega]; exact ih _ _ _ _ (by simp; omega) (by simpa using h)

/-- the first k elements of the list lie in these cells -/
def FillG (l : List α) (c : Array Value) (k : Nat) : Prop := ∀ j r, j < k → l[j]? = some r → ∀ m u, (cs r)[m]? = some u → c[j * wd α + m]? = some u
theorem FillG.zero (l : List α) (c : Array Value) : FillG l c 0 := fun j r h => absurd h (by omega)
theorem FillG.step {l : List α} {c : Array Value} {k : Nat} (h : FillG l c k) (hk : k < l.length) (hs : l.length * wd α ≤ c.size) (r0 : α) (hr0 : l[k]? = some r0) : FillG l (putC c (k * wd α) (cs r0)) (k + 1) := by
 intro j r hj hr m u hm
 have hml := csG_lt hm
 by_cases e : j = k
 ·
  subst e
  have : r0 = r := Option.some.inj (hr0.symm.trans hr)
  subst this
  refine putC_in _ _ _ _ _ ?_ hm
  rw [len]
  have h2 : (j + 1) * wd α ≤ l.length * wd α := Nat.mul_le_mul_right _ hk
  rw [Nat.add_mul] at h2
  omega
 ·
  rw [putC_out]
  ·
   exact h j r (by omega) hr m u hm
  ·
   left
   have h2 : (j + 1) * wd α ≤ k * wd α := Nat.mul_le_mul_right _ (by omega)
   rw [Nat.add_mul] at h2
   omega
theorem FillG.take {l : List α} {c : Array Value} (h : FillG l c l.length) (hs : l.length * wd α ≤ c.size) : c.toList.take (l.length * wd α) = cellsG l := by
 apply List.ext_getElem?
 intro j
 by_cases hj : j < l.length * wd α
 ·
  rw [List.getElem?_take_of_lt hj]
  have hi : j / wd α < l.length := Nat.div_lt_of_lt_mul (by rw [Nat.mul_comm]; exact hj)
  have hg : j < (cellsG l).length := by rw [cellsG_length]; exact hj
  rw [List.getElem?_eq_getElem hg]
  obtain ⟨r, hr, hu⟩ := cellsG_at l j _ (List.getElem?_eq_getElem hg)
  have := h (j / wd α) r hi hr _ _ hu
  rw [Nat.div_add_mod'] at this
  simpa using this
 ·
  rw [List.getElem?_eq_none (by rw [List.length_take]; omega), List.getElem?_eq_none (by rw [cellsG_length]; omega)]
theorem FillG.full {l : List α} {c : Array Value} (h : FillG l c l.length) (hs : c.size = l.length * wd α) : c = (cellsG l).toArray := by
 have e := h.take (by omega)
 rw [List.take_of_length_le (by simp [hs])] at e
 apply Array.ext'
 simpa using e

/-- the call returns elements in new memory -/
def RetG (w : World) (l : List α) (e : Ending) (w' : World) : Prop := ∃ v, e = .returned v ∧ OwnG w' w.heap.size v l ∧ Below w.heap.size w w'

end

/-- elements that are marked one behind the other -/
def marksG {α : Type} [Elt α] (f : Nat → α) (n k : Nat) : List α := (List.range n).map fun i => f (k + Elt.wd α * i)
theorem marksG_length {α : Type} [Elt α] (f : Nat → α) (n k : Nat) : (marksG f n k).length = n := by simp [marksG]
theorem marksG_get {α : Type} [Elt α] (f : Nat → α) (n k i : Nat) (h : i < n) : (marksG f n k)[i]? = some (f (k + Elt.wd α * i)) := by
 unfold marksG
 rw [List.getElem?_map, List.getElem?_range h]
 rfl
theorem OwnG.of_fill {α : Type} [Elt α] {w : World} {base g cap n : Nat} {cur : Array Value} (l : List α) (hn : l.length = n) (hb : base ≤ g) (h : Blk w g (Elt.T α) cur) (hl : n ≤ cap) (hc : cap ≤ maxLen) (hs : cur.size = cap * Elt.wd α) (hf : FillG l cur n) :
  OwnG w base (.slice (some ⟨g, 0, none⟩) n cap) l := by
 subst hn
 exact OwnG.mk hb h hl hc hs (hf.take (by rw [hs]; exact Nat.mul_le_mul_right _ hl))

end Go.Proofs.Ytheblejlmlfddaa

namespace Go.Proofs.Ytheblejlmlfddaa
open Go.ChangeShapes Go.WideShapes Go.ChangeAt Go.RowKit Go.Deep
set_option linter.unusedVariables false

theorem list_of {α : Type} {Q : Nat → α → Prop} : (n : Nat) → (∀ i, i < n → ∃ r, Q i r) → ∃ l : List α, l.length = n ∧ ∀ i r, l[i]? = some r → Q i r
 | 0, _ => ⟨[], rfl, fun i r h => by simp at h⟩
 | n + 1, h => by
  obtain ⟨l, hl, hq⟩ := list_of n fun i hi => h i (by omega)
  obtain ⟨r, hr⟩ := h n (by omega)
  refine ⟨l ++ [r], by simp [hl], fun i x hx => ?_⟩
  by_cases hi : i < l.length
  ·
   rw [List.getElem?_append_left hi] at hx
   exact hq i x hx
  ·
   rw [List.getElem?_append_right (by omega)] at hx
   have h0 : i - l.length = 0 := by have := (List.getElem?_eq_some_iff.1 hx).1; simp at this; omega
   rw [h0] at hx
   have e : r = x := by simpa using hx
   subst e
   rw [show i = n from by omega]
   exact hr

def FitI (z : Int) : Prop := -9223372036854775808 ≤ z ∧ z ≤ 9223372036854775807
theorem fitI_of {z : Int} (h : (Lit.int .i64 z).wf = true) : FitI z := by
 simpa [FitI, Lit.wf, IntKind.min, IntKind.max, IntKind.signed, IntKind.bits] using h

theorem openG {α : Type} [E : Elt α] {H : Type} {enc : TypeId × Value → H} {W : World} {t eL : TypeId} (ht : Try.prog.underlying t = some (.slice eL)) (hce : Try.prog.cellsOf eL = Elt.wd α) (Fit : α → Prop)
  (dec : ∀ n cs' x, DataW.trod enc Try.prog W 0 (fun _ => true) true n eL cs' = some x → ∃ a : α, cs' = Elt.cs a ∧ Fit a) {fuel : Nat} {v : Value} {x : DataW H × List MemPlace}
  (h : DataW.trod enc Try.prog W 0 (fun _ => true) true fuel t [v] = some x) :
  ∃ (A : Option Addr) (c : Nat) (l : List α), v = .slice A l.length c ∧ l.length ≤ c ∧ c ≤ maxLen ∧ (∀ r ∈ l, Fit r) ∧ RdG W W.heap.size A l := by
 rcases open_slice ht h with ⟨hcs, _⟩ | ⟨a, len, cap, m, n, D, Pl, hcs, hb, hl, hm, hmm, _, hx⟩
 ·
  simp only [List.cons.injEq, and_true] at hcs
  subst hcs
  exact ⟨none, 0, [], rfl, Nat.le_refl _, by unfold maxLen; omega, fun r hr => by simp at hr, RdG.nil⟩
 ·
  simp only [List.cons.injEq, and_true] at hcs
  subst hcs
  simp at hmm
  subst hmm
  by_cases h0 : len = 0
  ·
   subst h0
   exact ⟨some a, m, [], rfl, by simp, hm, fun r hr => by simp at hr, RdG.nil⟩
  obtain ⟨b, o, ha, hbl⟩ : ∃ b o, a = ⟨b, o, none⟩ ∧ b < W.heap.size := by
   obtain ⟨cs', h1, h2⟩ := hx 0 (by omega)
   obtain ⟨r, rfl, hf⟩ := dec _ _ _ h2
   rw [hce] at h1
   obtain ⟨_, hlen, hcell⟩ := World.cells?_some h1
   have g0 := hcell 0 E.pos
   have hp : 0 < (Elt.cs r).length := by rw [E.len]; exact E.pos
   rw [List.getElem?_eq_getElem hp, Nat.zero_mul] at g0
   obtain ⟨b, o, spot⟩ := a
   have hspot : spot = none := by simpa [Addr.add] using World.cell?_spot g0
   subst hspot
   have hbl : b < W.heap.size := by
    have := block_lt_of_cell g0
    simpa [Addr.add] using this
   exact ⟨b, o, rfl, hbl⟩
  subst ha
  obtain ⟨l, hll, hq⟩ := list_of (Q := fun i (r : α) => Fit r ∧ ∀ j u, (Elt.cs r)[j]? = some u → W.cell? ⟨b, o + i * Elt.wd α + j, none⟩ = some u) len fun i hi => by
   obtain ⟨cs', h1, h2⟩ := hx i (by omega)
   obtain ⟨r, rfl, hf⟩ := dec _ _ _ h2
   rw [hce] at h1
   obtain ⟨_, hlen, hcell⟩ := World.cells?_some h1
   refine ⟨r, hf, fun j u hj => ?_⟩
   have g := hcell j (csG_lt hj)
   rw [hj, add_add, add_plain] at g
   rw [Nat.add_assoc]
   exact g
  refine ⟨some ⟨b, o, none⟩, m, l, by rw [hll], by omega, hm, fun r hr => ?_, fun i r hi => ?_⟩
  ·
   obtain ⟨i, hi, rfl⟩ := List.getElem_of_mem hr
   exact (hq i _ (List.getElem?_eq_getElem hi)).1
  ·
   exact ⟨b, o, rfl, hbl, (hq i r hi).2⟩

end Go.Proofs.Ytheblejlmlfddaa

namespace Go.Proofs.Ytheblejlmlfddaa
open Go.RowKit
set_option linter.unusedVariables false

structure V where
 k : ByteArray
 n : Int
 f : Int
 t : Int

def csV (x : V) : List Value := [.string x.k, .int .i64 x.n, .int .i64 x.f, .int .i64 x.t]
def agV (x : V) : Value := .agg #[.string x.k, .int .i64 x.n, .int .i64 x.f, .int .i64 x.t]
instance elV : Elt V where
 T := 94
 wd := 4
 byt := 40
 zero := .agg #[.string ByteArray.empty, .int .i64 0, .int .i64 0, .int .i64 0]
 cs := csV
 len := fun _ => rfl
 pos := by omega
 one := by
  intro a u hu
  simp only [csV, List.mem_cons, List.not_mem_nil, or_false] at hu
  rcases hu with rfl | rfl | rfl | rfl <;> rfl
 info := by kernel_rfl
 zsize := rfl
 small := by omega

section
variable {w w' : World} {B : Nat} {A : Option Addr} {l : List V}
theorem RdG.atV (h : RdG w B A l) {i : Nat} (hi : i < l.length) : ∃ b o, A = some ⟨b, o, none⟩ ∧ b < B ∧ w.cell? ⟨b, o + i * 4, none⟩ = some (.string l[i].k) ∧ w.cell? ⟨b, o + i * 4 + 1, none⟩ = some (.int .i64 l[i].n) ∧ w.cell? ⟨b, o + i * 4 + 2, none⟩ = some (.int .i64 l[i].f) ∧ w.cell? ⟨b, o + i * 4 + 3, none⟩ = some (.int .i64 l[i].t) := by
 obtain ⟨b, o, e, hb, h1⟩ := h.at_ hi
 exact ⟨b, o, e, hb, h1 0 _ rfl, h1 1 _ rfl, h1 2 _ rfl, h1 3 _ rfl⟩
theorem RdG.fixV (h : RdG w B A l) {b o : Nat} (e : A = some ⟨b, o, none⟩) {i : Nat} (hi : i < l.length) : w.cell? ⟨b, o + i * 4, none⟩ = some (.string l[i].k) ∧ w.cell? ⟨b, o + i * 4 + 1, none⟩ = some (.int .i64 l[i].n) ∧ w.cell? ⟨b, o + i * 4 + 2, none⟩ = some (.int .i64 l[i].f) ∧ w.cell? ⟨b, o + i * 4 + 3, none⟩ = some (.int .i64 l[i].t) := by
 obtain ⟨hb, h1⟩ := h.fix e hi
 exact ⟨h1 0 _ rfl, h1 1 _ rfl, h1 2 _ rfl, h1 3 _ rfl⟩
end
theorem rdOneV (w : World) (x : V) (t : TypeId) : RdG (w.alloc (.cells #[.string x.k, .int .i64 x.n, .int .i64 x.f, .int .i64 x.t] t)) (w.alloc (.cells #[.string x.k, .int .i64 x.n, .int .i64 x.f, .int .i64 x.t] t)).heap.size (some ⟨w.heap.size, 0, none⟩) [x] :=
 rdOneG w x _ t rfl

/-- it fits Go's kinds -/
def FitV (x : V) : Prop := x.k.size ≤ maxLen ∧ -9223372036854775808 ≤ x.n ∧ x.n ≤ 9223372036854775807 ∧ -9223372036854775808 ≤ x.f ∧ x.f ≤ 9223372036854775807 ∧ -9223372036854775808 ≤ x.t ∧ x.t ≤ 9223372036854775807
def FitVs (l : List V) : Prop := ∀ r ∈ l, FitV r

set_option maxRecDepth 100000 in
set_option maxHeartbeats 1000000 in
theorem toVer_c (x : V) (w : World) :
  Calls Try.prog 69 #[.agg #[.string x.k, .int .i64 x.n, .int .i64 x.f, .int .i64 x.t]] w fun e w' => e = .returned (.agg #[.string x.k, .int .i64 x.n, .int .i64 x.f, .int .i64 x.t]) ∧ Below w.heap.size w w' := by
 go_enter Try.func69, Try.ntmps69
 go_wp2
 exact bodyPost_ret (v := .agg #[.string x.k, .int .i64 x.n, .int .i64 x.f, .int .i64 x.t]) (by simp [results, Try.results69, go_sem]) rfl ⟨rfl, (by (repeat (first | exact Below.refl _ _ | (refine Below.setCell ?_ (by simp <;> omega) _) | (refine Below.alloc ?_ (by simp <;> omega) _) | (refine Below.drew ?_))))⟩

set_option maxRecDepth 100000 in
set_option maxHeartbeats 1000000 in
theorem toVerS_c (A : Option Addr) (c : Nat) (l : List V) (w : World) (hc : l.length ≤ c) (hcm : l.length ≤ 1048576) (hr : RdG w w.heap.size A l) :
  Calls Try.prog 55 #[.slice A l.length c] w fun e w' => ∃ g, e = .returned (.slice (some ⟨g, 0, none⟩) l.length l.length) ∧ w.heap.size ≤ g ∧ Blk w' g 94 (cellsG l).toArray ∧ Below w.heap.size w w' := by
 have hmk := mkG (α := V) 22 Try.underlying22 l.length l.length (Nat.le_refl _) (by omega)
 go_enter Try.func55, Try.ntmps55
 go_wp2
 clear hmk
 go_loopw [4] (fun i W => ∃ k : Nat, k ≤ l.length ∧ i = .int .i64 k ∧ ∃ c : Array Value, Blk W w.heap.size 94 c ∧ c.size = l.length * 4 ∧ FillG l c k ∧ Below w.heap.size w W) (fun i _ => l.length - (intOf i).toNat)
 case atStart => exact ⟨0, Nat.zero_le _, rfl, _, heap_alloc_new _ _, freshG_size (α := V) _, FillG.zero _ _, (Below.refl _ _).alloc (Nat.le_refl _) _⟩
 case round =>
  obtain ⟨k, hk, rfl, cs, hblk, hsz, hcs, hb⟩ := hrel
  by_cases hkl : k < l.length
  ·
   obtain ⟨b, o, rfl, hbB, hc0, hc1, hc2, hc3⟩ := (hr.below hb).atV hkl
   have HCS := Lib.hid hcs
   have HSZ := Lib.hid hsz
   clear hcs hsz
   have hs0 : k * 4 < cs.size := by rw [HSZ.out]; omega
   have hs1 : k * 4 + 1 < cs.size := by rw [HSZ.out]; omega
   have hs2 : k * 4 + 2 < cs.size := by rw [HSZ.out]; omega
   have hs3 : k * 4 + 3 < cs.size := by rw [HSZ.out]; omega
   go_wp2_with ((go_at_call 69; refine (toVer_c l[k] _).mono ?_; rintro e w' ⟨rfl, hb2⟩; have hblk2 := Lib.hid (hblk.next hb2); have g0 : w'.cell? ⟨w.heap.size, k * 4, none⟩ = some cs[k * 4] := by { rw [hblk2.out.cell]; exact Array.getElem?_eq_getElem hs0 }; have z0 := hblk2.out.free (k * 4); have g1 : w'.cell? ⟨w.heap.size, k * 4 + 1, none⟩ = some cs[k * 4 + 1] := by { rw [hblk2.out.cell]; exact Array.getElem?_eq_getElem hs1 }; have z1 := hblk2.out.free (k * 4 + 1); have g2 : w'.cell? ⟨w.heap.size, k * 4 + 2, none⟩ = some cs[k * 4 + 2] := by { rw [hblk2.out.cell]; exact Array.getElem?_eq_getElem hs2 }; have z2 := hblk2.out.free (k * 4 + 2); have g3 : w'.cell? ⟨w.heap.size, k * 4 + 3, none⟩ = some cs[k * 4 + 3] := by { rw [hblk2.out.cell]; exact Array.getElem?_eq_getElem hs3 }; have z3 := hblk2.out.free (k * 4 + 3)))
   go_roundw
   case rel => exact ⟨k + 1, by omega, by go_num, putC cs (k * 4) (csV l[k]), ((((hblk2.out.set_ _ _).set_ _ _).set_ _ _).set_ _ _), (putC_size _ _ _).trans HSZ.out, HCS.out.step hkl (Nat.le_of_eq HSZ.out.symm) _ (List.getElem?_eq_getElem hkl), (((((hb.trans (hb2.mono hb.size)).setCell (Nat.le_refl _) _).setCell (Nat.le_refl _) _).setCell (Nat.le_refl _) _).setCell (Nat.le_refl _) _)⟩
   case measure => simp [intOf]; omega
  ·
   have hkk : k = l.length := by omega
   have HK := Lib.hid hkk
   have HCS := Lib.hid hcs
   have HSZ := Lib.hid hsz
   clear hkk hcs hsz
   go_wp2
   go_ret
   refine ⟨_, rfl, Nat.le_refl _, ?_, hb⟩
   have hf := HCS.out
   rw [HK.out] at hf
   rw [← hf.full HSZ.out]
   exact hblk

theorem toVerOwn_c (A : Option Addr) (c : Nat) (l : List V) (w : World) (hc : l.length ≤ c) (hcm : l.length ≤ 1048576) (hr : RdG w w.heap.size A l) :
  Calls Try.prog 55 #[.slice A l.length c] w fun e w' => ∃ g, e = .returned (.slice (some ⟨g, 0, none⟩) l.length l.length) ∧ OwnG w' w.heap.size (.slice (some ⟨g, 0, none⟩) l.length l.length) l ∧ w.heap.size ≤ g ∧ g < w'.heap.size ∧ Below w.heap.size w w' := by
 refine (toVerS_c A c l w hc hcm hr).mono ?_
 rintro e w' ⟨g, rfl, h1, h2, h3⟩
 exact ⟨g, rfl, OwnG.of_blk h1 h2 (by unfold maxLen; omega), h1, h2.lt, h3⟩

/-- values and letters of a list -/
def totalV (l : List V) : Nat := (l.map fun r => r.k.size + 1).sum
theorem totalV_take_succ (l : List V) (k : Nat) (h : k < l.length) : totalV (l.take (k + 1)) = totalV (l.take k) + (l[k].k.size + 1) := by
 unfold totalV; rw [List.take_succ_eq_append_getElem h, List.map_append, List.sum_append]; simp
theorem totalV_take_le (l : List V) (k : Nat) : totalV (l.take k) ≤ totalV l := by
 conv => rhs; rw [← List.take_append_drop k l]
 unfold totalV; rw [List.map_append, List.sum_append]; omega
theorem totalV_take_ge (l : List V) (k : Nat) : totalV (l.take k) + (l.length - k) ≤ totalV l := by
 have h2 : (l.drop k).length ≤ totalV (l.drop k) := by
  generalize l.drop k = m
  induction m with
  | nil => simp
  | cons a m ih => unfold totalV at ih ⊢; simp only [List.map_cons, List.sum_cons, List.length_cons]; omega
 have h3 : totalV l = totalV (l.take k) + totalV (l.drop k) := by
  conv => lhs; rw [← List.take_append_drop k l]
  unfold totalV; rw [List.map_append, List.sum_append]
 rw [List.length_drop] at h2
 omega
theorem totalV_len (l : List V) : l.length ≤ totalV l := by have := totalV_take_ge l 0; simp [totalV] at this ⊢; omega

set_option maxHeartbeats 1000000 in
theorem szVer_c (x : V) (left : Int) (w : World) (hs : x.k.size ≤ maxLen) (h0 : 0 ≤ left) (h1 : left ≤ 1048576) :
  Calls Try.prog 65 #[.agg #[.string x.k, .int .i64 x.n, .int .i64 x.f, .int .i64 x.t], .int .i64 left] w fun e w' => e = .returned (.int .i64 (szR left x.k.size)) ∧ Below w.heap.size w w' := by
 unfold maxLen at hs
 by_cases h : left < (x.k.size : Int)
 ·
  have hd : decide (left - (x.k.size : Int) < 0) = true := by simp; omega
  have HN := Lib.hid (szR_neg h)
  go_enter Try.func65, Try.ntmps65
  go_wp2
  go_ret
  exact ⟨ret_int HN.out.symm, (by (repeat (first | exact Below.refl _ _ | (refine Below.setCell ?_ (by simp <;> omega) _) | (refine Below.alloc ?_ (by simp <;> omega) _) | (refine Below.drew ?_))))⟩
 ·
  have hd : decide (left - (x.k.size : Int) < 0) = false := by simp; omega
  have HN := Lib.hid (szR_pos (left := left) (k := x.k.size) (by omega))
  go_enter Try.func65, Try.ntmps65
  go_wp2
  go_ret
  exact ⟨ret_int HN.out.symm, (by (repeat (first | exact Below.refl _ _ | (refine Below.setCell ?_ (by simp <;> omega) _) | (refine Below.alloc ?_ (by simp <;> omega) _) | (refine Below.drew ?_))))⟩

set_option maxRecDepth 100000 in
set_option maxHeartbeats 1000000 in
theorem szVerS_c (A : Option Addr) (c : Nat) (l : List V) (left : Int) (w : World) (hfit : FitVs l) (hc : l.length ≤ c) (hcm : c ≤ maxLen) (h0 : 0 ≤ left) (h1 : left ≤ 1048576) (hr : RdG w w.heap.size A l) :
  Calls Try.prog 52 #[.slice A l.length c, .int .i64 left] w fun e w' => e = .returned (.int .i64 (szR left (totalV l))) ∧ Below w.heap.size w w' := by
 unfold maxLen at hcm
 have htl := totalV_len l
 by_cases h : left < (l.length : Int)
 ·
  have hd : decide (left - (l.length : Int) < 0) = true := by simp; omega
  have HN := Lib.hid (szR_neg (left := left) (k := totalV l) (by omega))
  go_enter Try.func52, Try.ntmps52
  go_wp2
  go_ret
  exact ⟨ret_int HN.out.symm, Below.refl _ _⟩
 ·
  have hd : decide (left - (l.length : Int) < 0) = false := by simp; omega
  go_enter Try.func52, Try.ntmps52
  go_wp2
  go_loopw [1, 5] (fun lf i W => ∃ k : Nat, k ≤ l.length ∧ i = .int .i64 k ∧ ∃ z : Int, lf = .int .i64 z ∧ z = left - l.length - totalV (l.take k) + k ∧ 0 ≤ z ∧ z ≤ 1048576 ∧ Below w.heap.size w W) (fun _ i _ => l.length - (intOf i).toNat)
  case atStart => exact ⟨0, Nat.zero_le _, rfl, _, rfl, by simp [totalV], by omega, by omega, Below.refl _ _⟩
  case round =>
   obtain ⟨k, hk, rfl, z, rfl, hz, hz0, hz1, hb⟩ := hrel
   by_cases hkl : k < l.length
   ·
    obtain ⟨b, o, rfl, hbB, hc0, hc1, hc2, hc3⟩ := (hr.below hb).atV hkl
    have hs := (hfit _ (List.getElem_mem hkl)).1
    have ht := totalV_take_succ l k hkl
    have hge := totalV_take_ge l (k + 1)
    have HZ := Lib.hid hz
    have HT := Lib.hid ht
    clear hz ht
    by_cases hlo : z < (l[k].k.size : Int)
    ·
     go_wp2_with ((go_at_call 65; refine (szVer_c l[k] _ _ hs hz0 hz1).mono ?_; rintro e w' ⟨rfl, hb2⟩; rw [szR_neg hlo]))
     go_ret
     exact ⟨ret_int (szR_neg (by have := HZ.out; have := HT.out; omega)).symm, hb.trans (hb2.mono hb.size)⟩
    ·
     have hlo' : (l[k].k.size : Int) ≤ z := by omega
     go_wp2_with ((go_at_call 65; refine (szVer_c l[k] _ _ hs hz0 hz1).mono ?_; rintro e w' ⟨rfl, hb2⟩; rw [szR_pos hlo']))
     go_roundw
     case rel => exact ⟨k + 1, by omega, by go_num, _, rfl, by have := HZ.out; have := HT.out; omega, by omega, by omega, hb.trans (hb2.mono hb.size)⟩
     case measure => simp [intOf]; omega
   ·
    have hkk : k = l.length := by omega
    have HK := Lib.hid hkk
    have HZ := Lib.hid hz
    clear hkk hz
    go_wp2
    go_ret
    refine ⟨ret_int ?_, hb⟩
    have e1 := HZ.out
    rw [HK.out, List.take_length] at e1
    rw [szR_pos (by omega)]
    omega

open Classical in
noncomputable def eqV (a b : V) : Bool := decide (a = b)
theorem eqV_yes {a b : V} (h : a = b) : eqV a b = true := by unfold eqV; simp [h]
theorem eqV_no {a b : V} (h : a ≠ b) : eqV a b = false := by unfold eqV; simp [h]
theorem eqV_iff {a b : V} : eqV a b = true ↔ a = b := by unfold eqV; simp
open Classical in
noncomputable def eqVs (a b : List V) : Bool := decide (a = b)
theorem eqVs_yes {a b : List V} (h : a = b) : eqVs a b = true := by unfold eqVs; simp [h]
theorem eqVs_no {a b : List V} (h : a ≠ b) : eqVs a b = false := by unfold eqVs; simp [h]
theorem eqVs_iff {a b : List V} : eqVs a b = true ↔ a = b := by unfold eqVs; simp

set_option maxHeartbeats 1000000 in
theorem eqVer_c (x y : V) (w : World) :
  Calls Try.prog 62 #[.agg #[.string x.k, .int .i64 x.n, .int .i64 x.f, .int .i64 x.t], .agg #[.string y.k, .int .i64 y.n, .int .i64 y.f, .int .i64 y.t]] w fun e w' => e = .returned (.bool (eqV x y)) ∧ Below w.heap.size w w' := by
 by_cases h0 : x.k = y.k
 ·
  have b0 : (x.k.toList == y.k.toList) = true := by rw [h0]; simp
  have H0 := Lib.hid h0
  clear h0
  by_cases h1 : x.n = y.n
  ·
   have b1 : (x.n != y.n) = false := by simp [h1]
   have H1 := Lib.hid h1
   clear h1
   by_cases h2 : x.f = y.f
   ·
    have b2 : (x.f != y.f) = false := by simp [h2]
    have H2 := Lib.hid h2
    clear h2
    by_cases h3 : x.t = y.t
    ·
     have b3 : (x.t != y.t) = false := by simp [h3]
     have H3 := Lib.hid h3
     clear h3
     have HE := Lib.hid (eqV_yes (show x = y from by
      revert H0 H1 H2 H3
      clear b0 b1 b2 b3
      cases x; cases y
      intro H0 H1 H2 H3
      have e0 := H0.out
      have e1 := H1.out
      have e2 := H2.out
      have e3 := H3.out
      simp only at e0 e1 e2 e3
      subst e0 e1 e2 e3
      rfl))
     go_enter Try.func62, Try.ntmps62
     go_wp2
     go_ret
     exact ⟨ret_bool HE.out.symm, (by (repeat (first | exact Below.refl _ _ | (refine Below.setCell ?_ (by simp <;> omega) _) | (refine Below.alloc ?_ (by simp <;> omega) _) | (refine Below.drew ?_))))⟩
    ·
     have b3 : (x.t != y.t) = true := by simp [h3]
     have HE := Lib.hid (eqV_no (show x ≠ y from fun e => h3 (by rw [e])))
     go_enter Try.func62, Try.ntmps62
     go_wp2
     go_ret
     exact ⟨ret_bool HE.out.symm, (by (repeat (first | exact Below.refl _ _ | (refine Below.setCell ?_ (by simp <;> omega) _) | (refine Below.alloc ?_ (by simp <;> omega) _) | (refine Below.drew ?_))))⟩
   ·
    have b2 : (x.f != y.f) = true := by simp [h2]
    have HE := Lib.hid (eqV_no (show x ≠ y from fun e => h2 (by rw [e])))
    go_enter Try.func62, Try.ntmps62
    go_wp2
    go_ret
    exact ⟨ret_bool HE.out.symm, (by (repeat (first | exact Below.refl _ _ | (refine Below.setCell ?_ (by simp <;> omega) _) | (refine Below.alloc ?_ (by simp <;> omega) _) | (refine Below.drew ?_))))⟩
  ·
   have b1 : (x.n != y.n) = true := by simp [h1]
   have HE := Lib.hid (eqV_no (show x ≠ y from fun e => h1 (by rw [e])))
   go_enter Try.func62, Try.ntmps62
   go_wp2
   go_ret
   exact ⟨ret_bool HE.out.symm, (by (repeat (first | exact Below.refl _ _ | (refine Below.setCell ?_ (by simp <;> omega) _) | (refine Below.alloc ?_ (by simp <;> omega) _) | (refine Below.drew ?_))))⟩
 ·
  have b0 := str_ne h0
  have HE := Lib.hid (eqV_no (show x ≠ y from fun e => h0 (by rw [e])))
  go_enter Try.func62, Try.ntmps62
  go_wp2
  go_ret
  exact ⟨ret_bool HE.out.symm, (by (repeat (first | exact Below.refl _ _ | (refine Below.setCell ?_ (by simp <;> omega) _) | (refine Below.alloc ?_ (by simp <;> omega) _) | (refine Below.drew ?_))))⟩

set_option maxRecDepth 100000 in
set_option maxHeartbeats 1000000 in
theorem eqVerS_c (A A' : Option Addr) (c c' : Nat) (l l' : List V) (w : World) (hc : l.length ≤ 2097152) (hc' : l'.length ≤ 2097152) (hr : RdG w w.heap.size A l) (hr' : RdG w w.heap.size A' l') :
  Calls Try.prog 44 #[.slice A l.length c, .slice A' l'.length c'] w fun e w' => e = .returned (.bool (eqVs l l')) ∧ Below w.heap.size w w' := by
 by_cases hlen : l.length = l'.length
 ·
  have hne : ((l.length : Int) != (l'.length : Int)) = false := by simp [hlen]
  have HL := Lib.hid hlen
  have hle1 : l.length ≤ l'.length := by omega
  have hle2 : l'.length ≤ l.length := by omega
  clear hlen
  go_enter Try.func44, Try.ntmps44
  go_wp2
  go_loopw [5] (fun i W => ∃ k : Nat, k ≤ l.length ∧ i = .int .i64 k ∧ Below w.heap.size w W ∧ l.take k = l'.take k) (fun i _ => l.length - (intOf i).toNat)
  case atStart => exact ⟨0, Nat.zero_le _, rfl, Below.refl _ _, rfl⟩
  case round =>
   obtain ⟨k, hk, rfl, hb, ht⟩ := hrel
   have HT := Lib.hid ht
   clear ht
   by_cases hkl : k < l.length
   ·
    have hkl' : k < l'.length := by omega
    obtain ⟨b, o, rfl, hbB, hc0, hc1, hc2, hc3⟩ := (hr.below hb).atV hkl
    obtain ⟨b', o', rfl, hbB', hd0, hd1, hd2, hd3⟩ := (hr'.below hb).atV hkl'
    have hq : b < wr.heap.size := Nat.lt_of_lt_of_le hbB hb.size
    have hq' : b' < wr.heap.size := Nat.lt_of_lt_of_le hbB' hb.size
    cases he : eqV l[k] l'[k]
    ·
     have HN := Lib.hid (eqVs_no fun h : l = l' => by
      have e : eqV l[k] l'[k] = true := eqV_yes (by subst h; rfl)
      rw [he] at e; cases e)
     go_wp2
     go_region_held3 (fun W => W.cell? ⟨b, o + k * 4, none⟩ = some (.string l[k].k) ∧ W.cell? ⟨b, o + k * 4 + 1, none⟩ = some (.int .i64 l[k].n) ∧ W.cell? ⟨b, o + k * 4 + 2, none⟩ = some (.int .i64 l[k].f) ∧ W.cell? ⟨b, o + k * 4 + 3, none⟩ = some (.int .i64 l[k].t) ∧ W.cell? ⟨b', o' + k * 4, none⟩ = some (.string l'[k].k) ∧ W.cell? ⟨b', o' + k * 4 + 1, none⟩ = some (.int .i64 l'[k].n) ∧ W.cell? ⟨b', o' + k * 4 + 2, none⟩ = some (.int .i64 l'[k].f) ∧ W.cell? ⟨b', o' + k * 4 + 3, none⟩ = some (.int .i64 l'[k].t)) (first | exact ⟨hc0, hc1, hc2, hc3, hd0, hd1, hd2, hd3⟩ | exact ⟨(hb2.cell hq).trans hc0, (hb2.cell hq).trans hc1, (hb2.cell hq).trans hc2, (hb2.cell hq).trans hc3, (hb2.cell hq').trans hd0, (hb2.cell hq').trans hd1, (hb2.cell hq').trans hd2, (hb2.cell hq').trans hd3⟩)
      (first | (go_at_call 62; refine (eqVer_c l[k] l'[k] _).mono ?_; rintro e w' ⟨rfl, hb2⟩))
     go_wp2
     go_ret
     exact ⟨ret_bool HN.out.symm, hb.trans ((Below.drew (Below.refl _ _)).trans (hb2.mono hb.size))⟩
    ·
     have HE := Lib.hid (eqV_iff.1 he)
     go_wp2
     go_region_held3 (fun W => W.cell? ⟨b, o + k * 4, none⟩ = some (.string l[k].k) ∧ W.cell? ⟨b, o + k * 4 + 1, none⟩ = some (.int .i64 l[k].n) ∧ W.cell? ⟨b, o + k * 4 + 2, none⟩ = some (.int .i64 l[k].f) ∧ W.cell? ⟨b, o + k * 4 + 3, none⟩ = some (.int .i64 l[k].t) ∧ W.cell? ⟨b', o' + k * 4, none⟩ = some (.string l'[k].k) ∧ W.cell? ⟨b', o' + k * 4 + 1, none⟩ = some (.int .i64 l'[k].n) ∧ W.cell? ⟨b', o' + k * 4 + 2, none⟩ = some (.int .i64 l'[k].f) ∧ W.cell? ⟨b', o' + k * 4 + 3, none⟩ = some (.int .i64 l'[k].t)) (first | exact ⟨hc0, hc1, hc2, hc3, hd0, hd1, hd2, hd3⟩ | exact ⟨(hb2.cell hq).trans hc0, (hb2.cell hq).trans hc1, (hb2.cell hq).trans hc2, (hb2.cell hq).trans hc3, (hb2.cell hq').trans hd0, (hb2.cell hq').trans hd1, (hb2.cell hq').trans hd2, (hb2.cell hq').trans hd3⟩)
      (first | (go_at_call 62; refine (eqVer_c l[k] l'[k] _).mono ?_; rintro e w' ⟨rfl, hb2⟩))
     go_wp2
     go_roundw
     case rel => exact ⟨k + 1, by omega, by go_num, hb.trans ((Below.drew (Below.refl _ _)).trans (hb2.mono hb.size)), by rw [List.take_succ_eq_append_getElem hkl, List.take_succ_eq_append_getElem hkl', HT.out, HE.out]⟩
     case measure => simp [intOf]; omega
   ·
    have HN := Lib.hid (show k = l.length from by omega)
    go_wp2
    go_ret
    refine ⟨ret_bool (eqVs_yes ?_).symm, hb⟩
    have e := HT.out
    rw [HN.out, List.take_length, HL.out, List.take_length] at e
    exact e
 ·
  have hne : ((l.length : Int) != (l'.length : Int)) = true := by simp; omega
  have HL := Lib.hid hlen
  clear hlen
  go_enter Try.func44, Try.ntmps44
  go_wp2
  go_ret
  exact ⟨ret_bool (eqVs_no fun h => HL.out (congrArg List.length h)).symm, Below.refl _ _⟩

theorem eqVerOwn_c (v v' : Value) (l l' : List V) (base base' : Nat) (w : World) (h : OwnG w base v l) (h' : OwnG w base' v' l') (hl : l.length ≤ 2097152) (hl' : l'.length ≤ 2097152) :
  Calls Try.prog 44 #[v, v'] w fun e w' => e = .returned (.bool (eqVs l l')) ∧ Below w.heap.size w w' := by
 obtain ⟨A, c, rfl, _, _, hr⟩ := h.read
 obtain ⟨A', c', rfl, _, _, hr'⟩ := h'.read
 exact eqVerS_c A A' c c' l l' w hl hl' hr hr'

def markV (k : Nat) : V := ⟨mt k, (k : Int) + 1, (k : Int) + 2, (k : Int) + 3⟩

set_option maxRecDepth 100000 in
set_option maxHeartbeats 2000000 in
theorem markVerS_some (g n cap k : Nat) (cur : Array Value) (w : World) (hblk : Blk w g 94 cur) (hn : n ≤ cap) (hs : cur.size = cap * 4) (h0 : 0 < k) (hk : k + 4 * n ≤ 8388608) :
  Calls Try.prog 46 #[.slice (some ⟨g, 0, none⟩) n cap, .int .i64 k] w fun e w' => e = .returned (.int .i64 (k + 4 * n : Nat)) ∧
   ∃ cur', Blk w' g 94 cur' ∧ cur'.size = cap * 4 ∧ FillG (marksG markV n k) cur' n ∧ w.grownBy w' (some g) := by
 go_enter Try.func46, Try.ntmps46
 go_wp2
 go_loopw [1, 5] (fun kk i W => ∃ j : Nat, j ≤ n ∧ i = .int .i64 j ∧ kk = .int .i64 (k + 4 * j : Nat) ∧ ∃ cs : Array Value, Blk W g 94 cs ∧ cs.size = cap * 4 ∧ FillG (marksG markV n k) cs j ∧ w.grownBy W (some g)) (fun _ i _ => n - (intOf i).toNat)
 case atStart => exact ⟨0, Nat.zero_le _, rfl, rfl, cur, hblk, hs, FillG.zero _ _, World.grownBy.refl _ _⟩
 case round =>
  obtain ⟨j, hj, rfl, rfl, cs, hb, hsz, hcs, hg⟩ := hrel
  have HCS := Lib.hid hcs
  have HSZ := Lib.hid hsz
  clear hcs hsz
  by_cases hjn : j < n
  ·
   have HG := Lib.hid (marksG_get markV n k j hjn)
   have hs0 : j * 4 < cs.size := by rw [HSZ.out]; omega
   have hs1 : j * 4 + 1 < cs.size := by rw [HSZ.out]; omega
   have hs2 : j * 4 + 2 < cs.size := by rw [HSZ.out]; omega
   have hs3 : j * 4 + 3 < cs.size := by rw [HSZ.out]; omega
   have hkj : 0 < k + 4 * j := by omega
   have hkj2 : k + 4 * j + 4 ≤ 8388608 := by omega
   obtain ⟨K, HK⟩ : ∃ K, Hid (k + 4 * j = K) := ⟨_, Lib.hid rfl⟩
   rw [HK.out] at hkj hkj2 ⊢
   go_wp2_with ((go_at_call 33; refine (markText_c K _ hkj (by omega)).mono ?_; rintro e w' ⟨rfl, hb2⟩; have hblk2 := Lib.hid (hb.next hb2); have g0 : w'.cell? ⟨g, j * 4, none⟩ = some cs[j * 4] := by { rw [hblk2.out.cell]; exact Array.getElem?_eq_getElem hs0 }; have z0 := hblk2.out.free (j * 4); have g1 : w'.cell? ⟨g, j * 4 + 1, none⟩ = some cs[j * 4 + 1] := by { rw [hblk2.out.cell]; exact Array.getElem?_eq_getElem hs1 }; have z1 := hblk2.out.free (j * 4 + 1); have g2 : w'.cell? ⟨g, j * 4 + 2, none⟩ = some cs[j * 4 + 2] := by { rw [hblk2.out.cell]; exact Array.getElem?_eq_getElem hs2 }; have z2 := hblk2.out.free (j * 4 + 2); have g3 : w'.cell? ⟨g, j * 4 + 3, none⟩ = some cs[j * 4 + 3] := by { rw [hblk2.out.cell]; exact Array.getElem?_eq_getElem hs3 }; have z3 := hblk2.out.free (j * 4 + 3)))
   go_roundw
   case rel => exact ⟨j + 1, by omega, by go_num, by rw [← HK.out]; go_num, putC cs (j * 4) (csV (markV K)), ((((hblk2.out.set_ _ _).set_ _ _).set_ _ _).set_ _ _), (putC_size _ _ _).trans HSZ.out, by
    have e := HG.out
    rw [show k + Elt.wd V * j = K from HK.out] at e
    exact HCS.out.step (by rw [marksG_length]; exact hjn) (by rw [marksG_length, HSZ.out]; exact Nat.mul_le_mul_right _ (Nat.le_trans (Nat.le_refl _) hn)) _ e, (grown_set (grown_set (grown_set (grown_set (grown_call hg hb2) _) _) _) _)⟩
   case measure => simp [intOf]; omega
  ·
   have hjj : j = n := by omega
   subst hjj
   go_wp2
   go_ret
   exact ⟨ret_int (by omega), cs, hb, HSZ.out, HCS.out, hg⟩

set_option maxRecDepth 100000 in
set_option maxHeartbeats 1000000 in
theorem markVerS_nil (k : Nat) (w : World) :
  Calls Try.prog 46 #[.slice none 0 0, .int .i64 k] w fun e w' => e = .returned (.int .i64 k) ∧ w = w' := by
 go_enter Try.func46, Try.ntmps46
 go_wp2
 go_loop [1, 5] (fun kk i => kk = .int .i64 k ∧ i = .int .i64 0) (fun _ _ => 0)
 case atStart => exact ⟨rfl, rfl⟩
 case round =>
  obtain ⟨rfl, rfl⟩ := hrel
  go_wp2
  go_ret
  exact ⟨rfl, rfl⟩

theorem markV_c (v : Value) (l : List V) (base k : Nat) (w : World) (h : OwnG w base v l) (h0 : 0 < k) (hk : k + 4 * l.length ≤ 8388608) :
  Calls Try.prog 46 #[v, .int .i64 k] w fun e w' => e = .returned (.int .i64 (k + 4 * l.length : Nat)) ∧ OwnG w' base v (marksG markV l.length k) ∧ w.grownBy w' v.ownBlock := by
 rcases h.cases with ⟨rfl, rfl⟩ | ⟨g, cap, cur, rfl, hb, hblk, hl, hm, hs, ht⟩
 ·
  refine (markVerS_nil k w).mono ?_
  rintro e w' ⟨rfl, rfl⟩
  exact ⟨rfl, OwnG.nil _ _, World.grownBy.refl _ _⟩
 ·
  refine (markVerS_some g l.length cap k cur w hblk hl hs h0 hk).mono ?_
  rintro e w' ⟨rfl, cur', h1, h2, h3, h4⟩
  exact ⟨rfl, OwnG.of_fill _ (marksG_length _ _ _) hb h1 hl hm h2 h3, h4⟩

set_option maxRecDepth 100000 in
set_option maxHeartbeats 2000000 in
theorem heldVerS_c (A : Option Addr) (c n k : Nat) (w : World) (h0 : 0 < k) (hk : k + 4 * n ≤ 8388608) (hr : RdG w w.heap.size A (marksG markV n k)) :
  Calls Try.prog 49 #[.slice A n c, .int .i64 k] w fun e w' => e = .returned (.int .i64 (k + 4 * n : Nat)) ∧ Below w.heap.size w w' := by
 go_enter Try.func49, Try.ntmps49
 go_wp2
 go_loopw [1, 5] (fun kk i W => ∃ j : Nat, j ≤ n ∧ i = .int .i64 j ∧ kk = .int .i64 (k + 4 * j : Nat) ∧ Below w.heap.size w W) (fun _ i _ => n - (intOf i).toNat)
 case atStart => exact ⟨0, Nat.zero_le _, rfl, rfl, Below.refl _ _⟩
 case round =>
  obtain ⟨j, hj, rfl, rfl, hb⟩ := hrel
  by_cases hjn : j < n
  ·
   obtain ⟨b, o, hA, hbB, hcs⟩ := (hr.below hb) j _ (marksG_get markV n k j hjn)
   subst hA
   have hkj : 0 < k + 4 * j := by omega
   have hkj2 : k + 4 * j + 4 ≤ 8388608 := by omega
   have hq : b < wr.heap.size := Nat.lt_of_lt_of_le hbB hb.size
   obtain ⟨K, HK⟩ : ∃ K, Hid (k + 4 * j = K) := ⟨_, Lib.hid rfl⟩
   rw [show k + Elt.wd V * j = K from HK.out] at hcs
   rw [HK.out] at hkj hkj2 ⊢
   have hc0 : wr.cell? ⟨b, o + j * 4, none⟩ = some (.string (mt K)) := hcs 0 _ rfl
   have hc1 : wr.cell? ⟨b, o + j * 4 + 1, none⟩ = some (.int .i64 ((K : Int) + 1)) := hcs 1 _ rfl
   have hc2 : wr.cell? ⟨b, o + j * 4 + 2, none⟩ = some (.int .i64 ((K : Int) + 2)) := hcs 2 _ rfl
   have hc3 : wr.cell? ⟨b, o + j * 4 + 3, none⟩ = some (.int .i64 ((K : Int) + 3)) := hcs 3 _ rfl
   clear hcs
   have hbT : Below wr.heap.size wr wr.drew := (Below.refl _ _).drew
   go_wp2
   go_region_held3 (fun W => W.cell? ⟨b, o + j * 4, none⟩ = some (.string (mt K))) (first | exact hc0 | exact (hbT.cell hq).trans hc0)
    (first | (go_at_call 33; refine (markText_c K _ hkj (by omega)).mono ?_; rintro e w' ⟨rfl, hb2⟩; have hbT := hbT.trans (hb2.mono hbT.size); clear hb2))
   have hx1 := (hbT.cell (p := ⟨b, o + j * 4 + 1, none⟩) hq).trans hc1
   have hx2 := (hbT.cell (p := ⟨b, o + j * 4 + 2, none⟩) hq).trans hc2
   have hx3 := (hbT.cell (p := ⟨b, o + j * 4 + 3, none⟩) hq).trans hc3
   go_wp2
   go_roundw
   case rel => exact ⟨j + 1, by omega, by go_num, by rw [← HK.out]; go_num, hb.trans (hbT.mono hb.size)⟩
   case measure => simp [intOf]; omega
  ·
   have hjj : j = n := by omega
   subst hjj
   go_wp2
   go_ret
   exact ⟨rfl, hb⟩

theorem heldV_c (v : Value) (n base k : Nat) (w : World) (h : OwnG w base v (marksG markV n k)) (h0 : 0 < k) (hk : k + 4 * n ≤ 8388608) :
  Calls Try.prog 49 #[v, .int .i64 k] w fun e w' => e = .returned (.int .i64 (k + 4 * n : Nat)) ∧ Below w.heap.size w w' := by
 obtain ⟨A, c, rfl, _, _, hr⟩ := h.read
 rw [marksG_length]
 exact heldVerS_c A c n k w h0 hk hr

end Go.Proofs.Ytheblejlmlfddaa

namespace Go.Proofs.Ytheblejlmlfddaa
open Go.ChangeShapes Go.WideShapes Go.ChangeAt Go.RowKit Go.Deep
set_option linter.unusedVariables false
set_option maxRecDepth 100000

theorem cellsLawVer : Try.prog.cellsOf 113 = 4 := by kernel_rfl
theorem structLawVer : ∃ f0 f1 f2 f3 : Field, Try.prog.underlying 113 = some (.struct #[f0, f1, f2, f3]) ∧ f0.offset = 0 ∧ f0.type = 9 ∧ f1.offset = 1 ∧ f1.type = 3 ∧ f2.offset = 2 ∧ f2.type = 3 ∧ f3.offset = 3 ∧ f3.type = 3 := by
 have h := Try.underlying113
 exact ⟨_, _, _, _, h, rfl, rfl, rfl, rfl, rfl, rfl, rfl, rfl⟩
theorem oneVers : Try.prog.cellsOf 9 = 1 := by kernel_rfl
theorem oneVeri : Try.prog.cellsOf 3 = 1 := by kernel_rfl
theorem oneVerb : Try.prog.cellsOf 4 = 1 := by kernel_rfl

theorem decV {H : Type} {enc : TypeId × Value → H} {W : World} (n : Nat) (cs' : List Value) (x : DataW H × List MemPlace) (h : DataW.trod enc Try.prog W 0 (fun _ => true) true n 113 cs' = some x) :
  ∃ a : V, cs' = Elt.cs a ∧ FitV a := by
 obtain ⟨f0, f1, f2, f3, hs, o0, t0, o1, t1, o2, t2, o3, t3⟩ := structLawVer
 obtain ⟨xs, k, _, _, hl, hxl, hf⟩ := DataW.trod_struct hs h
 rw [cellsLawVer] at hl
 match xs, hxl, cs', hl with
 | [y0, y1, y2, y3], _, [v0, v1, v2, v3], _ =>
  have g0 := hf 0 f0 rfl
  rw [o0, t0, oneVers] at g0
  simp only [List.drop_zero, List.take_succ_cons, List.take_zero, List.getElem?_cons_zero] at g0
  obtain ⟨s0, e0, _, z0⟩ := DataW.trod_string Try.underlying9 g0
  simp only [List.cons.injEq, and_true] at e0
  subst e0
  have g1 := hf 1 f1 rfl
  rw [o1, t1, oneVeri] at g1
  simp only [List.drop_zero, List.drop_succ_cons, List.take_succ_cons, List.take_zero, List.getElem?_cons_zero, List.getElem?_cons_succ] at g1
  obtain ⟨s1, e1, _, z1⟩ := DataW.trod_int Try.underlying3 g1
  simp only [List.cons.injEq, and_true] at e1
  subst e1
  have g2 := hf 2 f2 rfl
  rw [o2, t2, oneVeri] at g2
  simp only [List.drop_zero, List.drop_succ_cons, List.take_succ_cons, List.take_zero, List.getElem?_cons_zero, List.getElem?_cons_succ] at g2
  obtain ⟨s2, e2, _, z2⟩ := DataW.trod_int Try.underlying3 g2
  simp only [List.cons.injEq, and_true] at e2
  subst e2
  have g3 := hf 3 f3 rfl
  rw [o3, t3, oneVeri] at g3
  simp only [List.drop_zero, List.drop_succ_cons, List.take_succ_cons, List.take_zero, List.getElem?_cons_zero, List.getElem?_cons_succ] at g3
  obtain ⟨s3, e3, _, z3⟩ := DataW.trod_int Try.underlying3 g3
  simp only [List.cons.injEq, and_true] at e3
  subst e3
  exact ⟨⟨s0, s1, s2, s3⟩, rfl, z0, (fitI_of z1).1, (fitI_of z1).2, (fitI_of z2).1, (fitI_of z2).2, (fitI_of z3).1, (fitI_of z3).2⟩

theorem openVerS {H : Type} {enc : TypeId × Value → H} {W : World} {fuel : Nat} {v : Value} {x : DataW H × List MemPlace} (h : DataW.trod enc Try.prog W 0 (fun _ => true) true fuel 40 [v] = some x) :
  ∃ (A : Option Addr) (c : Nat) (l : List V), v = .slice A l.length c ∧ l.length ≤ c ∧ c ≤ maxLen ∧ FitVs l ∧ RdG W W.heap.size A l :=
 openG Try.underlying40 cellsLawVer FitV decV h

theorem openArgVer {H : Type} {enc : TypeId × Value → H} {W : World} {r : Reach} {b0 : Nat} {v : Value} {d : DataW H} {p : List MemPlace}
  (hv : Value.okWide Try.prog W r b0 40 v) (h : DataW.Trod enc Try.prog W 0 (fun _ => true) true 40 v d p) :
  ∃ (A : Option Addr) (c : Nat) (l : List V), v = .slice A l.length c ∧ l.length ≤ c ∧ c ≤ maxLen ∧ FitVs l ∧ RdG W W.heap.size A l := by
 obtain ⟨a0, len0, cap0, rfl⟩ := okWide_slice Try.underlying40 hv
 obtain ⟨fuel, hf⟩ := h
 exact openVerS hf

end Go.Proofs.Ytheblejlmlfddaa

namespace Go.Proofs.Ytheblejlmlfddaa
open Go.ChangeShapes Go.WideShapes Go.ChangeAt Go.RowKit Go.Deep
set_option linter.unusedVariables false
set_option maxRecDepth 100000

theorem cellsLawVers : Try.prog.cellsOf 42 = 2 := by kernel_rfl
theorem oneVerS : Try.prog.cellsOf 40 = 1 := by kernel_rfl
theorem structLawVers : ∃ f0 f1 : Field, Try.prog.underlying 42 = some (.struct #[f0, f1]) ∧ f0.offset = 0 ∧ f0.type = 3 ∧ f1.offset = 1 ∧ f1.type = 40 := by
 have h := Try.underlying42
 exact ⟨_, _, h, rfl, rfl, rfl, rfl⟩
theorem openArgVers {H : Type} {enc : TypeId × Value → H} {W : World} {r : Reach} {b0 : Nat} {v : Value} {d : DataW H} {p : List MemPlace}
  (hv : Value.okWide Try.prog W r b0 42 v) (h : DataW.Trod enc Try.prog W 0 (fun _ => true) true 42 v d p) :
  ∃ (z : Int) (A : Option Addr) (c : Nat) (l : List V), v = .agg #[.int .i64 z, .slice A l.length c] ∧ FitI z ∧ l.length ≤ c ∧ c ≤ maxLen ∧ FitVs l ∧ RdG W W.heap.size A l := by
 obtain ⟨f0, f1, hs, o0, t0, o1, t1⟩ := structLawVers
 obtain ⟨cs, rfl, hsz⟩ := okWide_struct hs hv
 obtain ⟨fuel, hf⟩ := h
 obtain ⟨xs, k, _, _, hl, hxl, hf⟩ := DataW.trod_struct hs hf
 rw [cellsLawVers] at hl
 obtain ⟨cl⟩ := cs
 simp only [Value.cells] at hl hf
 match xs, hxl, cl, hl with
 | [y0, y1], _, [v0, v1], _ =>
  have g0 := hf 0 f0 rfl
  rw [o0, t0, oneVeri] at g0
  simp only [List.drop_zero, List.take_succ_cons, List.take_zero, List.getElem?_cons_zero] at g0
  obtain ⟨s0, e0, _, z0⟩ := DataW.trod_int Try.underlying3 g0
  simp only [List.cons.injEq, and_true] at e0
  subst e0
  have g1 := hf 1 f1 rfl
  rw [o1, t1, oneVerS] at g1
  simp only [List.drop_zero, List.drop_succ_cons, List.take_succ_cons, List.take_zero, List.getElem?_cons_zero, List.getElem?_cons_succ] at g1
  obtain ⟨A, c, l, rfl, h1, h2, h3, h4⟩ := openVerS g1
  exact ⟨s0, A, c, l, rfl, fitI_of z0, h1, h2, h3, h4⟩

set_option maxHeartbeats 1000000 in
theorem szVers_c (z : Int) (A : Option Addr) (c : Nat) (l : List V) (left : Int) (w : World) (hfit : FitVs l) (hc : l.length ≤ c) (hcm : c ≤ maxLen) (h0 : 0 ≤ left) (h1 : left ≤ 1048576) (hr : RdG w w.heap.size A l) :
  Calls Try.prog 34 #[.agg #[.int .i64 z, .slice A l.length c], .int .i64 left] w fun e w' => e = .returned (.int .i64 (szR left (totalV l))) ∧ Below w.heap.size w w' := by
 have hb0 : Below w.heap.size w (w.alloc (.cells #[.int .i64 z, .slice A l.length c] 42)) := below_alloc (Below.refl _ _) _
 by_cases h : left < (totalV l : Int)
 ·
  have HN := Lib.hid (szR_neg h)
  go_enter Try.func34, Try.ntmps34
  go_wp2_with fail
  refine (szVerS_c A c l left _ hfit hc hcm h0 h1 (hr.next hb0)).mono ?_
  rintro e w1 ⟨rfl, hb1⟩
  rw [HN.out]
  go_wp2
  go_ret
  exact ⟨ret_int HN.out.symm, below_next hb0 hb1⟩
 ·
  have HN := Lib.hid (szR_pos (left := left) (k := totalV l) (by omega))
  have hnn : decide (left - (totalV l : Int) < 0) = false := by simp; omega
  go_enter Try.func34, Try.ntmps34
  go_wp2_with fail
  refine (szVerS_c A c l left _ hfit hc hcm h0 h1 (hr.next hb0)).mono ?_
  rintro e w1 ⟨rfl, hb1⟩
  rw [HN.out]
  go_wp2
  go_ret
  exact ⟨ret_int HN.out.symm, below_next hb0 hb1⟩

/-- a Vers in memory of the call's own: its value, and what it holds -/
structure OwnS (w : World) (base : Nat) (v : Value) (z : Int) (l : List V) : Prop where
 ex : ∃ s, v = .agg #[.int .i64 z, s] ∧ OwnG w base s l

set_option maxRecDepth 100000 in
set_option maxHeartbeats 1000000 in
theorem toVers_c (z : Int) (A : Option Addr) (c : Nat) (l : List V) (w : World) (hc : l.length ≤ c) (hcm : l.length ≤ 1048576) (hr : RdG w w.heap.size A l) :
  Calls Try.prog 38 #[.agg #[.int .i64 z, .slice A l.length c]] w fun e w' => ∃ g, e = .returned (.agg #[.int .i64 z, .slice (some ⟨g, 0, none⟩) l.length l.length]) ∧ OwnG w' w.heap.size (.slice (some ⟨g, 0, none⟩) l.length l.length) l ∧ w.heap.size ≤ g ∧ g < w'.heap.size ∧ Below w.heap.size w w' := by
 go_enter Try.func38, Try.ntmps38
 go_wp2_with fail
 refine (toVerOwn_c A c l _ hc hcm (hr.next (by (repeat (first | exact Below.refl _ _ | (refine Below.setCell ?_ (by simp <;> omega) _) | (refine Below.alloc ?_ (by simp <;> omega) _)))))).mono ?_
 rintro e w1 ⟨g, rfl, hX, hg, hg', hb1⟩
 have h1 := (((blkA (w.alloc (.cells #[.int .i64 z, .slice A l.length c] 42)) #[.int .i64 0, .slice none 0 0] 24).alloc (.cells #[.int .i64 z, .slice none 0 0] 24))).next hb1
 have h2 := (blkA ((w.alloc (.cells #[.int .i64 z, .slice A l.length c] 42)).alloc (.cells #[.int .i64 0, .slice none 0 0] 24)) #[.int .i64 z, .slice none 0 0] 24).next hb1
 have hb0 : Below w.heap.size w (((w.alloc (.cells #[.int .i64 z, .slice A l.length c] 42)).alloc (.cells #[.int .i64 0, .slice none 0 0] 24)).alloc (.cells #[.int .i64 z, .slice none 0 0] 24)) := below_alloc (below_alloc (below_alloc (Below.refl _ _) _) _) _
 have hb := below_next hb0 hb1
 simp only [World.size_alloc] at h1 h2 hg hX
 clear hb1 hb0
 have c10 : w1.cell? ⟨w.heap.size + 1, 0, none⟩ = some (.int .i64 0) := by rw [h1.cell]; rfl
 have c11 : w1.cell? ⟨w.heap.size + 1, 1, none⟩ = some (.slice none 0 0) := by rw [h1.cell]; rfl
 have c20 : w1.cell? ⟨w.heap.size + 1 + 1, 0, none⟩ = some (.int .i64 z) := by rw [h2.cell]; rfl
 have c21 : w1.cell? ⟨w.heap.size + 1 + 1, 1, none⟩ = some (.slice none 0 0) := by rw [h2.cell]; rfl
 have f10 := h1.free 0
 have f11 := h1.free 1
 have f20 := h2.free 0
 have f21 := h2.free 1
 go_wp2
 refine bodyPost_ret (v := .agg #[.int .i64 z, .slice (some ⟨g, 0, none⟩) l.length l.length]) (by simp [results, Try.results38, go_sem, c10, c11]) rfl ⟨g, rfl, ?_, by omega, by simpa [World.setCell] using hg', ?_⟩
 ·
  have hne : ∀ k, k = w.heap.size + 1 ∨ k = w.heap.size + 1 + 1 → ∀ g', (Value.slice (some ⟨g, 0, none⟩) l.length l.length).ownBlock = some g' → g' ≠ k := by
   intro k hk g' hg'
   have : g = g' := Option.some.inj hg'
   omega
  exact ((((hX.setCell (hne _ (.inr rfl)) _).setCell (hne _ (.inl rfl)) _).setCell (hne _ (.inl rfl)) _)).low (by omega)
 ·
  exact ((hb.setCell (by simp <;> omega) _).setCell (by simp <;> omega) _).setCell (by simp <;> omega) _

/-- two are one -/
noncomputable def sameB (z z' : Int) (l l' : List V) : Bool := decide (z = z') && eqVs l l'
theorem sameB_refl (z : Int) (l : List V) : sameB z z l l = true := by unfold sameB; rw [eqVs_yes rfl]; simp
theorem sameB_iff {z z' : Int} {l l' : List V} : sameB z z' l l' = true ↔ z = z' ∧ l = l' := by unfold sameB; simp [eqVs_iff]

set_option maxHeartbeats 1000000 in
theorem eqVers_c (z z' : Int) (v v' : Value) (l l' : List V) (base base' : Nat) (w : World) (h : OwnG w base v l) (h' : OwnG w base' v' l') (hl : l.length ≤ 2097152) (hl' : l'.length ≤ 2097152) :
  Calls Try.prog 24 #[.agg #[.int .i64 z, v], .agg #[.int .i64 z', v']] w fun e w' => e = .returned (.bool (sameB z z' l l')) ∧ Below w.heap.size w w' := by
 obtain ⟨A, n, c, rfl⟩ := h.slice
 obtain ⟨A', n', c', rfl⟩ := h'.slice
 have hb0 : Below w.heap.size w ((w.alloc (.cells #[.int .i64 z, .slice A n c] 24)).alloc (.cells #[.int .i64 z', .slice A' n' c'] 24)) := below_alloc (below_alloc (Below.refl _ _) _) _
 by_cases hz : z = z'
 ·
  have hb : (z != z') = false := by simp [hz]
  have HE := Lib.hid (show sameB z z' l l' = eqVs l l' from by unfold sameB; simp [hz])
  clear hz
  cases he : eqVs l l'
  ·
   go_enter Try.func24, Try.ntmps24
   go_wp2_with fail
   refine (eqVerOwn_c _ _ l l' _ _ _ (h.next hb0) (h'.next hb0) hl hl').mono ?_
   rintro e w1 ⟨rfl, hb1⟩
   rw [he]
   go_wp2
   go_ret
   exact ⟨ret_bool (by rw [HE.out, he]), below_next hb0 hb1⟩
  ·
   go_enter Try.func24, Try.ntmps24
   go_wp2_with fail
   refine (eqVerOwn_c _ _ l l' _ _ _ (h.next hb0) (h'.next hb0) hl hl').mono ?_
   rintro e w1 ⟨rfl, hb1⟩
   rw [he]
   go_wp2
   go_ret
   exact ⟨ret_bool (by rw [HE.out, he]), below_next hb0 hb1⟩
 ·
  have hb : (z != z') = true := by simp [hz]
  have HE := Lib.hid (show sameB z z' l l' = false from by unfold sameB; simp [hz])
  clear hz
  go_enter Try.func24, Try.ntmps24
  go_wp2
  go_ret
  exact ⟨ret_bool HE.out.symm, hb0⟩

theorem grown_in {w w1 w2 : World} {row : Option Nat} (hb : Below w.heap.size w w1) (hg : w1.grownBy w2 row) : w.grownBy w2 row :=
 ⟨hg.os.trans hb.os, hg.tape.trans hb.tape, hg.output.trans hb.output, Nat.le_trans hb.size hg.size, fun k hk hne => (hg.block k (Nat.lt_of_lt_of_le hk hb.size) hne).trans (hb.block k hk)⟩

set_option maxHeartbeats 1000000 in
theorem markVers_c (z : Int) (v : Value) (l : List V) (base k : Nat) (w : World) (h : OwnG w base v l) (h0 : 0 < k) (hk : k + 4 * l.length ≤ 8388608) :
  Calls Try.prog 26 #[.agg #[.int .i64 z, v], .int .i64 k] w fun e w' => e = .returned (.int .i64 (k + 4 * l.length : Nat)) ∧ OwnG w' base v (marksG markV l.length k) ∧ w.grownBy w' v.ownBlock := by
 obtain ⟨A, n, c, rfl⟩ := h.slice
 have hb0 : Below w.heap.size w (w.alloc (.cells #[.int .i64 z, .slice A n c] 24)) := below_alloc (Below.refl _ _) _
 go_enter Try.func26, Try.ntmps26
 go_wp2_with fail
 refine (markV_c _ l base k _ (h.next hb0) h0 hk).mono ?_
 rintro e w1 ⟨rfl, hM, hg⟩
 go_wp2
 go_ret
 exact ⟨rfl, hM, grown_in hb0 hg⟩

set_option maxHeartbeats 1000000 in
theorem heldVers_c (z : Int) (v : Value) (n base k : Nat) (w : World) (h : OwnG w base v (marksG markV n k)) (h0 : 0 < k) (hk : k + 4 * n ≤ 8388608) :
  Calls Try.prog 28 #[.agg #[.int .i64 z, v], .int .i64 k] w fun e w' => e = .returned (.int .i64 (k + 4 * n : Nat)) ∧ Below w.heap.size w w' := by
 obtain ⟨A, n', c, rfl⟩ := h.slice
 have hb0 : Below w.heap.size w (w.alloc (.cells #[.int .i64 z, .slice A n' c] 24)) := below_alloc (Below.refl _ _) _
 go_enter Try.func28, Try.ntmps28
 go_wp2_with fail
 refine (heldV_c _ n base k _ (h.next hb0) h0 hk).mono ?_
 rintro e w1 ⟨rfl, hb1⟩
 obtain ⟨K, HK⟩ : ∃ K, Hid (k + 4 * n = K) := ⟨_, Lib.hid rfl⟩
 rw [HK.out]
 go_wp2
 go_ret
 exact ⟨ret_int (by rw [HK.out]), below_next hb0 hb1⟩

end Go.Proofs.Ytheblejlmlfddaa
