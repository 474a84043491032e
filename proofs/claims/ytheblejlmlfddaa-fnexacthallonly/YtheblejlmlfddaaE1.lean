/- Elements that lie in a fixed number of cells: how slices of them lie in memory, how they are made, appended and written.
Arguments that are slices of flat structs, or structs that hold one, opened.
Slices of Ver: how they lie in memory; the laws' own copies, sizes, comparisons and marks of them.
A struct Ver of the laws, read off its cells; a slice of them as an argument.
Vers: the laws' copies, sizes, comparisons and marks; the argument opened. -/
import Derived.Test.YtheblejlmlfddaaA2
import Derived.Test.YtheblejlmlfddaaRows
import Derived.ProofKit
import Derived.OpenShut
import Derived.ShutString
import Derived.ChangeOld
import Derived.Below
import Derived.Deep.SlicePairs
import Derived.Test.YtheblejlmlfddaaA4
import Derived.Deep.RegionHeld3
namespace Go.Proofs.Ytheblejlmlfddaa
open Go.RowKit
set_option linter.unusedVariables false

class Elt (α : Type) where
 T : TypeId
 wd : Nat
 byt : Nat
 zero : Value
 cs : α → List Value
 len : ∀ a, (cs a).length = wd
 pos : 0 < wd
 one : ∀ a, ∀ u ∈ cs a, u.oneCell' = true
 info : (Try.prog.info? T).map (fun i => (i.zero, i.size, i.bytes)) = some (some zero, wd, byt)
 zsize : zero.cells.size = wd
 small : byt ≤ 128

theorem blkA (w : World) (cs : Array Value) (t : TypeId) : Blk (w.alloc (.cells cs t)) w.heap.size t cs := heap_alloc_new w _
theorem Blk.alloc {w : World} {g : Nat} {t : TypeId} {cs : Array Value} (h : Blk w g t cs) (o : Obj) : Blk (w.alloc o) g t cs := h.next (below_alloc (Below.refl _ _) o)
theorem Blk.setOther {w : World} {g : Nat} {t : TypeId} {cs : Array Value} (h : Blk w g t cs) {a : Addr} (ha : g ≠ a.block) (u : Value) : Blk (w.setCell a u) g t cs := (Below.heap_setCell w a u g ha).trans h

theorem Blk.grown {w w' : World} {g : Nat} {t : TypeId} {cs : Array Value} {row : Option Nat} (h : Blk w g t cs) (hg : w.grownBy w' row) (hne : some g ≠ row) : Blk w' g t cs := (hg.block g h.lt hne).trans h
theorem rdOneAt (w : World) (g : Nat) (hg : w.heap.size = g) (key : ByteArray) (num : Int) (t : TypeId) : Rd (w.alloc (.cells #[.string key, .int .i64 num] t)) (w.alloc (.cells #[.string key, .int .i64 num] t)).heap.size (some ⟨g, 0, none⟩) [(key, num)] := by
 subst hg; exact rdOne w key num t

section
variable {α : Type} [E : Elt α]
open Elt

theorem infoG (α : Type) [E : Elt α] : ∃ i, Try.prog.info? (T α) = some i ∧ i.zero = some (zero α) ∧ i.size = wd α ∧ i.bytes = byt α := by
 have h := E.info
 cases hi : Try.prog.info? (T α) with
 | none => rw [hi] at h; cases h
 | some i =>
  rw [hi] at h
  simp only [Option.map_some, Option.some.injEq, Prod.mk.injEq] at h
  exact ⟨i, rfl, h.1, h.2.1, h.2.2⟩

def cellsG (l : List α) : List Value := l.flatMap cs
theorem cellsG_cons (a : α) (l : List α) : cellsG (a :: l) = cs a ++ cellsG l := rfl
theorem cellsG_append (a b : List α) : cellsG (a ++ b) = cellsG a ++ cellsG b := by simp [cellsG]
theorem cellsG_length (l : List α) : (cellsG l).length = l.length * wd α := by
 induction l with
 | nil => simp [cellsG]
 | cons a l ih => rw [cellsG_cons, List.length_append, len, ih, List.length_cons, Nat.add_mul]; omega
theorem cellsG_one (l : List α) : ∀ u ∈ cellsG l, u.oneCell' = true := by
 intro u hu
 obtain ⟨r, _, h⟩ := List.mem_flatMap.1 hu
 exact one r u h
theorem cellsG_get (l : List α) (i : Nat) (r : α) (h : l[i]? = some r) (j : Nat) (hj : j < wd α) : (cellsG l)[i * wd α + j]? = (cs r)[j]? := by
 induction l generalizing i with
 | nil => simp at h
 | cons a l ih =>
  rw [cellsG_cons]
  cases i with
  | zero => simp at h; subst h; rw [Nat.zero_mul, Nat.zero_add, List.getElem?_append_left (by rw [len]; exact hj)]
  | succ i => simp at h; rw [List.getElem?_append_right (by rw [len, Nat.add_mul]; omega), len, show (i + 1) * wd α + j - wd α = i * wd α + j from by rw [Nat.add_mul]; omega]; exact ih i h
theorem csG_lt {r : α} {j : Nat} {u : Value} (h : (cs r)[j]? = some u) : j < wd α := by
 have := (List.getElem?_eq_some_iff.1 h).1; rwa [len] at this
theorem cellsG_at (l : List α) (j : Nat) (u : Value) (h : (cellsG l)[j]? = some u) : ∃ r, l[j / wd α]? = some r ∧ (cs r)[j % wd α]? = some u := by
 have hj : j < l.length * wd α := by have := (List.getElem?_eq_some_iff.1 h).1; rwa [cellsG_length] at this
 have hi : j / wd α < l.length := Nat.div_lt_of_lt_mul (by rw [Nat.mul_comm]; exact hj)
 refine ⟨l[j / wd α], List.getElem?_eq_getElem hi, ?_⟩
 rw [← cellsG_get l _ _ (List.getElem?_eq_getElem hi) _ (Nat.mod_lt _ E.pos), Nat.div_add_mod']
 exact h

def RdG (w : World) (B : Nat) (A : Option Addr) (l : List α) : Prop :=
 ∀ i r, l[i]? = some r → ∃ b o, A = some ⟨b, o, none⟩ ∧ b < B ∧ ∀ j u, (cs r)[j]? = some u → w.cell? ⟨b, o + i * wd α + j, none⟩ = some u

variable {w w' : World} {B B' : Nat} {A : Option Addr} {l : List α}
theorem RdG.nil : RdG w B A ([] : List α) := fun i r h => by simp at h
theorem RdG.keep (h : RdG w B A l) (hk : ∀ b o, b < B → w'.cell? ⟨b, o, none⟩ = w.cell? ⟨b, o, none⟩) : RdG w' B A l := fun i r hi => by
 obtain ⟨b, o, e, hb, h1⟩ := h i r hi
 exact ⟨b, o, e, hb, fun j u hj => (hk _ _ hb).trans (h1 j u hj)⟩
theorem RdG.below (h : RdG w B A l) (hb : Below B w w') : RdG w' B A l := h.keep fun _ _ hp => hb.cell hp
theorem RdG.more (h : RdG w B A l) (hB : B ≤ B') : RdG w B' A l := fun i r hi => by
 obtain ⟨b, o, e, hb, h1⟩ := h i r hi
 exact ⟨b, o, e, by omega, h1⟩
theorem RdG.next (h : RdG w w.heap.size A l) (hb : Below w.heap.size w w') : RdG w' w'.heap.size A l := (h.below hb).more hb.size
theorem RdG.at_ (h : RdG w B A l) {i : Nat} (hi : i < l.length) : ∃ b o, A = some ⟨b, o, none⟩ ∧ b < B ∧ ∀ j u, (cs l[i])[j]? = some u → w.cell? ⟨b, o + i * wd α + j, none⟩ = some u :=
 h i l[i] (List.getElem?_eq_getElem hi)
theorem RdG.fix (h : RdG w B A l) {b o : Nat} (e : A = some ⟨b, o, none⟩) {i : Nat} (hi : i < l.length) : b < B ∧ ∀ j u, (cs l[i])[j]? = some u → w.cell? ⟨b, o + i * wd α + j, none⟩ = some u := by
 obtain ⟨b', o', e', hb, h1⟩ := h.at_ hi
 rw [e] at e'
 injection e' with e'
 injection e' with e1 e2
 subst e1 e2
 exact ⟨hb, h1⟩
theorem RdG.take (h : RdG w B A l) (k : Nat) : RdG w B A (l.take k) := fun i r hi => by
 rw [List.getElem?_take] at hi
 split at hi
 ·
  exact h i r hi
 ·
  cases hi
/-- where the slice xs[p:] begins -/
def cutG (α : Type) [E : Elt α] (A : Option Addr) (c p : Nat) : Option Addr := if c = p then A else A.map (·.add (p * wd α))
theorem RdG.drop (h : RdG w B A l) (k cap : Nat) (hc : l.length ≤ cap) : RdG w B (cutG α A cap k) (l.drop k) := fun i r hi => by
 rw [List.getElem?_drop] at hi
 have hl := (List.getElem?_eq_some_iff.1 hi).1
 unfold cutG
 rw [if_neg (by omega)]
 obtain ⟨b, o, rfl, hb, h1⟩ := h (k + i) r hi
 refine ⟨b, o + k * wd α, ?_, hb, fun j u hj => ?_⟩
 ·
  unfold Addr.add
  simp only [Option.map_some, Option.some.injEq]
  split
  ·
   rename_i h0; rw [h0]; rfl
  ·
   rfl
 ·
  rw [show o + k * wd α + i * wd α + j = o + (k + i) * wd α + j from by rw [Nat.add_mul]; omega]; exact h1 j u hj
theorem runCutG (t : TypeId) (ht : Try.prog.underlying t = some (.slice (T α))) (A : Option Addr) (n c p : Nat) (h1 : p ≤ n) (h2 : n ≤ c) (w : World) :
  (Instr.slice t (.slice A n c) (some (.int .i64 (p : Int))) none none).run Try.prog w = .ok (.slice (cutG α A c p) (n - p) (c - p)) w := by
 have i1 : (0 : Int) ≤ (p : Int) := by omega
 have i2 : (p : Int) ≤ (n : Int) := by omega
 obtain ⟨i, hi, _, hs, _⟩ := infoG α
 simp [go_sem, ht, i1, i2, cutG, sizeOf, typeInfo, hi, hs]
theorem RdG.cells {ad : Addr} (h : RdG w B (some ad) l) : ∀ j u, (cellsG l)[j]? = some u → w.cell? (ad.add j) = some u := by
 intro j u hu
 obtain ⟨r, hr, hv⟩ := cellsG_at l j u hu
 obtain ⟨b, o, e, _, h1⟩ := h _ r hr
 injection e with e
 subst e
 have ha : (⟨b, o, none⟩ : Addr).add j = ⟨b, o + j, none⟩ := by
  unfold Addr.add
  split
  ·
   rename_i h0; subst h0; rfl
  ·
   rfl
 rw [ha]
 have := h1 _ u hv
 rwa [Nat.add_assoc, Nat.div_add_mod'] at this

/-- elements in memory of the call's own -/
def OwnG (w : World) (base : Nat) (v : Value) (l : List α) : Prop := w.ownsRow base (T α) (wd α) v l.length (cellsG l)
theorem OwnG.cases {base : Nat} {v : Value} (h : OwnG w base v l) : (v = .slice none 0 0 ∧ l = []) ∨
  ∃ g cap cur, v = .slice (some ⟨g, 0, none⟩) l.length cap ∧ base ≤ g ∧ Blk w g (T α) cur ∧ l.length ≤ cap ∧ cap ≤ maxLen ∧ cur.size = cap * wd α ∧ cur.toList.take (l.length * wd α) = cellsG l := by
 rcases h.2 with ⟨h1, h2⟩ | ⟨g, cap, cur, h1, h2, h3, h4, h5, h6, h7⟩
 ·
  exact .inl ⟨h1, List.eq_nil_of_length_eq_zero h2⟩
 ·
  exact .inr ⟨g, cap, cur, h1, h2, h3, h4, h5, h6, h7⟩
theorem OwnG.nil (w : World) (base : Nat) : OwnG w base (.slice none 0 0) ([] : List α) := ⟨by simp [cellsG], .inl ⟨rfl, rfl⟩⟩
theorem OwnG.mk {base g cap : Nat} {cur : Array Value} (hb : base ≤ g) (h : Blk w g (T α) cur) (hl : l.length ≤ cap) (hc : cap ≤ maxLen) (hs : cur.size = cap * wd α)
  (ht : cur.toList.take (l.length * wd α) = cellsG l) : OwnG w base (.slice (some ⟨g, 0, none⟩) l.length cap) l := ⟨cellsG_length l, .inr ⟨g, cap, cur, rfl, hb, h, hl, hc, hs, ht⟩⟩
theorem OwnG.of_blk {base g : Nat} (hb : base ≤ g) (h : Blk w g (T α) (cellsG l).toArray) (hl : l.length ≤ maxLen) : OwnG w base (.slice (some ⟨g, 0, none⟩) l.length l.length) l :=
 OwnG.mk hb h (Nat.le_refl _) hl (by simp [cellsG_length]) (by rw [List.take_of_length_le]; simp [cellsG_length])
theorem take_get {cur : Array Value} {l : List α} (ht : cur.toList.take (l.length * wd α) = cellsG l) {i : Nat} {r : α} (hi : l[i]? = some r) {j : Nat} {u : Value} (hj : (cs r)[j]? = some u) : cur[i * wd α + j]? = some u := by
 have h1 := cellsG_get l i r hi j (csG_lt hj)
 have hil := (List.getElem?_eq_some_iff.1 hi).1
 have hlt : i * wd α + j < l.length * wd α := by
  have h1 := csG_lt hj
  have h2 : (i + 1) * wd α ≤ l.length * wd α := Nat.mul_le_mul_right _ hil
  rw [Nat.add_mul] at h2
  omega
 rw [← ht, List.getElem?_take_of_lt hlt, hj] at h1
 simpa using h1
theorem OwnG.read {base : Nat} {v : Value} (h : OwnG w base v l) : ∃ A c, v = .slice A l.length c ∧ l.length ≤ c ∧ c ≤ maxLen ∧ RdG w w.heap.size A l := by
 rcases h.cases with ⟨rfl, rfl⟩ | ⟨g, cap, cur, rfl, hb, hblk, hl, hm, hs, ht⟩
 ·
  exact ⟨none, 0, rfl, Nat.le_refl _, by unfold maxLen; omega, RdG.nil⟩
 ·
  refine ⟨_, cap, rfl, hl, hm, fun i r hi => ⟨g, 0, rfl, hblk.lt, fun j u hj => ?_⟩⟩
  rw [hblk.cell, Nat.zero_add]
  exact take_get ht hi hj
theorem OwnG.rd {base g n c : Nat} {a : Addr} (h : OwnG w base (.slice (some a) n c) l) : RdG w w.heap.size (some a) l := by
 obtain ⟨A, c', e, _, _, hr⟩ := h.read
 injection e with e1 e2 e3
 rw [e1]; exact hr
theorem OwnG.rd' {base n c : Nat} {A : Option Addr} (h : OwnG w base (.slice A n c) l) : n = l.length ∧ l.length ≤ c ∧ c ≤ maxLen ∧ RdG w w.heap.size A l := by
 obtain ⟨A, c', e, h1, h2, hr⟩ := h.read
 injection e with e1 e2 e3
 subst e1 e2 e3
 exact ⟨rfl, h1, h2, hr⟩
theorem OwnG.keep {base : Nat} {v : Value} (h : OwnG w base v l) (hk : ∀ g, v.ownBlock = some g → w'.heap[g]? = w.heap[g]?) : OwnG w' base v l := by
 rcases h.cases with ⟨rfl, rfl⟩ | ⟨g, cap, cur, rfl, hb, hblk, hl, hm, hs, ht⟩
 ·
  exact OwnG.nil _ _
 ·
  exact OwnG.mk hb ((hk g rfl).trans hblk) hl hm hs ht
theorem OwnG.block_lt {base : Nat} {v : Value} (h : OwnG w base v l) {g : Nat} (hg : v.ownBlock = some g) : base ≤ g ∧ g < w.heap.size := by
 rcases h.cases with ⟨rfl, rfl⟩ | ⟨g', cap, cur, rfl, hb, hblk, _⟩
 ·
  simp [Value.ownBlock] at hg
 ·
  have : g' = g := by simpa [Value.ownBlock] using hg
  subst this
  exact ⟨hb, hblk.lt⟩
theorem OwnG.next {base : Nat} {v : Value} (h : OwnG w base v l) (hb : Below w.heap.size w w') : OwnG w' base v l := h.keep fun g hg => hb.block g (h.block_lt hg).2
theorem OwnG.low {base base' : Nat} {v : Value} (h : OwnG w base v l) (hb : base' ≤ base) : OwnG w base' v l := by
 rcases h.cases with ⟨rfl, rfl⟩ | ⟨g, cap, cur, rfl, hb', hblk, hl, hm, hs, ht⟩
 ·
  exact OwnG.nil _ _
 ·
  exact OwnG.mk (by omega) hblk hl hm hs ht
theorem OwnG.cast' {base : Nat} {v : Value} {l' : List α} (h : OwnG w base v l) (e : l = l') : OwnG w base v l' := e ▸ h
theorem OwnG.alloc {base : Nat} {v : Value} (h : OwnG w base v l) (o : Obj) : OwnG (w.alloc o) base v l := World.ownsRow.alloc h o
theorem OwnG.kept {base : Nat} {v : Value} {row : Option Nat} (h : OwnG w base v l) (hg : w.grownBy w' row) (hne : ∀ g, v.ownBlock = some g → some g ≠ row) : OwnG w' base v l :=
 h.keep fun g hgv => hg.block g (h.block_lt hgv).2 (hne g hgv)
theorem OwnG.setCell {base : Nat} {v : Value} (h : OwnG w base v l) {a : Addr} (ha : ∀ g, v.ownBlock = some g → g ≠ a.block) (u : Value) : OwnG (w.setCell a u) base v l :=
 h.keep fun g hg => Below.heap_setCell w a u g (ha g hg)
theorem OwnG.fresh (w : World) (base : Nat) (hb : base ≤ w.heap.size) : OwnG (w.alloc (.cells #[] (T α))) base (.slice (some ⟨w.heap.size, 0, none⟩) 0 0) ([] : List α) :=
 OwnG.mk (l := []) hb (heap_alloc_new w _) (Nat.le_refl _) (by unfold maxLen; omega) (by simp) (by simp [cellsG])
theorem OwnG.ne_block {base g : Nat} {v : Value} (h : OwnG w base v l) (hg : g < base) : some g ≠ v.ownBlock := fun e => by have := (h.block_lt e.symm).1; omega
theorem OwnG.below {a w w' : World} {base : Nat} {v : Value} {l : List α} (h : OwnG w base v l) (hb : Below a.heap.size a w) (hg : w.grownBy w' v.ownBlock) (hle : a.heap.size ≤ base) : Below a.heap.size a w' :=
 hb.grown hg hb.size fun k hk => by have := (h.block_lt hk).1; omega
theorem OwnG.slice {base : Nat} {v : Value} (h : OwnG w base v l) : ∃ b n c, v = .slice b n c := by
 rcases h.cases with ⟨rfl, rfl⟩ | ⟨g, cap, cur, rfl, _⟩
 ·
  exact ⟨_, _, _, rfl⟩
 ·
  exact ⟨_, _, _, rfl⟩
theorem ownLowG {a W wc : World} {v : Value} (h : Below a.heap.size a W) (hown : OwnG wc W.heap.size v l) : OwnG wc a.heap.size v l := hown.low h.size
theorem belowAppG {a W w' : World} {v : Value} (h : Below a.heap.size a W) (hown : OwnG W a.heap.size v l) (hg : W.grownBy w' v.ownBlock) : Below a.heap.size a w' :=
 h.grown hg h.size fun k hk => (hown.block_lt hk).1

theorem runAppG (t t' ty e' : TypeId) (ht : Try.prog.underlying t = some (.slice (T α))) (ht' : Try.prog.underlying t' = some (.slice e')) (w : World) (base : Nat) (v : Value) (l : List α) (hown : OwnG w base v l)
  (A : Option Addr) (c B : Nat) (l2 : List α) (hr : RdG w B A l2) (hlen : l.length + l2.length ≤ 4194304) (hbase : base ≤ w.heap.size) :
  ∃ v' w', (Builtin.append_ #[t, t'] ty #[v, .slice A l2.length c]).run Try.prog w = .ok v' w' ∧ OwnG w' base v' (l ++ l2) ∧ w.grownBy w' v.ownBlock ∧ (v'.ownBlock = v.ownBlock ∨ v'.ownBlock = some w.heap.size) := by
 obtain ⟨i, hi, hz, hs, hb⟩ := infoG α
 have hty : (Builtin.append_ #[t, t'] ty #[v, .slice A l2.length c]).run Try.prog w = (Builtin.append_ #[t, t] ty #[v, .slice A l2.length c]).run Try.prog w := by
  obtain ⟨b, n, c', rfl⟩ := hown.slice
  exact app_types t t' ty _ _ i ht ht' hi b n c' A _ c w
 rw [hty]
 cases A with
 | none =>
  have h2 : l2 = [] := by
   cases l2 with
   | nil => rfl
   | cons r l2 =>
    obtain ⟨b, o, e, _⟩ := hr 0 r rfl
    cases e
  subst h2
  refine ⟨v, w, ?_, by simpa using hown, World.grownBy.refl _ _, .inl rfl⟩
  rcases hown.cases with ⟨rfl, rfl⟩ | ⟨g, cap, cur, rfl, _, _, hl, _⟩
  ·
   simp [Builtin.append_, run_underlying ht, sizeOf, typeInfo, hi, Builtin.lenOf, Builtin.firstCells]
  ·
   simp [Builtin.append_, run_underlying ht, sizeOf, typeInfo, hi, Builtin.lenOf, Builtin.firstCells, hl, storeCells]
 | some ad =>
  obtain ⟨v', w', h1, h2, h3, _, h5⟩ := run_append_own_at (P := Try.prog) w base t ty (T α) i (zero α) (wd α) (byt α) ht hi hz hs hb E.zsize E.pos v l.length (cellsG l) hown ad l2.length c (cellsG l2) (cellsG_length l2) hr.cells (cellsG_one l2)
   (by unfold maxLen; omega) (Nat.le_trans (Nat.mul_le_mul hlen E.small) (by omega)) hbase
  refine ⟨v', w', h1, ?_, h3, h5⟩
  unfold OwnG
  rw [cellsG_append, List.length_append]
  exact h2

theorem wp_appG {o : Oper} {a : Act} {K : Act → World → Prop} {Q : Exit → Act → World → Prop} (w : World) (s x : Operand) (t t' e' : TypeId)
  (ho : o.op = .call { callee := .builtin .append, args := #[s, x], argTypes := #[t, t'] }) (ht : Try.prog.underlying t = some (.slice (T α))) (ht' : Try.prog.underlying t' = some (.slice e'))
  (base : Nat) (v : Value) (l : List α) (hs : a.eval s = v) (hown : OwnG w base v l) (A : Option Addr) (c B n2 : Nat) (l2 : List α) (hn2 : l2.length = n2) (hx : a.eval x = .slice A n2 c) (hr : RdG w B A l2) (hlen : l.length + l2.length ≤ 4194304) (hbase : base ≤ w.heap.size)
  (h : ∀ v' w', OwnG w' base v' (l ++ l2) → w.grownBy w' v.ownBlock → (v'.ownBlock = v.ownBlock ∨ v'.ownBlock = some w.heap.size) → K (a.put o.dst v') w') : o.wp Try.prog a w K Q := by
 subst hn2
 obtain ⟨v', w', hrun, h2, h3, h4⟩ := runAppG t t' o.type e' ht ht' w base v l hown A c B l2 hr hlen hbase
 unfold Oper.wp execOp
 simp only [ho, resolve, invoke, builtin, Sem.run_bind, Sem.run_pure, Result.andThen_ok, List.map_toArray, List.map_cons, List.map_nil, hs, hx, hrun]
 exact h v' w' h2 h3 h4
theorem wpList_appG {ops : Array Oper} {rest : List Oper} {o : Oper} {a : Act} {Q : Exit → Act → World → Prop} (w : World) (hgd : o.guard = none) (s x : Operand) (t t' e' : TypeId)
  (ho : o.op = .call { callee := .builtin .append, args := #[s, x], argTypes := #[t, t'] }) (ht : Try.prog.underlying t = some (.slice (T α))) (ht' : Try.prog.underlying t' = some (.slice e'))
  (base : Nat) (v : Value) (l : List α) (hs : a.eval s = v) (hown : OwnG w base v l) (A : Option Addr) (c B n2 : Nat) (l2 : List α) (hn2 : l2.length = n2) (hx : a.eval x = .slice A n2 c) (hr : RdG w B A l2) (hlen : l.length + l2.length ≤ 4194304) (hbase : base ≤ w.heap.size)
  (h : ∀ v' w', OwnG w' base v' (l ++ l2) → w.grownBy w' v.ownBlock → (v'.ownBlock = v.ownBlock ∨ v'.ownBlock = some w.heap.size) → wpList Try.prog ops Q rest (a.put o.dst v') w') : wpList Try.prog ops Q (o :: rest) a w :=
 wpList_plain hgd fun _ hK => wp_appG w s x t t' e' ho ht ht' base v l hs hown A c B n2 l2 hn2 hx hr hlen hbase fun v' w' h2 h3 h4 => hK _ _ (h v' w' h2 h3 h4)
theorem step_appG {ops : Array Oper} {o : Oper} {a : Act} {K : Act → World → Prop} {Q : Exit → Act → World → Prop} {Z : Prop} (w : World) (hgd : o.guard = none) (s x : Operand) (t t' e' : TypeId)
  (ho : o.op = .call { callee := .builtin .append, args := #[s, x], argTypes := #[t, t'] }) (ht : Try.prog.underlying t = some (.slice (T α))) (ht' : Try.prog.underlying t' = some (.slice e'))
  (base : Nat) (v : Value) (l : List α) (hs : a.eval s = v) (hown : OwnG w base v l) (A : Option Addr) (c B n2 : Nat) (l2 : List α) (hn2 : l2.length = n2) (hx : a.eval x = .slice A n2 c) (hr : RdG w B A l2) (hlen : l.length + l2.length ≤ 4194304) (hbase : base ≤ w.heap.size)
  (h : ∀ v' w', OwnG w' base v' (l ++ l2) → w.grownBy w' v.ownBlock → (v'.ownBlock = v.ownBlock ∨ v'.ownBlock = some w.heap.size) → K (a.put o.dst v') w') :
  if Region.wanted o (yielded ops a.tmps) = true then Oper.wp Try.prog o a w K Q else Z := by
 have hw : Region.wanted o (yielded ops a.tmps) = true := by simp [Region.wanted, hgd]
 rw [if_pos hw]
 exact wp_appG w s x t t' e' ho ht ht' base v l hs hown A c B n2 l2 hn2 hx hr hlen hbase h

/-- one new element, as the call has just laid it -/
theorem rdOneG (w : World) (x : α) (us : Array Value) (t : TypeId) (hu : us.toList = cs x) : RdG (w.alloc (.cells us t)) (w.alloc (.cells us t)).heap.size (some ⟨w.heap.size, 0, none⟩) [x] := fun i r hi => by
 have h0 : i = 0 := by have := (List.getElem?_eq_some_iff.1 hi).1; simpa using this
 subst h0
 have : r = x := by simpa using hi.symm
 subst this
 refine ⟨w.heap.size, 0, rfl, by simp, fun j u hj => ?_⟩
 rw [World.cell?_alloc_at _ _ _ _ rfl]
 rw [← hu] at hj
 simpa using hj

theorem rdOneGAt (w : World) (g : Nat) (hg : w.heap.size = g) (x : α) (us : Array Value) (t : TypeId) (hu : us.toList = cs x) : RdG (w.alloc (.cells us t)) (w.alloc (.cells us t)).heap.size (some ⟨g, 0, none⟩) [x] := by
 subst hg; exact rdOneG w x us t hu

/-- a new array of n zero elements -/
def freshG (α : Type) [E : Elt α] (n : Nat) : Array Value := madeCells (zero α).cells (n * wd α)
theorem freshG_size (n : Nat) : (freshG α n).size = n * wd α := size_madeCells _ _
theorem mkG (t : TypeId) (ht : Try.prog.underlying t = some (.slice (T α))) (n c : Nat) (hn : n ≤ c) (hc : c ≤ 2097152) (w : World) : (Instr.makeSlice t (.int .i64 (n : Int)) (.int .i64 (c : Int))).run Try.prog w =
  .ok (.slice (some ⟨w.heap.size, 0, none⟩) n c) (w.alloc (.cells (freshG α c) (T α))) := by
 obtain ⟨i, hi, hz, hs, hb⟩ := infoG α
 have h1 : byt α * c ≤ 128 * 2097152 := Nat.mul_le_mul E.small hc
 have h := run_make (P := Try.prog) w t (T α) i _ ht hi hz .i64 .i64 (n : Int) (c : Int) (by omega) (by omega) (by rw [hb, ← Int.natCast_mul]; omega) (by omega)
 rw [hs] at h
 simp only [Int.toNat_natCast] at h
 exact h
theorem OwnG.made (w : World) (base c : Nat) (hb : base ≤ w.heap.size) (hc : c ≤ maxLen) : OwnG (w.alloc (.cells (freshG α c) (T α))) base (.slice (some ⟨w.heap.size, 0, none⟩) 0 c) ([] : List α) :=
 OwnG.mk (l := []) hb (heap_alloc_new w _) (Nat.zero_le _) hc (freshG_size c) (by simp [cellsG])

/-- the cells from k on are written -/
def putC (c : Array Value) (k : Nat) : List Value → Array Value
 | [] => c
 | u :: us => putC (c.setIfInBounds k u) (k + 1) us
theorem putC_size (us : List Value) : (c : Array Value) → (k : Nat) → (putC c k us).size = c.size := by
 induction us with
 | nil => intro c k; rfl
 | cons u us ih => intro c k; show (putC (c.setIfInBounds k u) (k + 1) us).size = _; rw [ih]; simp
theorem putC_out (us : List Value) : (c : Array Value) → (k j : Nat) → (j < k ∨ k + us.length ≤ j) → (putC c k us)[j]? = c[j]? := by
 induction us with
 | nil => intro c k j _; rfl
 | cons u us ih =>
  intro c k j h
  show (putC (c.setIfInBounds k u) (k + 1) us)[j]? = _
  rw [List.length_cons] at h
  rw [ih _ _ _ (by omega), Array.getElem?_setIfInBounds_ne (by omega)]
theorem putC_in (us : List Value) : (c : Array Value) → (k j : Nat) → (u : Value) → k + us.length ≤ c.size → us[j]? = some u → (putC c k us)[k + j]? = some u := by
 induction us with
 | nil => intro c k j u _ h; simp at h
 | cons v us ih =>
  intro c k j u hs h
  show (putC (c.setIfInBounds k v) (k + 1) us)[k + j]? = _
  rw [List.length_cons] at hs
  cases j with
  | zero =>
   rw [putC_out _ _ _ _ (by omega), Nat.add_zero, Array.getElem?_setIfInBounds_self_of_lt (by omega)]
   simpa using h
  | succ j => rw [show k + (j + 1) = k + 1 + j from by omega]; exact ih _ _ _ _ (by simp; omega) (by simpa using h)

/-- the first k elements of the list lie in these cells -/
def FillG (l : List α) (c : Array Value) (k : Nat) : Prop := ∀ j r, j < k → l[j]? = some r → ∀ m u, (cs r)[m]? = some u → c[j * wd α + m]? = some u
theorem FillG.zero (l : List α) (c : Array Value) : FillG l c 0 := fun j r h => absurd h (by omega)
theorem FillG.step {l : List α} {c : Array Value} {k : Nat} (h : FillG l c k) (hk : k < l.length) (hs : l.length * wd α ≤ c.size) (r0 : α) (hr0 : l[k]? = some r0) : FillG l (putC c (k * wd α) (cs r0)) (k + 1) := by
 intro j r hj hr m u hm
 have hml := csG_lt hm
 by_cases e : j = k
 ·
  subst e
  have : r0 = r := Option.some.inj (hr0.symm.trans hr)
  subst this
  refine putC_in _ _ _ _ _ ?_ hm
  rw [len]
  have h2 : (j + 1) * wd α ≤ l.length * wd α := Nat.mul_le_mul_right _ hk
  rw [Nat.add_mul] at h2
  omega
 ·
  rw [putC_out]
  ·
   exact h j r (by omega) hr m u hm
  ·
   left
   have h2 : (j + 1) * wd α ≤ k * wd α := Nat.mul_le_mul_right _ (by omega)
   rw [Nat.add_mul] at h2
   omega
theorem FillG.take {l : List α} {c : Array Value} (h : FillG l c l.length) (hs : l.length * wd α ≤ c.size) : c.toList.take (l.length * wd α) = cellsG l := by
 apply List.ext_getElem?
 intro j
 by_cases hj : j < l.length * wd α
 ·
  rw [List.getElem?_take_of_lt hj]
  have hi : j / wd α < l.length := Nat.div_lt_of_lt_mul (by rw [Nat.mul_comm]; exact hj)
  have hg : j < (cellsG l).length := by rw [cellsG_length]; exact hj
  rw [List.getElem?_eq_getElem hg]
  obtain ⟨r, hr, hu⟩ := cellsG_at l j _ (List.getElem?_eq_getElem hg)
  have := h (j / wd α) r hi hr _ _ hu
  rw [Nat.div_add_mod'] at this
  simpa using this
 ·
  rw [List.getElem?_eq_none (by rw [List.length_take]; omega), List.getElem?_eq_none (by rw [cellsG_length]; omega)]
theorem FillG.full {l : List α} {c : Array Value} (h : FillG l c l.length) (hs : c.size = l.length * wd α) : c = (cellsG l).toArray := by
 have e := h.take (by omega)
 rw [List.take_of_length_le (by simp [hs])] at e
 apply Array.ext'
 simpa using e

/-- the call returns elements in new memory -/
def RetG (w : World) (l : List α) (e : Ending) (w' : World) : Prop := ∃ v, e = .returned v ∧ OwnG w' w.heap.size v l ∧ Below w.heap.size w w'

end

/-- elements that are marked one behind the other -/
def marksG {α : Type} [Elt α] (f : Nat → α) (n k : Nat) : List α := (List.range n).map fun i => f (k + Elt.wd α * i)
theorem marksG_length {α : Type} [Elt α] (f : Nat → α) (n k : Nat) : (marksG f n k).length = n := by simp [marksG]
theorem marksG_get {α : Type} [Elt α] (f : Nat → α) (n k i : Nat) (h : i < n) : (marksG f n k)[i]? = some (f (k + Elt.wd α * i)) := by
 unfold marksG
 rw [List.getElem?_map, List.getElem?_range h]
 rfl
theorem OwnG.of_fill {α : Type} [Elt α] {w : World} {base g cap n : Nat} {cur : Array Value} (l : List α) (hn : l.length = n) (hb : base ≤ g) (h : Blk w g (Elt.T α) cur) (hl : n ≤ cap) (hc : cap ≤ maxLen) (hs : cur.size = cap * Elt.wd α) (hf : FillG l cur n) :
  OwnG w base (.slice (some ⟨g, 0, none⟩) n cap) l := by
 subst hn
 exact OwnG.mk hb h hl hc hs (hf.take (by rw [hs]; exact Nat.mul_le_mul_right _ hl))

end Go.Proofs.Ytheblejlmlfddaa

namespace Go.Proofs.Ytheblejlmlfddaa
open Go.ChangeShapes Go.WideShapes Go.ChangeAt Go.RowKit Go.Deep
set_option linter.unusedVariables false

theorem list_of {α : Type} {Q : Nat → α → Prop} : (n : Nat) → (∀ i, i < n → ∃ r, Q i r) → ∃ l : List α, l.length = n ∧ ∀ i r, l[i]? = some r → Q i r
 | 0, _ => ⟨[], rfl, fun i r h => by simp at h⟩
 | n + 1, h => by
  obtain ⟨l, hl, hq⟩ := list_of n fun i hi => h i (by omega)
  obtain ⟨r, hr⟩ := h n (by omega)
  refine ⟨l ++ [r], by simp [hl], fun i x hx => ?_⟩
  by_cases hi : i < l.length
  ·
   rw [List.getElem?_append_left hi] at hx
   exact hq i x hx
  ·
   rw [List.getElem?_append_right (by omega)] at hx
   have h0 : i - l.length = 0 := by have := (List.getElem?_eq_some_iff.1 hx).1; simp at this; omega
   rw [h0] at hx
   have e : r = x := by simpa using hx
   subst e
   rw [show i = n from by omega]
   exact hr

def FitI (z : Int) : Prop := -9223372036854775808 ≤ z ∧ z ≤ 9223372036854775807
theorem fitI_of {z : Int} (h : (Lit.int .i64 z).wf = true) : FitI z := by
 simpa [FitI, Lit.wf, IntKind.min, IntKind.max, IntKind.signed, IntKind.bits] using h

theorem openG {α : Type} [E : Elt α] {H : Type} {enc : TypeId × Value → H} {W : World} {t eL : TypeId} (ht : Try.prog.underlying t = some (.slice eL)) (hce : Try.prog.cellsOf eL = Elt.wd α) (Fit : α → Prop)
  (dec : ∀ n cs' x, DataW.trod enc Try.prog W 0 (fun _ => true) true n eL cs' = some x → ∃ a : α, cs' = Elt.cs a ∧ Fit a) {fuel : Nat} {v : Value} {x : DataW H × List MemPlace}
  (h : DataW.trod enc Try.prog W 0 (fun _ => true) true fuel t [v] = some x) :
  ∃ (A : Option Addr) (c : Nat) (l : List α), v = .slice A l.length c ∧ l.length ≤ c ∧ c ≤ maxLen ∧ (∀ r ∈ l, Fit r) ∧ RdG W W.heap.size A l := by
 rcases open_slice ht h with ⟨hcs, _⟩ | ⟨a, len, cap, m, n, D, Pl, hcs, hb, hl, hm, hmm, _, hx⟩
 ·
  simp only [List.cons.injEq, and_true] at hcs
  subst hcs
  exact ⟨none, 0, [], rfl, Nat.le_refl _, by unfold maxLen; omega, fun r hr => by simp at hr, RdG.nil⟩
 ·
  simp only [List.cons.injEq, and_true] at hcs
  subst hcs
  simp at hmm
  subst hmm
  by_cases h0 : len = 0
  ·
   subst h0
   exact ⟨some a, m, [], rfl, by simp, hm, fun r hr => by simp at hr, RdG.nil⟩
  obtain ⟨b, o, ha, hbl⟩ : ∃ b o, a = ⟨b, o, none⟩ ∧ b < W.heap.size := by
   obtain ⟨cs', h1, h2⟩ := hx 0 (by omega)
   obtain ⟨r, rfl, hf⟩ := dec _ _ _ h2
   rw [hce] at h1
   obtain ⟨_, hlen, hcell⟩ := World.cells?_some h1
   have g0 := hcell 0 E.pos
   have hp : 0 < (Elt.cs r).length := by rw [E.len]; exact E.pos
   rw [List.getElem?_eq_getElem hp, Nat.zero_mul] at g0
   obtain ⟨b, o, spot⟩ := a
   have hspot : spot = none := by simpa [Addr.add] using World.cell?_spot g0
   subst hspot
   have hbl : b < W.heap.size := by
    have := block_lt_of_cell g0
    simpa [Addr.add] using this
   exact ⟨b, o, rfl, hbl⟩
  subst ha
  obtain ⟨l, hll, hq⟩ := list_of (Q := fun i (r : α) => Fit r ∧ ∀ j u, (Elt.cs r)[j]? = some u → W.cell? ⟨b, o + i * Elt.wd α + j, none⟩ = some u) len fun i hi => by
   obtain ⟨cs', h1, h2⟩ := hx i (by omega)
   obtain ⟨r, rfl, hf⟩ := dec _ _ _ h2
   rw [hce] at h1
   obtain ⟨_, hlen, hcell⟩ := World.cells?_some h1
   refine ⟨r, hf, fun j u hj => ?_⟩
   have g := hcell j (csG_lt hj)
   rw [hj, add_add, add_plain] at g
   rw [Nat.add_assoc]
   exact g
  refine ⟨some ⟨b, o, none⟩, m, l, by rw [hll], by omega, hm, fun r hr => ?_, fun i r hi => ?_⟩
  ·
   obtain ⟨i, hi, rfl⟩ := List.getElem_of_mem hr
   exact (hq i _ (List.getElem?_eq_getElem hi)).1
  ·
   exact ⟨b, o, rfl, hbl, (hq i r hi).2⟩

end Go.Proofs.Ytheblejlmlfddaa
