/- The program's storage: its chains; chainOf.
The program's storageOf.
The program's snapshot: its iterator.
The program's snapshotsFit. -/
import Derived.Test.YtheblejlmlfddaaB1
import Derived.Test.YtheblejlmlfddaaA4
import Derived.RangeFuncNested
import Derived.RangeFuncBound
import Derived.RangeFuncCalls
import Derived.RangeFuncLeaves
import Derived.RangeFuncBox
import Derived.Shelf.Abstract
import Derived.Shelf.RegionOpen
import Derived.WalkKit
import Derived.OwnWalkIn
import Derived.TacticsInMore
import Derived.LoopNIn
import Derived.LoopIn
import Derived.Maps.AppendAt
import Derived.Stop.RegionWithIn
import Derived.Deep.RegionWith
import Derived.Deep.Cut
namespace Go.Proofs.Ytheblejlmlfddaa
open Go.RowKit
set_option linter.unusedVariables false
set_option maxRecDepth 100000

/-- two chains share no block -/
def Dis (a b : Ch) : Prop := ∀ x, a.has x → ¬ b.has x
structure Sto (w : World) (base s : Nat) (z : Int) (chs : List Ch) : Prop where
 blk : ∃ v, Blk w s 161 #[.int .i64 z, v] ∧ OwnG w base v (pts chs)
 cok : ∀ c ∈ chs, ChOk w c
 dis : chs.Pairwise Dis
 lo : base ≤ s
 los : ∀ c ∈ chs, ∀ b, c.has b → base ≤ b
/-- the keys ascend -/
def Asc (chs : List Ch) : Prop := chs.Pairwise fun a b => lt a.k b.k = true
theorem Asc.keys {chs : List Ch} (h : Asc chs) : AscP (keysR chs) := by
 intro i hi
 rw [keysR_length] at hi
 have := (List.pairwise_iff_getElem.1 h) i (i + 1) (by omega) hi (by omega)
 simpa [keysR] using this

theorem typesSC : (161 : TypeId) ≠ 165 := by decide
theorem typesSL : (161 : TypeId) ≠ 167 := by decide
theorem typesSP : (161 : TypeId) ≠ 162 := by decide
theorem typesCP : (165 : TypeId) ≠ 162 := by decide
theorem typesLP : (167 : TypeId) ≠ 162 := by decide

theorem ChOk.ne_of {w : World} {c : Ch} {g : Nat} {t : TypeId} {cs : Array Value} (h : ChOk w c) (hg : Blk w g t cs) (h1 : t ≠ 165) (h2 : t ≠ 167) : ∀ b, c.has b → b ≠ g := by
 intro b hb
 rcases hb with rfl | hb
 ·
  exact h.blk.ne hg h1.symm
 ·
  obtain ⟨x, hx, rfl⟩ := List.mem_map.1 hb
  obtain ⟨i, hi, rfl⟩ := List.getElem_of_mem hx
  exact (h.ls i _ (List.getElem?_eq_getElem hi)).ne hg h2.symm
theorem OwnG.blk_of {α : Type} [Elt α] {w : World} {base : Nat} {v : Value} {l : List α} (h : OwnG w base v l) {g : Nat} (hg : v.ownBlock = some g) : ∃ cs, Blk w g (Elt.T α) cs := by
 rcases h.cases with ⟨rfl, rfl⟩ | ⟨g', cap, cur, rfl, hb, hblk, _⟩
 ·
  simp [Value.ownBlock] at hg
 ·
  have : g' = g := by simpa [Value.ownBlock] using hg
  subst this
  exact ⟨cur, hblk⟩

section
variable {w w' : World} {base s : Nat} {z : Int} {chs : List Ch}
theorem Sto.lt (h : Sto w base s z chs) : s < w.heap.size := by obtain ⟨v, hb, _⟩ := h.blk; exact hb.lt
theorem Sto.next (h : Sto w base s z chs) (hb : Below w.heap.size w w') : Sto w' base s z chs := by
 obtain ⟨v, h1, h2⟩ := h.blk
 exact ⟨⟨v, h1.next hb, h2.next hb⟩, fun c hc => (h.cok c hc).next hb, h.dis, h.lo, h.los⟩
theorem Sto.key (h : Sto w base s z chs) (i : Nat) (hi : i < chs.length) : w.cell? ⟨chs[i].g, 0, none⟩ = some (.string chs[i].k) := by
 rw [(h.cok _ (List.getElem_mem hi)).blk.cell]; rfl
end

def RetOf (w : World) (base s : Nat) (z : Int) (chs : List Ch) (key : ByteArray) (e : Ending) (w' : World) : Prop :=
 ∃ L c R, e = .returned (.pointer (some ⟨c.g, 0, none⟩)) ∧ c.k = key ∧ Sto w' base s z (L ++ c :: R) ∧ Asc (L ++ c :: R) ∧ Chg (fun b => b = s) w w' ∧ (chs = L ++ c :: R ∨ (chs = L ++ R ∧ c.ls = []))

theorem split_has {chs : List Ch} {key : ByteArray} (h : hasB (keysR chs) key = true) : ∃ hp : posN (keysR chs) key < chs.length, chs[posN (keysR chs) key].k = key := by
 have hlt := hasB_lt h
 refine ⟨by rwa [keysR_length] at hlt, ?_⟩
 rw [hasB_at (posN_pos _ _) hlt] at h
 have := str_eq h
 simpa [keysR] using this
theorem split_new' {chs : List Ch} {key : ByteArray} (ha : Asc chs) (h : hasB (keysR chs) key = false) (g p : Nat) (hp : Pos (keysR chs) key p) : Asc (chs.take p ++ (⟨g, key, []⟩ : Ch) :: chs.drop p) := by
 have hle : p ≤ chs.length := by have := hp.le; rwa [keysR_length] at this
 have hlow : ∀ a ∈ chs.take p, lt a.k key = true := by
  intro a ha'
  obtain ⟨i, hi, rfl⟩ := List.getElem_of_mem ha'
  rw [List.length_take] at hi
  have := hp.low i (by rw [keysR_length]; omega) (by omega)
  simpa [keysR, List.getElem_take] using this
 have hhigh : ∀ b ∈ chs.drop p, lt key b.k = true := by
  intro b hb
  obtain ⟨i, hi, rfl⟩ := List.getElem_of_mem hb
  rw [List.length_drop] at hi
  rw [List.getElem_drop]
  have hpl : p < chs.length := by omega
  have h0 : lt chs[p].k key = false := by have := hp.at_ (by rw [keysR_length]; omega); simpa [keysR] using this
  have h1 : (chs[p].k.toList == key.toList) = false := by
   have := hasB_at hp (by rw [keysR_length]; omega)
   rw [h] at this
   simpa [keysR] using this.symm
  have hk : lt key chs[p].k = true := by
   cases e : lt key chs[p].k
   ·
    have e2 := lt_tri h0 e
    rw [e2] at h1
    simp at h1
   ·
    rfl
  by_cases hi0 : i = 0
  ·
   subst hi0; exact hk
  ·
   exact lt_trans hk ((List.pairwise_iff_getElem.1 ha) p (p + i) (by omega) (by omega) (by omega))
 unfold Asc
 rw [List.pairwise_append]
 refine ⟨List.Pairwise.sublist (List.take_sublist _ _) ha, List.pairwise_cons.2 ⟨hhigh, List.Pairwise.sublist (List.drop_sublist _ _) ha⟩, ?_⟩
 intro a ha' b hb
 rcases List.mem_cons.1 hb with rfl | hb
 ·
  exact hlow a ha'
 ·
  exact lt_trans (hlow a ha') (hhigh b hb)
theorem split_new {chs : List Ch} {key : ByteArray} (ha : Asc chs) (h : hasB (keysR chs) key = false) (g : Nat) : Asc (chs.take (posN (keysR chs) key) ++ (⟨g, key, []⟩ : Ch) :: chs.drop (posN (keysR chs) key)) :=
 split_new' ha h g _ (posN_pos _ _)

end Go.Proofs.Ytheblejlmlfddaa

namespace Go.Proofs.Ytheblejlmlfddaa
open Go.RowKit
set_option linter.unusedVariables false
set_option maxRecDepth 100000

/-- one chain has turned, in blocks of its own and new ones -/
theorem Sto.upd {w w' : World} {base s : Nat} {z : Int} {L R : List Ch} {c c' : Ch} (h : Sto w base s z (L ++ c :: R)) (hc : ChOk w' c') (hg : c'.g = c.g) (hch : Chg c.has w w') (hnew : ∀ b, c'.has b → c.has b ∨ w.heap.size ≤ b) : Sto w' base s z (L ++ c' :: R) := by
 obtain ⟨v, hB, hO⟩ := h.blk
 have hcc := h.cok c (by simp)
 have hpw := h.dis
 rw [List.pairwise_append, List.pairwise_cons] at hpw
 have hother : ∀ x, x ∈ L ∨ x ∈ R → ∀ b, x.has b → ¬ c.has b := by
  intro x hx b hb hb'
  rcases hx with hx | hx
  ·
   exact hpw.2.2 x hx c (by simp) b hb hb'
  ·
   exact hpw.2.1.1 x hx b hb' hb
 have hmem : ∀ x, x ∈ L ∨ x ∈ R → x ∈ L ++ c :: R := fun x hx => by rcases hx with hx | hx <;> simp [hx]
 refine ⟨⟨v, hB.chg hch fun hb => hcc.ne_of hB typesSC typesSL _ hb rfl, ?_⟩, ?_, ?_, h.lo, ?_⟩
 ·
  have e : pts (L ++ c' :: R) = pts (L ++ c :: R) := by simp [pts, hg]
  rw [e]
  refine hO.keep fun g hgo => ?_
  obtain ⟨cs, hbk⟩ := hO.blk_of hgo
  exact hch.block g hbk.lt fun hb => hcc.ne_of hbk typesCP.symm typesLP.symm _ hb rfl
 ·
  intro x hx
  rcases List.mem_append.1 hx with hx | hx
  ·
   exact (h.cok x (by simp [hx])).chg hch (hother x (.inl hx))
  ·
   rcases List.mem_cons.1 hx with rfl | hx
   ·
    exact hc
   ·
    exact (h.cok x (by simp [hx])).chg hch (hother x (.inr hx))
 ·
  rw [List.pairwise_append, List.pairwise_cons]
  refine ⟨hpw.1, ⟨fun x hx b hb hb' => ?_, hpw.2.1.2⟩, fun x hx y hy b hb hb' => ?_⟩
  ·
   rcases hnew b hb with h1 | h1
   ·
    exact hother x (.inr hx) b hb' h1
   ·
    have := (h.cok x (by simp [hx])).lt hb'; omega
  ·
   rcases List.mem_cons.1 hy with rfl | hy
   ·
    rcases hnew b hb' with h1 | h1
    ·
     exact hother x (.inl hx) b hb h1
    ·
     have := (h.cok x (by simp [hx])).lt hb; omega
   ·
    exact hpw.2.2 x hx y (by simp [hy]) b hb hb'
 ·
  intro x hx b hb
  rcases List.mem_append.1 hx with hx | hx
  ·
   exact h.los x (by simp [hx]) b hb
  ·
   rcases List.mem_cons.1 hx with rfl | hx
   ·
    rcases hnew b hb with h1 | h1
    ·
     exact h.los c (by simp) b h1
    ·
     have h2 := h.lo; have h3 := h.lt; omega
   ·
    exact h.los x (by simp [hx]) b hb
theorem Sto.far {w : World} {base s : Nat} {z : Int} {chs : List Ch} (h : Sto w base s z chs) {c : Ch} (hc : c ∈ chs) : ∀ b, c.has b → base ≤ b := h.los c hc

/-- the chains hold these versions, in their order -/
structure Cons (chs : List Ch) (l : List V) : Prop where
 flat : chs.flatMap Ch.vs = l
 each : ∀ c ∈ chs, c.vs ≠ [] ∧ ∀ x ∈ c.vs, x.k = c.k
 asc : Asc chs
theorem Cons.length {chs : List Ch} {l : List V} (h : Cons chs l) : chs.length ≤ l.length := by
 have h1 := h.each
 rw [← h.flat]
 clear h
 induction chs with
 | nil => simp
 | cons c chs ih =>
  have h2 := ih fun x hx => h1 x (by simp [hx])
  have h3 : 0 < c.vs.length := List.length_pos_iff.2 (h1 c (by simp)).1
  simp only [List.flatMap_cons, List.length_append, List.length_cons]
  omega
/-- the keys do not descend -/
def KeyLe (l : List V) : Prop := ∀ i (h : i + 1 < l.length), l[i].k = l[i + 1].k ∨ lt l[i].k l[i + 1].k = true
theorem KeyLe.le {l : List V} (h : KeyLe l) : ∀ j (hj : j < l.length) i (hi : i < j), (l[i]'(by omega)).k = l[j].k ∨ lt (l[i]'(by omega)).k l[j].k = true := by
 intro j
 induction j with
 | zero => intro hj i h; omega
 | succ j ih =>
  intro hj i hi
  by_cases e : i = j
  ·
   subst e; exact h i hj
  ·
   rcases ih (by omega) i (by omega) with h1 | h1 <;> rcases h j hj with h2 | h2
   ·
    exact .inl (h1.trans h2)
   ·
    right; rw [h1]; exact h2
   ·
    right; rw [← h2]; exact h1
   ·
    exact .inr (lt_trans h1 h2)

theorem cons_step {chs L R : List Ch} {c : Ch} {l : List V} {k g : Nat} (hl : KeyLe l) (hk : k < l.length) (hC : Cons chs (l.take k)) (hck : c.k = l[k].k) (hA : Asc (L ++ c :: R)) (hor : chs = L ++ c :: R ∨ (chs = L ++ R ∧ c.ls = [])) :
  Cons (L ++ (⟨c.g, c.k, c.ls ++ [⟨g, l[k]⟩]⟩ : Ch) :: R) (l.take (k + 1)) := by
 have hR : R = [] := by
  cases R with
  | nil => rfl
  | cons r R =>
   exfalso
   have hr : r ∈ chs := by rcases hor with rfl | ⟨rfl, _⟩ <;> simp
   have hlt : lt c.k r.k = true := by
    unfold Asc at hA
    rw [List.pairwise_append, List.pairwise_cons] at hA
    exact hA.2.1.1 r (by simp)
   obtain ⟨hne, hall⟩ := hC.each r hr
   obtain ⟨x, hx⟩ := List.exists_mem_of_ne_nil _ hne
   have hxk := hall x hx
   have hxl : x ∈ l.take k := by rw [← hC.flat]; exact List.mem_flatMap.2 ⟨r, hr, hx⟩
   obtain ⟨i, hi, rfl⟩ := List.getElem_of_mem hxl
   rw [List.length_take] at hi
   rw [List.getElem_take] at hxk
   rcases hl.le k hk i (by omega) with h1 | h1
   ·
    rw [← hxk, h1, hck, lt_irrefl] at hlt; cases hlt
   ·
    rw [hxk] at h1
    have := lt_trans hlt h1
    rw [hck, lt_irrefl] at this; cases this
 subst hR
 refine ⟨?_, ?_, ?_⟩
 ·
  rw [List.take_succ_eq_append_getElem hk, ← hC.flat]
  rcases hor with rfl | ⟨rfl, he⟩
  ·
   simp [Ch.vs]
  ·
   simp [Ch.vs, he]
 ·
  intro x hx
  rcases List.mem_append.1 hx with hx | hx
  ·
   exact hC.each x (by rcases hor with rfl | ⟨rfl, _⟩ <;> simp [hx])
  ·
   simp only [List.mem_singleton] at hx
   subst hx
   refine ⟨by simp [Ch.vs], fun y hy => ?_⟩
   simp only [Ch.vs, List.map_append, List.map_cons, List.map_nil, List.mem_append, List.mem_singleton] at hy
   rcases hy with hy | rfl
   ·
    rcases hor with rfl | ⟨rfl, he⟩
    ·
     exact (hC.each c (by simp)).2 y hy
    ·
     rw [he] at hy; simp at hy
   ·
    exact hck.symm
 ·
  unfold Asc at hA ⊢
  rw [List.pairwise_append] at hA ⊢
  refine ⟨hA.1, by simp, fun a ha b hb => ?_⟩
  simp only [List.mem_singleton] at hb
  subst hb
  exact hA.2.2 a ha c (by simp)

def RetSto (w : World) (z : Int) (l : List V) (e : Ending) (w' : World) : Prop := ∃ s chs, e = .returned (.pointer (some ⟨s, 0, none⟩)) ∧ Sto w' w.heap.size s z chs ∧ Cons chs l ∧ Below w.heap.size w w'

end Go.Proofs.Ytheblejlmlfddaa

namespace Go.Proofs.Ytheblejlmlfddaa
open Go.RowKit Go.Shelf
set_option linter.unusedVariables false
set_option maxRecDepth 100000
attribute [local go_sem] Oper.semAt_some

theorem grown_below {w w' : World} (hb : Below w.heap.size w w') : w.grownBy w' none := ⟨hb.os, hb.tape, hb.output, hb.size, fun k hk _ => hb.block k hk⟩
def encR (x : R) : Value := .agg #[.string x.1, .int .i64 x.2]
/-- what a round keeps: the blocks of T -/
def KpT (T : Nat → Prop) (W W' : World) : Prop := W.heap.size ≤ W'.heap.size ∧ ∀ k, T k → W'.heap[k]? = W.heap[k]?
theorem KpT.refl (T : Nat → Prop) (W : World) : KpT T W W := ⟨Nat.le_refl _, fun _ _ => rfl⟩
theorem KpT.trans {T : Nat → Prop} {A B C : World} (h : KpT T A B) (k : KpT T B C) : KpT T A C := ⟨Nat.le_trans h.1 k.1, fun i h1 => (k.2 i h1).trans (h.2 i h1)⟩
theorem KpT.mono {T T' : Nat → Prop} {W W' : World} (h : KpT T W W') (hs : ∀ k, T' k → T k) : KpT T' W W' := ⟨h.1, fun k hk => h.2 k (hs k hk)⟩
theorem KpT.below {T : Nat → Prop} {W W' : World} (hb : Below W.heap.size W W') (hn : ∀ k, T k → k < W.heap.size) : KpT T W W' := ⟨hb.size, fun k h2 => hb.block k (hn k h2)⟩
theorem Blk.kp {W W' : World} {T : Nat → Prop} {g : Nat} {t : TypeId} {cs : Array Value} (h : Blk W g t cs) (hk : KpT T W W') (h1 : T g) : Blk W' g t cs := (hk.2 g h1).trans h

theorem Sto.kp {w W' : World} {T : Nat → Prop} {n₀ s : Nat} {z : Int} {chs : List Ch} (h : Sto w n₀ s z chs) (hi : ∀ k, n₀ ≤ k → k < w.heap.size → T k) (hk : KpT T w W') : Sto W' n₀ s z chs := by
 obtain ⟨v, h1, h2⟩ := h.blk
 refine ⟨⟨v, h1.kp hk (hi _ h.lo h1.lt), h2.keep fun g hg => ?_⟩, fun c hc => ?_, h.dis, h.lo, h.los⟩
 ·
  have := h2.block_lt hg
  exact hk.2 g (hi g this.1 this.2)
 ·
  have hcc := h.cok c hc
  refine ⟨hcc.blk.kp hk (hi _ (h.los c hc _ (.inl rfl)) hcc.blk.lt), fun i x hx => ?_, hcc.nd⟩
  have hm : c.has x.g := .inr (List.mem_map.2 ⟨x, List.mem_of_getElem? hx, rfl⟩)
  exact (hcc.ls i x hx).kp hk (hi _ (h.los c hc _ hm) (hcc.lt hm))

/-- the rows of a time, chain by chain -/
def snapL (t : Int) (chs : List Ch) : List R := chs.filterMap fun c => (seen t c).map rowOf
theorem snapL_none {t : Int} {chs : List Ch} {j : Nat} (hj : j < chs.length) (h : seen t chs[j] = none) : snapL t (chs.take (j + 1)) = snapL t (chs.take j) := by
 rw [List.take_succ_eq_append_getElem hj]; unfold snapL; rw [List.filterMap_append]; simp [h]
theorem snapL_some {t : Int} {chs : List Ch} {j : Nat} {x : V} (hj : j < chs.length) (h : seen t chs[j] = some x) : snapL t (chs.take (j + 1)) = snapL t (chs.take j) ++ [(x.k, x.n)] := by
 rw [List.take_succ_eq_append_getElem hj]; unfold snapL; rw [List.filterMap_append]; simp [h, rowOf]
theorem snapL_length (t : Int) (chs : List Ch) : (snapL t chs).length ≤ chs.length := List.length_filterMap_le _ _

theorem yield_i {m l0 : Nat} {T : Nat → Prop} {args : Array Value} {W : World} {p q : World → Prop} (h : YieldAt Fence.wide m Try.prog l0 args W fun e W' => (e = .returned (.bool true) ∧ p W' ∧ KpT T W W') ∨ (e = .returned (.bool false) ∧ q W')) :
  YieldAt Fence.wide m Try.prog l0 args W fun e W' => ∃ t, e = .returned (.bool t) ∧ ((t = true ∧ p W' ∧ KpT T W W') ∨ (t = false ∧ q W')) := by
 obtain ⟨fn, tmps, assign, body, hy, hR⟩ := h
 refine ⟨fn, tmps, assign, body, hy, hR.mono ?_⟩
 rintro e w' (⟨rfl, h1, h2⟩ | ⟨rfl, h1⟩)
 ·
  exact ⟨true, rfl, .inl ⟨rfl, h1, h2⟩⟩
 ·
  exact ⟨false, rfl, .inr ⟨rfl, h1⟩⟩

theorem OwnG.kp {α : Type} [Elt α] {w W' : World} {T : Nat → Prop} {n₀ : Nat} {v : Value} {l : List α} (h : OwnG w n₀ v l) (hi : ∀ k, n₀ ≤ k → k < w.heap.size → T k) (hk : KpT T w W') : OwnG W' n₀ v l :=
 h.keep fun g hg => by have := h.block_lt hg; exact hk.2 g (hi g this.1 this.2)

end Go.Proofs.Ytheblejlmlfddaa

namespace Go.Proofs.Ytheblejlmlfddaa
open Go.RowKit Go.Shelf
set_option linter.unusedVariables false
set_option maxRecDepth 100000
attribute [local go_sem] Oper.semAt_some

def markD (D : Nat) : Deferred := { target := .collected D, args := #[] }
/-- a function leaves by its marks: each hands no call over -/
theorem leaves_marks {F : Fence} {n : Nat} {fn : Func} {tmps : Array Value} {R : Ending → World → Prop} (v : Value) (hres : ∀ w, (results fn tmps).run Try.prog w = .ok v w) (w0 : World) (hR : ∀ W, Below w0.heap.size w0 W → R (.returned v) W) :
  (ds : List Nat) → (W : World) → Below w0.heap.size w0 W → (∀ D ∈ ds, w0.heap.size ≤ D ∧ W.heap[D]? = some (.deferred (some []))) → ds.Nodup → LeavesInM F n Try.prog fn tmps R (ds.map markD) .returning W
 | [], W, hb, _, _ => ⟨v, hres W, hR W hb⟩
 | D :: ds, W, hb, hds, hnd => by
  obtain ⟨hD, hK⟩ := hds D (by simp)
  refine ⟨by simp, .inl ⟨D, _, rfl, run_takeDeferred hK, ?_⟩⟩
  have hbD := belowK_b (w := w0) (Nat.le_refl _) W D _ (.deferred none) hD hK rfl rfl
  rw [List.nodup_cons] at hnd
  refine leaves_marks v hres w0 hR ds _ (hb.trans hbD) (fun D' h' => ⟨(hds D' (by simp [h'])).1, ?_⟩) hnd.2
  have hne : D' ≠ D := by rintro rfl; exact hnd.1 h'
  rw [← (hds D' (by simp [h'])).2]
  simp [World.putObj, hne.symm]

open Classical in
noncomputable def fitB (z : Int) (chs : List Ch) : Bool := decide (∀ t : Int, 0 ≤ t → t ≤ z → (snapL t chs).length ≤ 10)
theorem fitB_no {z : Int} {chs : List Ch} {t : Int} (h0 : 0 ≤ t) (h1 : t ≤ z) (h : 10 < (snapL t chs).length) : fitB z chs = false := by
 unfold fitB; simp only [decide_eq_false_iff_not]; intro hh; have := hh t h0 h1; omega
theorem fitB_yes {z : Int} {chs : List Ch} (h : ∀ t : Int, 0 ≤ t → t ≤ z → (snapL t chs).length ≤ 10) : fitB z chs = true := by
 unfold fitB; simp only [decide_eq_true_eq]; exact h

/-- what the loop keeps: the count lies in its box, all else is as it was -/
def CntI (w2 : World) (cb : Nat) (pre : List R) (W : World) : Prop := Boxed W cb 3 (.int .i64 (pre.length : Int)) ∧ Chg (fun b => b = cb) w2 W
theorem cntI_own (w2 : World) (cb : Nat) (hcb : cb < w2.heap.size) : OwnFrom w2.heap.size (CntI w2 cb) := by
 rintro s W W' row ⟨hv, hc⟩ hg hr
 refine ⟨(hg.block cb hv.lt (fun e => by have := (hr cb e.symm).1; omega)).trans hv, ⟨hg.os.trans hc.os, hg.tape.trans hc.tape, hg.output.trans hc.output, Nat.le_trans hc.size hg.size, fun k hk hn => ?_⟩⟩
 exact (hg.block k (Nat.lt_of_lt_of_le hk hc.size) (fun e => by have := (hr k e.symm).1; omega)).trans (hc.block k hk hn)

theorem kpT_b {T : Nat → Prop} {w : World} (hT : ∀ k, T k → k < w.heap.size) (W : World) (l : Nat) (o o' : Obj) (hl : w.heap.size ≤ l) (h : W.heap[l]? = some o) (h1 : o.isCells = false) (h2 : o.isWalk = false) : KpT T W (W.putObj l o') := by
 have hb := belowK_b (w := w) (Nat.le_refl _) W l o o' hl h h1 h2
 exact ⟨hb.size, fun k hk => hb.block k (hT k hk)⟩

end Go.Proofs.Ytheblejlmlfddaa
