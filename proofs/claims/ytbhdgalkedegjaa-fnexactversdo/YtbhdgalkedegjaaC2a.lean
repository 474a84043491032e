/- The program's chains: how they lie in memory; add, end, at, last. -/
import Derived.Test.YtbhdgalkedegjaaS2a
import Derived.Test.YtbhdgalkedegjaaRg
import Derived.IntWalk
namespace Go.Proofs.Ytbhdgalkedegjaa
open Go.RowKit
set_option linter.unusedVariables false
set_option maxRecDepth 100000

/-- from w to w' the blocks of S alone may have turned; what is new is new -/
structure Chg (S : Nat → Prop) (w w' : World) : Prop where
  os : w'.os = w.os
  tape : w'.tape = w.tape
  output : w'.output = w.output
  size : w.heap.size ≤ w'.heap.size
  block : ∀ k, k < w.heap.size → ¬ S k → w'.heap[k]? = w.heap[k]?
section
variable {S S' : Nat → Prop} {w w' w'' : World} {g : Nat} {t : TypeId} {cs : Array Value}
theorem Chg.refl (S : Nat → Prop) (w : World) : Chg S w w := ⟨rfl, rfl, rfl, Nat.le_refl _, fun _ _ _ => rfl⟩
theorem Chg.alloc (h : Chg S w w') (o : Obj) : Chg S w (w'.alloc o) := ⟨h.os, h.tape, h.output, Nat.le_trans h.size (by simp), fun k hk hn => (Below.heap_alloc w' o k (Nat.lt_of_lt_of_le hk h.size)).trans (h.block k hk hn)⟩
theorem Chg.setCell (h : Chg S w w') {a : Addr} (ha : S a.block ∨ w.heap.size ≤ a.block) (u : Value) : Chg S w (w'.setCell a u) :=
  ⟨h.os, h.tape, h.output, by simpa [World.setCell] using h.size, fun k hk hn => (Below.heap_setCell w' a u k (by rintro rfl; rcases ha with ha | ha; exact hn ha; omega)).trans (h.block k hk hn)⟩
theorem Chg.below (h : Chg S w w') (hb : Below w'.heap.size w' w'') : Chg S w w'' :=
  ⟨hb.os.trans h.os, hb.tape.trans h.tape, hb.output.trans h.output, Nat.le_trans h.size hb.size, fun k hk hn => (hb.block k (Nat.lt_of_lt_of_le hk h.size)).trans (h.block k hk hn)⟩
theorem Chg.of_below (hb : Below w.heap.size w w') : Chg S w w' := (Chg.refl S w).below hb
theorem Chg.mono (h : Chg S w w') (hs : ∀ k, S k → S' k) : Chg S' w w' := ⟨h.os, h.tape, h.output, h.size, fun k hk hn => h.block k hk fun hk' => hn (hs k hk')⟩
theorem Chg.trans (h : Chg S w w') (k : Chg S' w' w'') (hs : ∀ b, b < w.heap.size → S' b → S b) : Chg S w w'' :=
  ⟨k.os.trans h.os, k.tape.trans h.tape, k.output.trans h.output, Nat.le_trans h.size k.size, fun b hb hn => (k.block b (Nat.lt_of_lt_of_le hb h.size) fun hb' => hn (hs b hb hb')).trans (h.block b hb hn)⟩
theorem Chg.toBelow {B : Nat} (h : Chg S w w') (hB : B ≤ w.heap.size) (hs : ∀ k, S k → B ≤ k) : Below B w w' := ⟨h.os, h.tape, h.output, h.size, fun k hk => h.block k (by omega) fun hk' => by have := hs k hk'; omega⟩
theorem Blk.chg (h : Blk w g t cs) (hc : Chg S w w') (hn : ¬ S g) : Blk w' g t cs := (hc.block g h.lt hn).trans h
theorem Blk.next' (h : Blk w g t cs) (hb : Below w.heap.size w w') : Blk w' g t cs := h.next hb
theorem Blk.cast {cs' : Array Value} (h : Blk w g t cs) (e : cs = cs') : Blk w g t cs' := e ▸ h
theorem blkAt (cs : Array Value) (t : TypeId) (hg : w.heap.size = g) : Blk (w.alloc (.cells cs t)) g t cs := by subst hg; exact blkA w cs t
theorem Blk.ne {g' : Nat} {t' : TypeId} {cs' : Array Value} (h : Blk w g t cs) (h' : Blk w g' t' cs') (hne : t ≠ t') : g ≠ g' := by
  rintro rfl
  have e := Option.some.inj (h.symm.trans h')
  injection e with e1 e2 e3
  exact hne e2
end

theorem nil_or_snoc {α : Type} (l : List α) : l = [] ∨ ∃ i y, l = i ++ [y] := by
  rcases List.eq_nil_or_concat l with h | ⟨i, y, h⟩
  · exact .inl h
  · exact .inr ⟨i, y, by rw [h, List.concat_eq_append]⟩

/-- a link: its block, and its version -/
structure Lk where
  g : Nat
  v : V
/-- a chain: its block, its key, its links -/
structure Ch where
  g : Nat
  k : ByteArray
  ls : List Lk
def ptrO (o : Option Nat) : Value := .pointer (o.map fun g => ⟨g, 0, none⟩)
def lkCells (x : V) (nx : Option Nat) : Array Value := #[.string x.k, .int .i64 x.n, .int .i64 x.f, .int .i64 x.t, ptrO nx]
def nextG (ls : List Lk) (i : Nat) : Option Nat := ls[i + 1]?.map Lk.g
def LksOk (w : World) (ls : List Lk) : Prop := ∀ i x, ls[i]? = some x → Blk w x.g 143 (lkCells x.v (nextG ls i))
def chCells (c : Ch) : Array Value := #[.string c.k, ptrO (c.ls.head?.map Lk.g), ptrO (c.ls.getLast?.map Lk.g)]
structure ChOk (w : World) (c : Ch) : Prop where
  blk : Blk w c.g 141 (chCells c)
  ls : LksOk w c.ls
  nd : (c.ls.map Lk.g).Nodup
/-- the blocks of a chain -/
def Ch.has (c : Ch) (b : Nat) : Prop := b = c.g ∨ b ∈ c.ls.map Lk.g
def Ch.vs (c : Ch) : List V := c.ls.map Lk.v

section
variable {w w' : World} {c : Ch} {S : Nat → Prop}
theorem ChOk.lt (h : ChOk w c) {b : Nat} (hb : c.has b) : b < w.heap.size := by
  rcases hb with rfl | hb
  · exact h.blk.lt
  · obtain ⟨x, hx, rfl⟩ := List.mem_map.1 hb
    obtain ⟨i, hi, rfl⟩ := List.getElem_of_mem hx
    exact (h.ls i _ (List.getElem?_eq_getElem hi)).lt
theorem ChOk.chg (h : ChOk w c) (hc : Chg S w w') (hn : ∀ b, c.has b → ¬ S b) : ChOk w' c :=
  ⟨h.blk.chg hc (hn _ (.inl rfl)), fun i x hx => (h.ls i x hx).chg hc (hn _ (.inr (List.mem_map.2 ⟨x, List.mem_of_getElem? hx, rfl⟩))), h.nd⟩
theorem ChOk.next (h : ChOk w c) (hb : Below w.heap.size w w') : ChOk w' c :=
  h.chg (Chg.of_below (S := fun _ => False) hb) fun _ _ h => h
theorem LksOk.get (h : LksOk w c.ls) {i : Nat} (hi : i < c.ls.length) : Blk w c.ls[i].g 143 (lkCells c.ls[i].v (nextG c.ls i)) := h i _ (List.getElem?_eq_getElem hi)
end

theorem blkTypes : (141 : TypeId) ≠ 143 := by decide

/-- a link more -/
theorem lks_add {w w' : World} {init : List Lk} {y z : Lk} (h : LksOk w (init ++ [y]))  (hold : ∀ x cs, x ∈ init → Blk w x.g 143 cs → Blk w' x.g 143 cs) (hy : Blk w' y.g 143 (lkCells y.v (some z.g))) (hz : Blk w' z.g 143 (lkCells z.v none)) : LksOk w' (init ++ [y] ++ [z]) := by
  intro i x hx
  rcases Nat.lt_trichotomy i init.length with hi | hi | hi
  · have hx0 : (init ++ [y])[i]? = some x := by rw [List.getElem?_append_left (by simp; omega)] at hx; exact hx
    have hxm : x ∈ init := by rw [List.getElem?_append_left hi] at hx0; exact List.mem_of_getElem? hx0
    have e : nextG (init ++ [y] ++ [z]) i = nextG (init ++ [y]) i := by unfold nextG; rw [List.getElem?_append_left (by simp; omega)]
    rw [e]
    exact hold x _ hxm (h i x hx0)
  · subst hi
    have e : x = y := by
      rw [List.getElem?_append_left (by simp), List.getElem?_append_right (Nat.le_refl _)] at hx
      simpa using hx.symm
    subst e
    have e2 : nextG (init ++ [x] ++ [z]) init.length = some z.g := by
      unfold nextG
      rw [List.getElem?_append_right (by simp)]
      simp
    rw [e2]; exact hy
  · have hl := (List.getElem?_eq_some_iff.1 hx).1
    have hi2 : i = init.length + 1 := by simp at hl; omega
    subst hi2
    have e : x = z := by
      rw [List.getElem?_append_right (by simp)] at hx
      simpa using hx.symm
    subst e
    have e2 : nextG (init ++ [y] ++ [x]) (init.length + 1) = none := by
      unfold nextG
      rw [List.getElem?_eq_none (by simp)]
      rfl
    rw [e2]; exact hz

/-- the chain has got a link more -/
def RetAdd (w : World) (c : Ch) (x : V) (e : Ending) (w' : World) : Prop := (∃ v, e = .returned v) ∧ ∃ g, w.heap.size ≤ g ∧ ChOk w' ⟨c.g, c.k, c.ls ++ [⟨g, x⟩]⟩ ∧ Chg c.has w w'

set_option maxHeartbeats 2000000 in
theorem add_c (c : Ch) (x : V) (w : World) (h : ChOk w c) :
    Calls Try.prog 109 #[.pointer (some ⟨c.g, 0, none⟩), .agg #[.string x.k, .int .i64 x.n, .int .i64 x.f, .int .i64 x.t]] w (RetAdd w c x) := by
  obtain ⟨cg, ck, ls⟩ := c
  have hlt := h.blk.lt
  have hblk := h.blk
  rcases nil_or_snoc ls with rfl | ⟨init, y, rfl⟩
  · have c1 : w.cell? ⟨cg, 1, none⟩ = some (.pointer none) := by rw [hblk.cell]; rfl
    have c2 : w.cell? ⟨cg, 2, none⟩ = some (.pointer none) := by rw [hblk.cell]; rfl
    have f1 := hblk.free 1
    have f2 := hblk.free 2
    go_enter Try.func109, Try.ntmps109
    go_wp2
    go_end0
    refine ⟨⟨_, rfl⟩, w.heap.size + 1, by omega, ⟨?_, ?_, by simp⟩, ?_⟩
    · exact ((((hblk.set_ 1 _).set_ 2 _).alloc _).alloc _).cast rfl
    · intro i y hy
      obtain ⟨rfl, rfl⟩ : i = 0 ∧ y = ⟨w.heap.size + 1, x⟩ := by
        have := (List.getElem?_eq_some_iff.1 hy).1
        simp at this
        subst this
        exact ⟨rfl, by simpa using hy.symm⟩
      exact blkAt _ _ (by simp [World.setCell])
    · exact ((((Chg.refl _ _).setCell (.inl (.inl rfl)) _).setCell (.inl (.inl rfl)) _).alloc _).alloc _
  · have hyb := h.ls init.length y (by simp)
    have hnx : nextG (init ++ [y]) init.length = none := by unfold nextG; rw [List.getElem?_eq_none (by simp)]; rfl
    rw [hnx] at hyb
    have c2 : w.cell? ⟨cg, 2, none⟩ = some (.pointer (some ⟨y.g, 0, none⟩)) := by rw [hblk.cell]; simp [chCells, ptrO]
    have f2 := hblk.free 2
    have c4 : w.cell? ⟨y.g, 4, none⟩ = some (.pointer none) := by rw [hyb.cell]; rfl
    have f4 := hyb.free 4
    have hne : y.g ≠ cg := hyb.ne hblk blkTypes.symm
    have hylt := hyb.lt
    have hin : ∀ z ∈ init, z.g ≠ y.g := by
      intro z hz e
      have := h.nd
      rw [List.map_append, List.nodup_append] at this
      exact this.2.2 _ (List.mem_map.2 ⟨z, hz, rfl⟩) y.g (by simp) e
    go_enter Try.func109, Try.ntmps109
    go_wp2
    go_end0
    have hmem : (⟨cg, ck, init ++ [y]⟩ : Ch).has y.g := .inr (by simp)
    have hch : Chg (⟨cg, ck, init ++ [y]⟩ : Ch).has w _ := ((((Chg.refl _ w).setCell (a := ⟨y.g, 4, none⟩) (.inl hmem) (.pointer (some ⟨w.heap.size + 1, 0, none⟩))).setCell (a := ⟨cg, 2, none⟩) (.inl (.inl rfl)) (.pointer (some ⟨w.heap.size + 1, 0, none⟩))).alloc (.cells #[.string x.k, .int .i64 x.n, .int .i64 x.f, .int .i64 x.t] 68)).alloc (.cells #[.string x.k, .int .i64 x.n, .int .i64 x.f, .int .i64 x.t, .pointer none] 143)
    refine ⟨⟨_, rfl⟩, w.heap.size + 1, by omega, ⟨?_, ?_, ?_⟩, hch⟩
    · refine ((((hblk.setOther (a := ⟨y.g, 4, none⟩) hne.symm _).set_ 2 _).alloc _).alloc _).cast ?_
      unfold chCells
      have e1 : (init ++ [y] ++ [(⟨w.heap.size + 1, x⟩ : Lk)]).head? = (init ++ [y]).head? := by cases init <;> rfl
      simp only [e1, List.getLast?_concat]
      rfl
    · refine lks_add (w := w) h.ls (fun z cs hz hb => ?_) ?_ ?_
      · refine (((hb.setOther (a := ⟨y.g, 4, none⟩) (hin z hz) _).setOther (a := ⟨cg, 2, none⟩) (hb.ne hblk blkTypes.symm) _).alloc _).alloc _
      · exact ((((hyb.set_ 4 _).setOther (a := ⟨cg, 2, none⟩) hne _).alloc _).alloc _).cast rfl
      · exact blkAt _ _ (by simp [World.setCell])
    · rw [List.map_append, List.nodup_append]
      refine ⟨h.nd, by simp, fun a ha b hb e => ?_⟩
      have h1 := h.lt (.inr ha)
      simp at hb
      omega

/-- the newest version ends, if it still stands -/
def endV (t : Int) (x : V) : V := if x.t = 0 then ⟨x.k, x.n, x.f, t⟩ else x
def endLk (t : Int) (ls : List Lk) : List Lk := match ls.getLast? with | none => ls | some y => ls.dropLast ++ [⟨y.g, endV t y.v⟩]
theorem endLk_snoc (t : Int) (init : List Lk) (y : Lk) : endLk t (init ++ [y]) = init ++ [⟨y.g, endV t y.v⟩] := by unfold endLk; simp
def RetEnd (w : World) (c : Ch) (t : Int) (e : Ending) (w' : World) : Prop := (∃ v, e = .returned v) ∧ ChOk w' ⟨c.g, c.k, endLk t c.ls⟩ ∧ Chg c.has w w'

theorem lks_last {w w' : World} {init : List Lk} {y : Lk} (x : V) (h : LksOk w (init ++ [y]))
    (hold : ∀ x cs, x ∈ init → Blk w x.g 143 cs → Blk w' x.g 143 cs) (hy : Blk w' y.g 143 (lkCells x none)) : LksOk w' (init ++ [⟨y.g, x⟩]) := by
  intro i z hz
  by_cases hi : i < init.length
  · have hz0 : (init ++ [y])[i]? = some z := by rw [List.getElem?_append_left hi] at hz ⊢; exact hz
    have hzm : z ∈ init := by rw [List.getElem?_append_left hi] at hz; exact List.mem_of_getElem? hz
    have e : nextG (init ++ [(⟨y.g, x⟩ : Lk)]) i = nextG (init ++ [y]) i := by
      unfold nextG
      by_cases h1 : i + 1 < init.length
      · rw [List.getElem?_append_left h1, List.getElem?_append_left h1]
      · rw [List.getElem?_append_right (by omega), List.getElem?_append_right (by omega), show i + 1 - init.length = 0 from by omega]; rfl
    rw [e]
    exact hold z _ hzm (h i z hz0)
  · have hl := (List.getElem?_eq_some_iff.1 hz).1
    have hi2 : i = init.length := by simp at hl; omega
    subst hi2
    have e : z = ⟨y.g, x⟩ := by
      rw [List.getElem?_append_right (Nat.le_refl _)] at hz
      simpa using hz.symm
    subst e
    have e2 : nextG (init ++ [(⟨y.g, x⟩ : Lk)]) init.length = none := by unfold nextG; rw [List.getElem?_eq_none (by simp)]; rfl
    rw [e2]; exact hy

set_option maxHeartbeats 2000000 in
theorem end_c (c : Ch) (t : Int) (w : World) (h : ChOk w c) :
    Calls Try.prog 123 #[.pointer (some ⟨c.g, 0, none⟩), .int .i64 t] w (RetEnd w c t) := by
  obtain ⟨cg, ck, ls⟩ := c
  have hlt := h.blk.lt
  have hblk := h.blk
  rcases nil_or_snoc ls with rfl | ⟨init, y, rfl⟩
  · have c2 : w.cell? ⟨cg, 2, none⟩ = some (.pointer none) := by rw [hblk.cell]; rfl
    go_enter Try.func123, Try.ntmps123
    go_wp2
    go_end0
    exact ⟨⟨_, rfl⟩, h, Chg.refl _ _⟩
  · have hyb := h.ls init.length y (by simp)
    have hnx : nextG (init ++ [y]) init.length = none := by unfold nextG; rw [List.getElem?_eq_none (by simp)]; rfl
    rw [hnx] at hyb
    have c2 : w.cell? ⟨cg, 2, none⟩ = some (.pointer (some ⟨y.g, 0, none⟩)) := by rw [hblk.cell]; simp [chCells, ptrO]
    have c3 : w.cell? ⟨y.g, 3, none⟩ = some (.int .i64 y.v.t) := by rw [hyb.cell]; rfl
    have f3 := hyb.free 3
    have hne : y.g ≠ cg := hyb.ne hblk blkTypes.symm
    have hin : ∀ z ∈ init, z.g ≠ y.g := by
      intro z hz e
      have := h.nd
      rw [List.map_append, List.nodup_append] at this
      exact this.2.2 _ (List.mem_map.2 ⟨z, hz, rfl⟩) y.g (by simp) e
    by_cases ht : y.v.t = 0
    · have hd : (y.v.t == 0) = true := by simp [ht]
      have HE := Lib.hid (show endLk t (init ++ [y]) = init ++ [⟨y.g, ⟨y.v.k, y.v.n, y.v.f, t⟩⟩] from by rw [endLk_snoc]; unfold endV; rw [if_pos ht])
      clear ht
      go_enter Try.func123, Try.ntmps123
      go_wp2
      go_end0
      refine ⟨⟨_, rfl⟩, ?_, (Chg.refl _ _).setCell (.inl (.inr (by simp))) _⟩
      show ChOk _ ⟨cg, ck, endLk t (init ++ [y])⟩
      rw [HE.out]
      refine ⟨?_, ?_, ?_⟩
      · refine (hblk.setOther (a := ⟨y.g, 3, none⟩) hne.symm _).cast ?_
        unfold chCells
        have e1 : ((init ++ [(⟨y.g, ⟨y.v.k, y.v.n, y.v.f, t⟩⟩ : Lk)]).head?).map Lk.g = ((init ++ [y]).head?).map Lk.g := by cases init <;> rfl
        simp only [e1, List.getLast?_concat]
        rfl
      · exact lks_last _ h.ls (fun z cs hz hb => hb.setOther (a := ⟨y.g, 3, none⟩) (hin z hz) _) ((hyb.set_ 3 _).cast rfl)
      · have := h.nd
        simpa using this
    · have hd : (y.v.t == 0) = false := by simp [ht]
      have HE := Lib.hid (show endLk t (init ++ [y]) = init ++ [y] from by rw [endLk_snoc]; unfold endV; rw [if_neg ht])
      clear ht
      go_enter Try.func123, Try.ntmps123
      go_wp2
      go_end0
      refine ⟨⟨_, rfl⟩, ?_, Chg.refl _ _⟩
      show ChOk _ ⟨cg, ck, endLk t (init ++ [y])⟩
      rw [HE.out]
      exact h

set_option maxHeartbeats 1000000 in
theorem visible_c (x : V) (t : Int) (w : World) : Calls Try.prog 122 #[.agg #[.string x.k, .int .i64 x.n, .int .i64 x.f, .int .i64 x.t], .int .i64 t] w fun e w' => e = .returned (.bool (visB t x)) ∧ Below w.heap.size w w' := by
  go_enter Try.func122, Try.ntmps122
  go_wp2
  all_goals
    go_ret
    refine ⟨ret_bool ?_, (by (repeat (first | exact Below.refl _ _ | (refine Below.setCell ?_ (by simp <;> omega) _) | (refine Below.alloc ?_ (by simp <;> omega) _) | (refine Below.drew ?_))))⟩
    unfold visB
    first | (simp_all <;> done) | (rw [Bool.eq_iff_iff]; simp_all <;> omega)

/-- what a chain shows at a time: the first version that stands -/
def seen (t : Int) (c : Ch) : Option V := c.vs.find? (visB t)

end Go.Proofs.Ytbhdgalkedegjaa
