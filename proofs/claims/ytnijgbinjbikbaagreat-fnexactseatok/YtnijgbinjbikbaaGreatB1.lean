/- Chapter 2, the model: when a version is right, when it may stand ahead of another one, what stands at a time, when all that ever stood is right.
A region that draws its order, operation by operation: short forms of the held laws.
The program's chains: how they lie in memory; add, end, at, last.
The program's chains: at, last; the sorted list of chains: find, splice.
The program's chains: last; the sorted list of chains: find, splice, chainOf. -/
import Derived.Test.YtnijgbinjbikbaaGreatA5
import Derived.Test.YtnijgbinjbikbaaGreatA6
import Derived.Test.YtnijgbinjbikbaaGreatA2
import Derived.Test.YtnijgbinjbikbaaGreatA1
import Derived.Deep.RegionHeld3
import Derived.IntWalk
import Derived.Deep.LoopGhost
namespace Go.Proofs.YtnijgbinjbikbaaGreat
open Go.RowKit
set_option linter.unusedVariables false
set_option maxRecDepth 100000

def verB (z : Int) (x : V) : Bool := keyB x.k && numB x.n && decide (1 ≤ x.f) && decide (x.f ≤ z) && (decide (x.t = 0) || decide (x.f < x.t) && decide (x.t ≤ z))

set_option maxHeartbeats 1000000 in
theorem specVer (x : V) (z : Int) (w : World) (hs : x.k.size ≤ maxLen) : Calls Tryz.prog 54 #[.agg #[.string x.k, .int .i64 x.n, .int .i64 x.f, .int .i64 x.t], .int .i64 z] w fun e w' => e = .returned (.bool (verB z x)) ∧ Below w.heap.size w w' := by
 go_enter Tryz.func54, Tryz.ntmps54
 go_wp2_with (first | (go_at_call 90; refine (specKey _ _ hs).mono ?_; rintro e w' ⟨rfl, rfl⟩) | (go_at_call 91; refine (specNum _ _).mono ?_; rintro e w' ⟨rfl, rfl⟩))
 all_goals
  go_ret
  refine ⟨ret_bool ?_, (by (repeat (first | exact Below.refl _ _ | (refine Below.setCell ?_ (by simp <;> omega) _) | (refine Below.alloc ?_ (by simp <;> omega) _) | (refine Below.drew ?_))))⟩
  unfold verB
  first | (simp_all <;> done) | (rw [Bool.eq_iff_iff]; simp_all <;> omega)

/-- a may stand ahead of b -/
noncomputable def aheadB (a b : V) : Bool := if a.k.toList == b.k.toList then decide (0 < a.t) && decide (a.t ≤ b.f) else lt a.k b.k

set_option maxHeartbeats 1000000 in
theorem specAhead (x y : V) (w : World) : Calls Tryz.prog 55 #[.agg #[.string x.k, .int .i64 x.n, .int .i64 x.f, .int .i64 x.t], .agg #[.string y.k, .int .i64 y.n, .int .i64 y.f, .int .i64 y.t]] w fun e w' => e = .returned (.bool (aheadB x y)) ∧ Below w.heap.size w w' := by
 go_enter Tryz.func55, Tryz.ntmps55
 go_wp2
 all_goals
  go_ret
  refine ⟨ret_bool ?_, (by (repeat (first | exact Below.refl _ _ | (refine Below.setCell ?_ (by simp <;> omega) _) | (refine Below.alloc ?_ (by simp <;> omega) _) | (refine Below.drew ?_))))⟩
  unfold aheadB lt
  first | (simp_all <;> done) | (simp_all <;> omega)

/-- it stands at a time -/
def visB (t : Int) (x : V) : Bool := decide (x.f ≤ t) && (decide (x.t = 0) || decide (t < x.t))
def rowOf (x : V) : R := (x.k, x.n)
def atL (l : List V) (t : Int) : List R := (l.filter (visB t)).map rowOf
theorem atL_yes {l : List V} {t : Int} {k : Nat} (hk : k < l.length) (h : visB t l[k] = true) : atL (l.take (k + 1)) t = atL (l.take k) t ++ [(l[k].k, l[k].n)] := by
 rw [List.take_succ_eq_append_getElem hk]; unfold atL; simp only [List.filter_append, List.filter_cons, h, if_true, List.filter_nil, List.map_append, List.map_cons, List.map_nil]; rfl
theorem atL_no {l : List V} {t : Int} {k : Nat} (hk : k < l.length) (h : visB t l[k] = false) : atL (l.take (k + 1)) t = atL (l.take k) t := by
 rw [List.take_succ_eq_append_getElem hk]; unfold atL; rw [List.filter_append, List.filter_cons_of_neg (by rw [h]; simp)]; simp
theorem atL_length (l : List V) (t : Int) : (atL l t).length ≤ l.length := by unfold atL; rw [List.length_map]; exact List.length_filter_le _ _

theorem lenI (k n : Nat) (h : k < n) : (k : Int) < (n : Int) := by omega

set_option maxHeartbeats 2000000 in
theorem specAt (z : Int) (A : Option Addr) (c : Nat) (l : List V) (t : Int) (w : World) (hlc : l.length ≤ c) (hc : l.length ≤ 1048577) (hr : RdG w w.heap.size A l) :
  Calls Tryz.prog 23 #[.agg #[.int .i64 z, .slice A l.length c], .int .i64 t] w (RetR w (atL l t)) := by
 go_enter Tryz.func23, Tryz.ntmps23
 go_wp2
 have hb0 : Below w.heap.size w (w.alloc (.cells #[.int .i64 z, .slice A l.length c] 32)) := below_alloc (Below.refl _ _) _
 have hB0 := blkA w #[.int .i64 z, .slice A l.length c] 32
 have hO0 := OwnR.fresh (w.alloc (.cells #[.int .i64 z, .slice A l.length c] 32)) (w.alloc (.cells #[.int .i64 z, .slice A l.length c] 32)).heap.size (Nat.le_refl _)
 go_loopw [5, 6] (fun s i W => ∃ k : Nat, k ≤ l.length ∧ i = .int .i64 k ∧ OwnR W (w.heap.size + 1) s (atL (l.take k) t) ∧ Blk W w.heap.size 32 #[.int .i64 z, .slice A l.length c] ∧ Below w.heap.size w W) (fun _ i _ => l.length - (intOf i).toNat)
 case atStart => exact ⟨0, Nat.zero_le _, by simp, by simpa [atL] using hO0, hB0.alloc _, below_alloc hb0 _⟩
 case round =>
  obtain ⟨k, hk, rfl, hO, hB, hb⟩ := hrel
  have c1 : wr.cell? ⟨w.heap.size, 1, none⟩ = some (.slice A l.length c) := by rw [hB.cell]; rfl
  by_cases hkl : k < l.length
  ·
   obtain ⟨b, o, rfl, hbB, hc0, hc1, hc2, hc3⟩ := (hr.below hb).atV hkl
   have hkI := lenI _ _ hkl
   cases hv : visB t l[k]
   ·
    have HE := Lib.hid (atL_no hkl hv)
    unfold visB at hv
    have hd : decide (l[k].f ≤ t) = false ∨ (decide (l[k].f ≤ t) = true ∧ (l[k].t == 0) = false ∧ decide (t < l[k].t) = false) := by
     simp at hv ⊢
     omega
    clear hv
    rcases hd with hd | ⟨hd, hd1, hd2⟩
    ·
     go_wp2
     go_roundw
     case rel => exact ⟨k + 1, by omega, by go_num, by rw [HE.out]; exact hO.alloc _, hB.alloc _, below_alloc hb _⟩
     case measure => simp [intOf]; omega
    ·
     go_wp2
     go_roundw
     case rel => exact ⟨k + 1, by omega, by go_num, by rw [HE.out]; exact hO.alloc _, hB.alloc _, below_alloc hb _⟩
     case measure => simp [intOf]; omega
   ·
    have HE := Lib.hid (atL_yes hkl hv)
    unfold visB at hv
    have hd : decide (l[k].f ≤ t) = true ∧ ((l[k].t == 0) = true ∨ ((l[k].t == 0) = false ∧ decide (t < l[k].t) = true)) := by
     simp at hv ⊢
     omega
    clear hv
    obtain ⟨hd, hd'⟩ := hd
    have hb2 := below_alloc (below_alloc hb (.cells #[.string l[k].k, .int .i64 l[k].n, .int .i64 l[k].f, .int .i64 l[k].t] 68)) (.cells #[.string l[k].k, .int .i64 l[k].n] 94)
    rcases hd' with hd1 | ⟨hd1, hd2⟩
    ·
     have HT := Lib.hid hd1
     go_wp2_with (at_builtin; refine wpList_appR ((wr.alloc (.cells #[.string l[k].k, .int .i64 l[k].n, .int .i64 l[k].f, .int .i64 l[k].t] 68)).alloc (.cells #[.string l[k].k, .int .i64 l[k].n] 94)) rfl _ _ _ _ 94 rfl Tryz.underlying57 Tryz.underlying57 (w.heap.size + 1) _ (atL (l.take k) t) rfl ((hO.alloc _).alloc _) (some ⟨wr.heap.size + 1, 0, none⟩) 1 _ 1 [(l[k].k, l[k].n)] rfl rfl (rdOneAt _ _ (by simp) _ _ _) (by have := atL_length (l.take k) t; simp at this ⊢; omega) (by have := hb2.size; have := hB.lt; simp; omega) ?_; intro v' w' hown hgr hat)
     go_roundw
     case rel => exact ⟨k + 1, by omega, by go_num, by rw [HE.out]; exact hown, ((hB.alloc _).alloc _).grown hgr (hO.ne_block (by omega)), ((hO.alloc _).alloc _).below hb2 hgr (by omega)⟩
     case measure => simp [intOf]; omega
    ·
     go_wp2_with (at_builtin; refine wpList_appR ((wr.alloc (.cells #[.string l[k].k, .int .i64 l[k].n, .int .i64 l[k].f, .int .i64 l[k].t] 68)).alloc (.cells #[.string l[k].k, .int .i64 l[k].n] 94)) rfl _ _ _ _ 94 rfl Tryz.underlying57 Tryz.underlying57 (w.heap.size + 1) _ (atL (l.take k) t) rfl ((hO.alloc _).alloc _) (some ⟨wr.heap.size + 1, 0, none⟩) 1 _ 1 [(l[k].k, l[k].n)] rfl rfl (rdOneAt _ _ (by simp) _ _ _) (by have := atL_length (l.take k) t; simp at this ⊢; omega) (by have := hb2.size; have := hB.lt; simp; omega) ?_; intro v' w' hown hgr hat)
     go_roundw
     case rel => exact ⟨k + 1, by omega, by go_num, by rw [HE.out]; exact hown, ((hB.alloc _).alloc _).grown hgr (hO.ne_block (by omega)), ((hO.alloc _).alloc _).below hb2 hgr (by omega)⟩
     case measure => simp [intOf]; omega
  ·
   have hkI : decide ((k : Int) < (l.length : Int)) = false := decide_eq_false (by omega)
   have HN := Lib.hid (show k = l.length from by omega)
   go_wp2
   go_ret
   refine ⟨_, rfl, ?_, hb⟩
   rw [HN.out, List.take_length] at hO
   exact hO.low (by omega)

end Go.Proofs.YtnijgbinjbikbaaGreat

namespace Go.Proofs.YtnijgbinjbikbaaGreat
open Go.RowKit
set_option linter.unusedVariables false

theorem ga {α : Type} (xs : List α) (i : Nat) : xs.toArray[i]? = xs[i]? := by simp
theorem gb {α : Type} (a : α) (l : List α) (i : Nat) : (a :: l)[i + 1]? = l[i]? := rfl
theorem gc {α : Type} (a : α) (l : List α) : (a :: l)[0]? = some a := rfl
theorem pa {α : Type} (xs : List α) (i : Nat) (a : α) : xs.toArray.setIfInBounds i a = (xs.set i a).toArray := by simp
theorem pb {α : Type} (a b : α) (l : List α) : (a :: l).set 0 b = b :: l := rfl
theorem pc {α : Type} (a b : α) (l : List α) (i : Nat) : (a :: l).set (i + 1) b = a :: l.set i b := rfl

section
variable {P : Program} {md : Region.Mode} {ops : Array Oper} {Q : Exit → Act → World → Prop} {S : World → Prop} {i : Nat} {oi : Oper} {fuel : Nat} {listed : Array Bool} {a : Act} {w : World}
/-- what is wanted is taken first -/
theorem tkW {v : Value} (hi : ops[i]? = some oi) (hb : (Region.noSelect ops && Region.free md ops listed i && (Region.ready md ops listed).contains i) = true)
  (hQ : ∀ c a w, Q (.panic c) (a.put oi.dst v) w → Q (.panic c) a w) (hw : Region.wanted oi (yielded ops a.tmps) = true) (hy : ∀ w, S w → (execOp a.eval oi).run P w = .ok (.value v) w) (hS : S w)
  (h : wpAnyH P md ops Q S fuel (listed.setIfInBounds i true) (a.put oi.dst v) w) : wpAnyH P md ops Q S (fuel + 1) listed a w := by
 simp only [Bool.and_eq_true] at hb
 exact wpAnyH_take hi hb.1.1 hb.1.2 hb.2 hQ (Or.inl ⟨hw, hy⟩) hS h
/-- what is not wanted is passed over -/
theorem tkS (hi : ops[i]? = some oi) (hb : (Region.noSelect ops && Region.free md ops listed i && (Region.ready md ops listed).contains i) = true)
  (hQ : ∀ c a w, Q (.panic c) (a.put oi.dst undef) w → Q (.panic c) a w) (hw : Region.wanted oi (yielded ops a.tmps) = false) (hS : S w)
  (h : wpAnyH P md ops Q S fuel (listed.setIfInBounds i true) (a.put oi.dst undef) w) : wpAnyH P md ops Q S (fuel + 1) listed a w := by
 simp only [Bool.and_eq_true] at hb
 exact wpAnyH_take hi hb.1.1 hb.1.2 hb.2 hQ (Or.inr ⟨hw, rfl⟩) hS h
end

end Go.Proofs.YtnijgbinjbikbaaGreat

namespace Go.Proofs.YtnijgbinjbikbaaGreat
open Go.RowKit
set_option linter.unusedVariables false

section
variable {P : Program} {md : Region.Mode} {ops : Array Oper} {Q : Exit → Act → World → Prop} {S : World → Prop} {fuel : Nat} {listed : Array Bool} {a : Act} {w : World}
/-- what is wanted is taken first -/
theorem tk (i : Nat) {oi : Oper} {v : Value} {a' : Act} (h : wpAnyH P md ops Q S fuel (listed.setIfInBounds i true) a' w) (hi : ops[i]? = some oi := by (simp only [ga, gb, gc]; rfl)) (hb : (Region.noSelect ops && Region.free md ops listed i && (Region.ready md ops listed).contains i) = true := by kernel_rfl)
  (hw : Region.wanted oi (yielded ops a.tmps) = true := by rfl)
  (hy : ∀ w, S w → (execOp a.eval oi).run P w = .ok (.value v) w := by (intro w hSw; (try dsimp only at hSw); go_simp) <;> with_reducible rfl) (ha : a.put oi.dst v = a' := by ((try simp only [Act.put, pa, pb, pc]); rfl))
  (hQ : ∀ c a w, Q (.panic c) (a.put oi.dst v) w → Q (.panic c) a w := by (intro _ _ _ h; exact h)) (hS : S w := by assumption) : wpAnyH P md ops Q S (fuel + 1) listed a w := tkW hi hb hQ hw hy hS (by rw [ha]; exact h)
/-- what is not wanted is passed over -/
theorem ts (i : Nat) {oi : Oper} {a' : Act} (h : wpAnyH P md ops Q S fuel (listed.setIfInBounds i true) a' w) (hi : ops[i]? = some oi := by (simp only [ga, gb, gc]; rfl)) (hb : (Region.noSelect ops && Region.free md ops listed i && (Region.ready md ops listed).contains i) = true := by kernel_rfl)
  (hw : Region.wanted oi (yielded ops a.tmps) = false := by rfl) (ha : a.put oi.dst undef = a' := by ((try simp only [Act.put, pa, pb, pc]); rfl))
  (hQ : ∀ c a w, Q (.panic c) (a.put oi.dst undef) w → Q (.panic c) a w := by (intro _ _ _ h; exact h)) (hS : S w := by assumption) : wpAnyH P md ops Q S (fuel + 1) listed a w := tkS hi hb hQ hw hS (by rw [ha]; exact h)
/-- the one operation that is ready comes up -/
theorem rd1 (i : Nat) {oi : Oper} (h : ∀ K' : Act → World → Prop, Shut (∀ a w, S w → (S w → wpAnyH P md ops Q S fuel (listed.setIfInBounds i true) a w) → K' a w) → if Region.wanted oi (yielded ops a.tmps) = true then Oper.wp P oi a w K' Q else K' (a.put oi.dst undef) w)
  (hr : Region.ready md ops listed = [i] := by kernel_rfl) (hi : ops[i]? = some oi := by (simp only [ga, gb, gc]; rfl)) : wpAnyH P md ops Q S (fuel + 1) listed a w := wpAnyH_ready hr (by simp) (AllReadyH.cons hi h AllReadyH.nil)
end

end Go.Proofs.YtnijgbinjbikbaaGreat


namespace Go.Proofs.YtnijgbinjbikbaaGreat
open Go.RowKit
set_option linter.unusedVariables false
set_option maxRecDepth 100000

/-- from w to w' the blocks of S alone may have turned; what is new is new -/
structure Chg (S : Nat → Prop) (w w' : World) : Prop where
 os : w'.os = w.os
 tape : w'.tape = w.tape
 output : w'.output = w.output
 size : w.heap.size ≤ w'.heap.size
 block : ∀ k, k < w.heap.size → ¬ S k → w'.heap[k]? = w.heap[k]?
section
variable {S S' : Nat → Prop} {w w' w'' : World} {g : Nat} {t : TypeId} {cs : Array Value}
theorem Chg.refl (S : Nat → Prop) (w : World) : Chg S w w := ⟨rfl, rfl, rfl, Nat.le_refl _, fun _ _ _ => rfl⟩
theorem Chg.alloc (h : Chg S w w') (o : Obj) : Chg S w (w'.alloc o) := ⟨h.os, h.tape, h.output, Nat.le_trans h.size (by simp), fun k hk hn => (Below.heap_alloc w' o k (Nat.lt_of_lt_of_le hk h.size)).trans (h.block k hk hn)⟩
theorem Chg.setCell (h : Chg S w w') {a : Addr} (ha : S a.block ∨ w.heap.size ≤ a.block) (u : Value) : Chg S w (w'.setCell a u) :=
 ⟨h.os, h.tape, h.output, by simpa [World.setCell] using h.size, fun k hk hn => (Below.heap_setCell w' a u k (by rintro rfl; rcases ha with ha | ha; exact hn ha; omega)).trans (h.block k hk hn)⟩
theorem Chg.below (h : Chg S w w') (hb : Below w'.heap.size w' w'') : Chg S w w'' :=
 ⟨hb.os.trans h.os, hb.tape.trans h.tape, hb.output.trans h.output, Nat.le_trans h.size hb.size, fun k hk hn => (hb.block k (Nat.lt_of_lt_of_le hk h.size)).trans (h.block k hk hn)⟩
theorem Chg.of_below (hb : Below w.heap.size w w') : Chg S w w' := (Chg.refl S w).below hb
theorem Chg.mono (h : Chg S w w') (hs : ∀ k, S k → S' k) : Chg S' w w' := ⟨h.os, h.tape, h.output, h.size, fun k hk hn => h.block k hk fun hk' => hn (hs k hk')⟩
theorem Chg.trans (h : Chg S w w') (k : Chg S' w' w'') (hs : ∀ b, b < w.heap.size → S' b → S b) : Chg S w w'' :=
 ⟨k.os.trans h.os, k.tape.trans h.tape, k.output.trans h.output, Nat.le_trans h.size k.size, fun b hb hn => (k.block b (Nat.lt_of_lt_of_le hb h.size) fun hb' => hn (hs b hb hb')).trans (h.block b hb hn)⟩
theorem Chg.toBelow {B : Nat} (h : Chg S w w') (hB : B ≤ w.heap.size) (hs : ∀ k, S k → B ≤ k) : Below B w w' := ⟨h.os, h.tape, h.output, h.size, fun k hk => h.block k (by omega) fun hk' => by have := hs k hk'; omega⟩
theorem Blk.chg (h : Blk w g t cs) (hc : Chg S w w') (hn : ¬ S g) : Blk w' g t cs := (hc.block g h.lt hn).trans h
theorem Blk.next' (h : Blk w g t cs) (hb : Below w.heap.size w w') : Blk w' g t cs := h.next hb
theorem Blk.cast {cs' : Array Value} (h : Blk w g t cs) (e : cs = cs') : Blk w g t cs' := e ▸ h
theorem blkAt (cs : Array Value) (t : TypeId) (hg : w.heap.size = g) : Blk (w.alloc (.cells cs t)) g t cs := by subst hg; exact blkA w cs t
theorem Blk.ne {g' : Nat} {t' : TypeId} {cs' : Array Value} (h : Blk w g t cs) (h' : Blk w g' t' cs') (hne : t ≠ t') : g ≠ g' := by
 rintro rfl
 have e := Option.some.inj (h.symm.trans h')
 injection e with e1 e2 e3
 exact hne e2
end

theorem nil_or_snoc {α : Type} (l : List α) : l = [] ∨ ∃ i y, l = i ++ [y] := by
 rcases List.eq_nil_or_concat l with h | ⟨i, y, h⟩
 ·
  exact .inl h
 ·
  exact .inr ⟨i, y, by rw [h, List.concat_eq_append]⟩

/-- a link: its block, and its version -/
structure Lk where
 g : Nat
 v : V
/-- a chain: its block, its key, its links -/
structure Ch where
 g : Nat
 k : ByteArray
 ls : List Lk
def ptrO (o : Option Nat) : Value := .pointer (o.map fun g => ⟨g, 0, none⟩)
def lkCells (x : V) (nx : Option Nat) : Array Value := #[.string x.k, .int .i64 x.n, .int .i64 x.f, .int .i64 x.t, ptrO nx]
def nextG (ls : List Lk) (i : Nat) : Option Nat := ls[i + 1]?.map Lk.g
def LksOk (w : World) (ls : List Lk) : Prop := ∀ i x, ls[i]? = some x → Blk w x.g 154 (lkCells x.v (nextG ls i))
def chCells (c : Ch) : Array Value := #[.string c.k, ptrO (c.ls.head?.map Lk.g), ptrO (c.ls.getLast?.map Lk.g)]
structure ChOk (w : World) (c : Ch) : Prop where
 blk : Blk w c.g 152 (chCells c)
 ls : LksOk w c.ls
 nd : (c.ls.map Lk.g).Nodup
/-- the blocks of a chain -/
def Ch.has (c : Ch) (b : Nat) : Prop := b = c.g ∨ b ∈ c.ls.map Lk.g
def Ch.vs (c : Ch) : List V := c.ls.map Lk.v

section
variable {w w' : World} {c : Ch} {S : Nat → Prop}
theorem ChOk.lt (h : ChOk w c) {b : Nat} (hb : c.has b) : b < w.heap.size := by
 rcases hb with rfl | hb
 ·
  exact h.blk.lt
 ·
  obtain ⟨x, hx, rfl⟩ := List.mem_map.1 hb
  obtain ⟨i, hi, rfl⟩ := List.getElem_of_mem hx
  exact (h.ls i _ (List.getElem?_eq_getElem hi)).lt
theorem ChOk.chg (h : ChOk w c) (hc : Chg S w w') (hn : ∀ b, c.has b → ¬ S b) : ChOk w' c :=
 ⟨h.blk.chg hc (hn _ (.inl rfl)), fun i x hx => (h.ls i x hx).chg hc (hn _ (.inr (List.mem_map.2 ⟨x, List.mem_of_getElem? hx, rfl⟩))), h.nd⟩
theorem ChOk.next (h : ChOk w c) (hb : Below w.heap.size w w') : ChOk w' c :=
 h.chg (Chg.of_below (S := fun _ => False) hb) fun _ _ h => h
theorem LksOk.get (h : LksOk w c.ls) {i : Nat} (hi : i < c.ls.length) : Blk w c.ls[i].g 154 (lkCells c.ls[i].v (nextG c.ls i)) := h i _ (List.getElem?_eq_getElem hi)
end

theorem blkTypes : (152 : TypeId) ≠ 154 := by decide

/-- a link more -/
theorem lks_add {w w' : World} {init : List Lk} {y z : Lk} (h : LksOk w (init ++ [y]))  (hold : ∀ x cs, x ∈ init → Blk w x.g 154 cs → Blk w' x.g 154 cs) (hy : Blk w' y.g 154 (lkCells y.v (some z.g))) (hz : Blk w' z.g 154 (lkCells z.v none)) : LksOk w' (init ++ [y] ++ [z]) := by
 intro i x hx
 rcases Nat.lt_trichotomy i init.length with hi | hi | hi
 ·
  have hx0 : (init ++ [y])[i]? = some x := by rw [List.getElem?_append_left (by simp; omega)] at hx; exact hx
  have hxm : x ∈ init := by rw [List.getElem?_append_left hi] at hx0; exact List.mem_of_getElem? hx0
  have e : nextG (init ++ [y] ++ [z]) i = nextG (init ++ [y]) i := by unfold nextG; rw [List.getElem?_append_left (by simp; omega)]
  rw [e]
  exact hold x _ hxm (h i x hx0)
 ·
  subst hi
  have e : x = y := by
   rw [List.getElem?_append_left (by simp), List.getElem?_append_right (Nat.le_refl _)] at hx
   simpa using hx.symm
  subst e
  have e2 : nextG (init ++ [x] ++ [z]) init.length = some z.g := by
   unfold nextG
   rw [List.getElem?_append_right (by simp)]
   simp
  rw [e2]; exact hy
 ·
  have hl := (List.getElem?_eq_some_iff.1 hx).1
  have hi2 : i = init.length + 1 := by simp at hl; omega
  subst hi2
  have e : x = z := by
   rw [List.getElem?_append_right (by simp)] at hx
   simpa using hx.symm
  subst e
  have e2 : nextG (init ++ [y] ++ [x]) (init.length + 1) = none := by
   unfold nextG
   rw [List.getElem?_eq_none (by simp)]
   rfl
  rw [e2]; exact hz

/-- the chain has got a link more -/
def RetAdd (w : World) (c : Ch) (x : V) (e : Ending) (w' : World) : Prop := (∃ v, e = .returned v) ∧ ∃ g, w.heap.size ≤ g ∧ ChOk w' ⟨c.g, c.k, c.ls ++ [⟨g, x⟩]⟩ ∧ Chg c.has w w'

set_option maxHeartbeats 2000000 in
theorem add_c (c : Ch) (x : V) (w : World) (h : ChOk w c) :
  Calls Tryz.prog 62 #[.pointer (some ⟨c.g, 0, none⟩), .agg #[.string x.k, .int .i64 x.n, .int .i64 x.f, .int .i64 x.t]] w (RetAdd w c x) := by
 obtain ⟨cg, ck, ls⟩ := c
 have hlt := h.blk.lt
 have hblk := h.blk
 rcases nil_or_snoc ls with rfl | ⟨init, y, rfl⟩
 ·
  have c1 : w.cell? ⟨cg, 1, none⟩ = some (.pointer none) := by rw [hblk.cell]; rfl
  have c2 : w.cell? ⟨cg, 2, none⟩ = some (.pointer none) := by rw [hblk.cell]; rfl
  have f1 := hblk.free 1
  have f2 := hblk.free 2
  go_enter Tryz.func62, Tryz.ntmps62
  go_wp2
  go_end0
  refine ⟨⟨_, rfl⟩, w.heap.size + 1, by omega, ⟨?_, ?_, by simp⟩, ?_⟩
  ·
   exact ((((hblk.set_ 1 _).set_ 2 _).alloc _).alloc _).cast rfl
  ·
   intro i y hy
   obtain ⟨rfl, rfl⟩ : i = 0 ∧ y = ⟨w.heap.size + 1, x⟩ := by
    have := (List.getElem?_eq_some_iff.1 hy).1
    simp at this
    subst this
    exact ⟨rfl, by simpa using hy.symm⟩
   exact blkAt _ _ (by simp [World.setCell])
  ·
   exact ((((Chg.refl _ _).setCell (.inl (.inl rfl)) _).setCell (.inl (.inl rfl)) _).alloc _).alloc _
 ·
  have hyb := h.ls init.length y (by simp)
  have hnx : nextG (init ++ [y]) init.length = none := by unfold nextG; rw [List.getElem?_eq_none (by simp)]; rfl
  rw [hnx] at hyb
  have c2 : w.cell? ⟨cg, 2, none⟩ = some (.pointer (some ⟨y.g, 0, none⟩)) := by rw [hblk.cell]; simp [chCells, ptrO]
  have f2 := hblk.free 2
  have c4 : w.cell? ⟨y.g, 4, none⟩ = some (.pointer none) := by rw [hyb.cell]; rfl
  have f4 := hyb.free 4
  have hne : y.g ≠ cg := hyb.ne hblk blkTypes.symm
  have hylt := hyb.lt
  have hin : ∀ z ∈ init, z.g ≠ y.g := by
   intro z hz e
   have := h.nd
   rw [List.map_append, List.nodup_append] at this
   exact this.2.2 _ (List.mem_map.2 ⟨z, hz, rfl⟩) y.g (by simp) e
  go_enter Tryz.func62, Tryz.ntmps62
  go_wp2
  go_end0
  have hmem : (⟨cg, ck, init ++ [y]⟩ : Ch).has y.g := .inr (by simp)
  have hch : Chg (⟨cg, ck, init ++ [y]⟩ : Ch).has w _ := ((((Chg.refl _ w).setCell (a := ⟨y.g, 4, none⟩) (.inl hmem) (.pointer (some ⟨w.heap.size + 1, 0, none⟩))).setCell (a := ⟨cg, 2, none⟩) (.inl (.inl rfl)) (.pointer (some ⟨w.heap.size + 1, 0, none⟩))).alloc (.cells #[.string x.k, .int .i64 x.n, .int .i64 x.f, .int .i64 x.t] 68)).alloc (.cells #[.string x.k, .int .i64 x.n, .int .i64 x.f, .int .i64 x.t, .pointer none] 154)
  refine ⟨⟨_, rfl⟩, w.heap.size + 1, by omega, ⟨?_, ?_, ?_⟩, hch⟩
  ·
   refine ((((hblk.setOther (a := ⟨y.g, 4, none⟩) hne.symm _).set_ 2 _).alloc _).alloc _).cast ?_
   unfold chCells
   have e1 : (init ++ [y] ++ [(⟨w.heap.size + 1, x⟩ : Lk)]).head? = (init ++ [y]).head? := by cases init <;> rfl
   simp only [e1, List.getLast?_concat]
   rfl
  ·
   refine lks_add (w := w) h.ls (fun z cs hz hb => ?_) ?_ ?_
   ·
    refine (((hb.setOther (a := ⟨y.g, 4, none⟩) (hin z hz) _).setOther (a := ⟨cg, 2, none⟩) (hb.ne hblk blkTypes.symm) _).alloc _).alloc _
   ·
    exact ((((hyb.set_ 4 _).setOther (a := ⟨cg, 2, none⟩) hne _).alloc _).alloc _).cast rfl
   ·
    exact blkAt _ _ (by simp [World.setCell])
  ·
   rw [List.map_append, List.nodup_append]
   refine ⟨h.nd, by simp, fun a ha b hb e => ?_⟩
   have h1 := h.lt (.inr ha)
   simp at hb
   omega

/-- the newest version ends, if it still stands -/
def endV (t : Int) (x : V) : V := if x.t = 0 then ⟨x.k, x.n, x.f, t⟩ else x
def endLk (t : Int) (ls : List Lk) : List Lk := match ls.getLast? with | none => ls | some y => ls.dropLast ++ [⟨y.g, endV t y.v⟩]
theorem endLk_snoc (t : Int) (init : List Lk) (y : Lk) : endLk t (init ++ [y]) = init ++ [⟨y.g, endV t y.v⟩] := by unfold endLk; simp
def RetEnd (w : World) (c : Ch) (t : Int) (e : Ending) (w' : World) : Prop := (∃ v, e = .returned v) ∧ ChOk w' ⟨c.g, c.k, endLk t c.ls⟩ ∧ Chg c.has w w'

theorem lks_last {w w' : World} {init : List Lk} {y : Lk} (x : V) (h : LksOk w (init ++ [y]))
  (hold : ∀ x cs, x ∈ init → Blk w x.g 154 cs → Blk w' x.g 154 cs) (hy : Blk w' y.g 154 (lkCells x none)) : LksOk w' (init ++ [⟨y.g, x⟩]) := by
 intro i z hz
 by_cases hi : i < init.length
 ·
  have hz0 : (init ++ [y])[i]? = some z := by rw [List.getElem?_append_left hi] at hz ⊢; exact hz
  have hzm : z ∈ init := by rw [List.getElem?_append_left hi] at hz; exact List.mem_of_getElem? hz
  have e : nextG (init ++ [(⟨y.g, x⟩ : Lk)]) i = nextG (init ++ [y]) i := by
   unfold nextG
   by_cases h1 : i + 1 < init.length
   ·
    rw [List.getElem?_append_left h1, List.getElem?_append_left h1]
   ·
    rw [List.getElem?_append_right (by omega), List.getElem?_append_right (by omega), show i + 1 - init.length = 0 from by omega]; rfl
  rw [e]
  exact hold z _ hzm (h i z hz0)
 ·
  have hl := (List.getElem?_eq_some_iff.1 hz).1
  have hi2 : i = init.length := by simp at hl; omega
  subst hi2
  have e : z = ⟨y.g, x⟩ := by
   rw [List.getElem?_append_right (Nat.le_refl _)] at hz
   simpa using hz.symm
  subst e
  have e2 : nextG (init ++ [(⟨y.g, x⟩ : Lk)]) init.length = none := by unfold nextG; rw [List.getElem?_eq_none (by simp)]; rfl
  rw [e2]; exact hy

set_option maxHeartbeats 1000000 in
theorem visible_c (x : V) (t : Int) (w : World) : Calls Tryz.prog 116 #[.agg #[.string x.k, .int .i64 x.n, .int .i64 x.f, .int .i64 x.t], .int .i64 t] w fun e w' => e = .returned (.bool (visB t x)) ∧ Below w.heap.size w w' := by
 go_enter Tryz.func116, Tryz.ntmps116
 go_wp2
 all_goals
  go_ret
  refine ⟨ret_bool ?_, (by (repeat (first | exact Below.refl _ _ | (refine Below.setCell ?_ (by simp <;> omega) _) | (refine Below.alloc ?_ (by simp <;> omega) _) | (refine Below.drew ?_))))⟩
  unfold visB
  first | (simp_all <;> done) | (rw [Bool.eq_iff_iff]; simp_all <;> omega)

/-- what a chain shows at a time: the first version that stands -/
def seen (t : Int) (c : Ch) : Option V := c.vs.find? (visB t)

end Go.Proofs.YtnijgbinjbikbaaGreat

namespace Go.Proofs.YtnijgbinjbikbaaGreat
open Go.RowKit
set_option linter.unusedVariables false
set_option maxRecDepth 100000

def zeroV : V := ⟨ByteArray.empty, 0, 0, 0⟩
/-- what 'at' answers -/
def seenT : Option V → Value
 | some x => .tuple #[.agg #[.string x.k, .int .i64 x.n, .int .i64 x.f, .int .i64 x.t], .bool true]
 | none => .tuple #[.agg #[.string ByteArray.empty, .int .i64 0, .int .i64 0, .int .i64 0], .bool false]
theorem seen_some {c : Ch} {t : Int} {i : Nat} {y : Lk} (hi : c.ls[i]? = some y) (hlow : ∀ j z, j < i → c.ls[j]? = some z → visB t z.v = false) (hv : visB t y.v = true) : seen t c = some y.v := by
 unfold seen Ch.vs
 rw [List.find?_eq_some_iff_getElem]
 have hl := (List.getElem?_eq_some_iff.1 hi).1
 refine ⟨hv, i, by simpa using hl, ?_, fun j hj => ?_⟩
 ·
  rw [List.getElem_map, (List.getElem?_eq_some_iff.1 hi).2]
 ·
  rw [List.getElem_map, hlow j _ hj (List.getElem?_eq_getElem (by omega))]; rfl
theorem seen_none {c : Ch} {t : Int} (hlow : ∀ (j : Nat) z, c.ls[j]? = some z → visB t z.v = false) : seen t c = none := by
 unfold seen Ch.vs
 rw [List.find?_eq_none]
 intro x hx
 obtain ⟨z, hz, rfl⟩ := List.mem_map.1 hx
 obtain ⟨j, hj, rfl⟩ := List.getElem_of_mem hz
 rw [hlow j _ (List.getElem?_eq_getElem hj)]; simp

def RetAt (w : World) (c : Ch) (t : Int) (e : Ending) (w' : World) : Prop := e = .returned (seenT (seen t c)) ∧ Below w.heap.size w w'

set_option maxHeartbeats 2000000 in
theorem at_c (c : Ch) (t : Int) (w : World) (h : ChOk w c) :
  Calls Tryz.prog 97 #[.pointer (some ⟨c.g, 0, none⟩), .int .i64 t] w (RetAt w c t) := by
 have hblk := h.blk
 have c1 : w.cell? ⟨c.g, 1, none⟩ = some (ptrO (c.ls.head?.map Lk.g)) := by rw [hblk.cell]; rfl
 have hlt := hblk.lt
 have hb0 : Below w.heap.size w (w.alloc (.cells #[.string ByteArray.empty, .int .i64 0, .int .i64 0, .int .i64 0] 68)) := below_alloc (Below.refl _ _) _
 have hB0 := blkA w #[.string ByteArray.empty, .int .i64 0, .int .i64 0, .int .i64 0] 68
 have hh : c.ls.head? = c.ls[0]? := by cases c.ls <;> rfl
 rw [hh] at c1
 go_enter Tryz.func97, Tryz.ntmps97
 go_wp2
 go_loopg [6] c.ls.length (fun gk p W => ∃ i : Nat, i + gk = c.ls.length ∧ p = ptrO (c.ls[i]?.map Lk.g) ∧ (∀ j z, j < i → c.ls[j]? = some z → visB t z.v = false) ∧ Blk W w.heap.size 68 #[.string ByteArray.empty, .int .i64 0, .int .i64 0, .int .i64 0] ∧ Below w.heap.size w W)
 case atStart => exact ⟨0, by omega, rfl, fun j z h => absurd h (by omega), hB0, hb0⟩
 case round =>
  obtain ⟨i, hi, rfl, hlow, hB, hb⟩ := hrel
  have HLOW := Lib.hid hlow
  clear hlow c1
  cases hy : c.ls[i]? with
  | none =>
   have HE := Lib.hid (seen_none (t := t) (c := c) fun j z hz => HLOW.out j z (by have h1 := (List.getElem?_eq_some_iff.1 hz).1; have h2 := List.getElem?_eq_none_iff.1 hy; omega) hz)
   have d0 : wr.cell? ⟨w.heap.size, 0, none⟩ = some (.string ByteArray.empty) := by rw [hB.cell]; rfl
   have d1 : wr.cell? ⟨w.heap.size, 1, none⟩ = some (.int .i64 0) := by rw [hB.cell]; rfl
   have d2 : wr.cell? ⟨w.heap.size, 2, none⟩ = some (.int .i64 0) := by rw [hB.cell]; rfl
   have d3 : wr.cell? ⟨w.heap.size, 3, none⟩ = some (.int .i64 0) := by rw [hB.cell]; rfl
   have f0 := hB.free 0
   have f1 := hB.free 1
   have f2 := hB.free 2
   have f3 := hB.free 3
   rw [show ptrO (Option.map Lk.g none) = Value.pointer none from rfl]
   go_wp2
   refine bodyPost_ret (v := seenT none) (by simp [results, Tryz.results97, go_sem, d0, d1, d2, d3, seenT] <;> rfl) rfl ⟨by rw [HE.out], ?_⟩
   exact (by (repeat (first | exact hb | (refine Below.setCell ?_ (by simp <;> omega) _) | (refine Below.alloc ?_ (by simp <;> omega) _))))
  | some y =>
   have hyb := (h.ls i y hy).next' hb
   have e0 : wr.cell? ⟨y.g, 0, none⟩ = some (.string y.v.k) := by rw [hyb.cell]; rfl
   have e1 : wr.cell? ⟨y.g, 1, none⟩ = some (.int .i64 y.v.n) := by rw [hyb.cell]; rfl
   have e2 : wr.cell? ⟨y.g, 2, none⟩ = some (.int .i64 y.v.f) := by rw [hyb.cell]; rfl
   have e3 : wr.cell? ⟨y.g, 3, none⟩ = some (.int .i64 y.v.t) := by rw [hyb.cell]; rfl
   have e4 : wr.cell? ⟨y.g, 4, none⟩ = some (ptrO (c.ls[i + 1]?.map Lk.g)) := by rw [hyb.cell]; rfl
   have hyl := hyb.lt
   have hil := (List.getElem?_eq_some_iff.1 hy).1
   rw [show ptrO (Option.map Lk.g (some y)) = Value.pointer (some ⟨y.g, 0, none⟩) from rfl]
   cases hv : visB t y.v
   ·
    have HV := Lib.hid hv
    go_wp2_with ((go_at_call 116; refine (visible_c y.v t _).mono ?_; rintro e w' ⟨rfl, hb2⟩; rw [hv]; have e4' := (hb2.cell (p := ⟨y.g, 4, none⟩) hyl).trans e4))
    go_roundg (gk - 1)
    case measure => omega
    case rel => exact ⟨i + 1, by omega, rfl, fun j z hj hz => by
     by_cases e : j = i
     ·
      subst e
      have : y = z := Option.some.inj (hy.symm.trans hz)
      subst this; exact HV.out
     ·
      exact HLOW.out j z (by omega) hz, hB.next hb2, hb.trans (hb2.mono hb.size)⟩
   ·
    have HE := Lib.hid (seen_some hy HLOW.out hv)
    go_wp2_with ((go_at_call 116; refine (visible_c y.v t _).mono ?_; rintro e w' ⟨rfl, hb2⟩; rw [hv]; have e0' := (hb2.cell (p := ⟨y.g, 0, none⟩) hyl).trans e0; have e1' := (hb2.cell (p := ⟨y.g, 1, none⟩) hyl).trans e1; have e2' := (hb2.cell (p := ⟨y.g, 2, none⟩) hyl).trans e2; have e3' := (hb2.cell (p := ⟨y.g, 3, none⟩) hyl).trans e3; have hB' := hB.next hb2; have d0 : w'.cell? ⟨w.heap.size, 0, none⟩ = some (.string ByteArray.empty) := (by rw [hB'.cell]; rfl); have d1 : w'.cell? ⟨w.heap.size, 1, none⟩ = some (.int .i64 0) := (by rw [hB'.cell]; rfl); have d2 : w'.cell? ⟨w.heap.size, 2, none⟩ = some (.int .i64 0) := (by rw [hB'.cell]; rfl); have d3 : w'.cell? ⟨w.heap.size, 3, none⟩ = some (.int .i64 0) := (by rw [hB'.cell]; rfl); have f0 := hB'.free 0; have f1 := hB'.free 1; have f2 := hB'.free 2; have f3 := hB'.free 3))
    refine bodyPost_ret (v := seenT (some y.v)) (by simp [results, Tryz.results97, go_sem, d0, d1, d2, d3, seenT]) rfl ⟨by rw [HE.out], ?_⟩
    have hbF := hb.trans (hb2.mono hb.size)
    exact (by (repeat (first | exact hbF | (refine Below.setCell ?_ (by simp <;> omega) _) | (refine Below.alloc ?_ (by simp <;> omega) _))))

end Go.Proofs.YtnijgbinjbikbaaGreat

namespace Go.Proofs.YtnijgbinjbikbaaGreat
open Go.RowKit
set_option linter.unusedVariables false
set_option maxRecDepth 100000

def lastI (ls : List Lk) : Int := match ls.getLast? with | none => 0 | some y => if y.v.f ≤ y.v.t then y.v.t else y.v.f
/-- a pointer to a chain -/
structure Pt where
 g : Nat
instance elPt : Elt Pt where
 T := 110
 wd := 1
 byt := 8
 zero := .pointer none
 cs := fun x => [.pointer (some ⟨x.g, 0, none⟩)]
 len := fun _ => rfl
 pos := by omega
 one := by
  intro a u hu
  simp only [List.mem_cons, List.not_mem_nil, or_false] at hu
  subst hu; rfl
 info := by kernel_rfl
 zsize := rfl
 small := by omega
theorem RdG.atPt {w : World} {B : Nat} {A : Option Addr} {l : List Pt} (h : RdG w B A l) {i : Nat} (hi : i < l.length) : ∃ b o, A = some ⟨b, o, none⟩ ∧ b < B ∧ w.cell? ⟨b, o + i, none⟩ = some (.pointer (some ⟨l[i].g, 0, none⟩)) := by
 obtain ⟨b, o, e, hb, h1⟩ := h.at_ hi
 refine ⟨b, o, e, hb, ?_⟩
 have := h1 0 _ rfl
 rw [show Elt.wd Pt = 1 from rfl, Nat.mul_one, Nat.add_zero] at this
 exact this
def pts (chs : List Ch) : List Pt := chs.map fun c => ⟨c.g⟩
def keysR (chs : List Ch) : List R := chs.map fun c => (c.k, 0)
theorem pts_length (chs : List Ch) : (pts chs).length = chs.length := by simp [pts]
theorem keysR_length (chs : List Ch) : (keysR chs).length = chs.length := by simp [keysR]

set_option maxHeartbeats 400000 in
theorem sortKeyC_c (g : Nat) (k : ByteArray) (w : World) (h : w.cell? ⟨g, 0, none⟩ = some (.string k)) :
  Calls Tryz.prog 169 #[.pointer (some ⟨g, 0, none⟩)] w fun e w' => e = .returned (.string k) ∧ w = w' := by
 go_enter Tryz.func169, Tryz.ntmps169
 go_wp2
 go_ret
 exact ⟨rfl, rfl⟩
theorem method_keyC (g : Nat) (w : World) :
  (method 334 110 (.pointer (some ⟨g, 0, none⟩)) "loop.example/engrosser/impl.sortKey").run Tryz.prog w = .ok (169, .pointer (some ⟨g, 0, none⟩)) w := by kernel_rfl

set_option maxHeartbeats 1000000 in
theorem findC (A : Option Addr) (c : Nat) (chs : List Ch) (key : ByteArray) (w : World) (hc : chs.length ≤ 2097152) (hr : RdG w w.heap.size A (pts chs)) (hk : ∀ i (h : i < chs.length), w.cell? ⟨chs[i].g, 0, none⟩ = some (.string chs[i].k)) (ha : AscP (keysR chs)) :
  Calls Tryz.prog 94 #[.slice A chs.length c, .string key] w fun e w' => e = .returned (.tuple #[.int .i64 (posN (keysR chs) key : Nat), .bool (hasB (keysR chs) key)]) ∧ w = w' := by
 have hm := method_keyC
 go_enter Tryz.func94, Tryz.ntmps94
 go_wp2
 go_loop [6, 7] (fun i j => ∃ p q : Nat, p ≤ q ∧ q ≤ chs.length ∧ i = .int .i64 p ∧ j = .int .i64 q ∧ (∀ i (h : i < chs.length), i < p → lt chs[i].k key = true) ∧ (∀ h : q < chs.length, lt chs[q].k key = false)) (fun i j => (intOf j).toNat - (intOf i).toNat)
 case atStart => exact ⟨0, chs.length, Nat.zero_le _, Nat.le_refl _, rfl, rfl, fun i h h0 => absurd h0 (by omega), fun h => absurd h (by omega)⟩
 case round =>
  obtain ⟨p, q, hpq, hq, rfl, rfl, hlow, hhigh⟩ := hrel
  have HLOW := Lib.hid hlow
  have HHIGH := Lib.hid hhigh
  clear hlow hhigh
  by_cases hlt : p < q
  ·
   obtain ⟨m, hmp, hmq, hme⟩ : ∃ m : Nat, p ≤ m ∧ m < q ∧ (p : Int) + ((q : Int) - (p : Int)) / 2 = (m : Int) := ⟨p + (q - p) / 2, by omega, by omega, by omega⟩
   have hml : m < chs.length := by omega
   obtain ⟨b, o, rfl, hbB, hc0⟩ := hr.atPt (i := m) (by rw [pts_length]; exact hml)
   have hc1 : w.cell? ⟨b, o + m, none⟩ = some (.pointer (some ⟨chs[m].g, 0, none⟩)) := by rw [hc0]; simp [pts]
   clear hc0
   have hkm := hk m hml
   have HK := Lib.hid hk
   clear hk
   cases hl : Op.bytesLess chs[m].k.toList key.toList
   ·
    have HL := Lib.hid (show lt chs[m].k key = false from hl)
    go_wp2_with ((go_at_call 169; refine (sortKeyC_c _ _ _ hkm).mono ?_; rintro e w' ⟨rfl, rfl⟩))
    go_round
    case rel => exact ⟨p, m, hmp, by omega, rfl, rfl, HLOW.out, fun _ => HL.out⟩
    case measure => simp [intOf]; omega
   ·
    have HL := Lib.hid (show lt chs[m].k key = true from hl)
    go_wp2_with ((go_at_call 169; refine (sortKeyC_c _ _ _ hkm).mono ?_; rintro e w' ⟨rfl, rfl⟩))
    go_round
    case rel => exact ⟨m + 1, q, by omega, hq, by go_num, rfl, fun i h h0 => by
     by_cases e : i = m
     ·
      subst e; exact HL.out
     ·
      have := asc_lt ha m (by rw [keysR_length]; exact hml) i (by omega)
      simp only [keysR, List.getElem_map] at this
      exact lt_trans this HL.out, HHIGH.out⟩
    case measure => simp [intOf]; omega
  ·
   obtain rfl : p = q := by omega
   have hp : Pos (keysR chs) key p := ⟨by rw [keysR_length]; exact hq, fun i h h0 => by
    have := HLOW.out i (by rwa [keysR_length] at h) h0
    simpa [keysR] using this, fun h => by
    have := HHIGH.out (by rwa [keysR_length] at h)
    simpa [keysR] using this⟩
   have HP := Lib.hid hp
   by_cases hpl : p < chs.length
   ·
    obtain ⟨b, o, rfl, hbB, hc0⟩ := hr.atPt (i := p) (by rw [pts_length]; exact hpl)
    have hc1 : w.cell? ⟨b, o + p, none⟩ = some (.pointer (some ⟨chs[p].g, 0, none⟩)) := by rw [hc0]; simp [pts]
    clear hc0
    have hkm := hk p hpl
    have HB := Lib.hid (show hasB (keysR chs) key = (chs[p].k.toList == key.toList) from by
     rw [hasB_at hp (by rw [keysR_length]; exact hpl)]; simp [keysR])
    clear hp hk
    go_wp2_with ((go_at_call 169; refine (sortKeyC_c _ _ _ hkm).mono ?_; rintro e w' ⟨rfl, rfl⟩))
    go_ret2
    exact ⟨ret_pos HP.out.eq HB.out.symm, rfl⟩
   ·
    have HB := Lib.hid (hasB_end hp (by rw [keysR_length]; omega))
    clear hp hk
    go_wp2
    go_ret2
    exact ⟨ret_pos HP.out.eq HB.out.symm, rfl⟩

theorem rdTkG {α : Type} [Elt α] {w W : World} {A : Option Addr} {l : List α} (hr : RdG w w.heap.size A l) (p : Nat) (h : Below w.heap.size w W) : RdG W W.heap.size A (l.take p) := ((hr.take p).below h).more h.size
theorem rdDpG {α : Type} [Elt α] {w W : World} {A : Option Addr} {l : List α} (hr : RdG w w.heap.size A l) (p c : Nat) (hc : l.length ≤ c) (h : Below w.heap.size w W) : RdG W W.heap.size (cutG α A c p) (l.drop p) := ((hr.drop p c hc).below h).more h.size

set_option maxHeartbeats 1000000 in
theorem spliceC (A : Option Addr) (c n : Nat) (l : List Pt) (hn : l.length = n) (f : Nat) (A2 : Option Addr) (n2 c2 : Nat) (l2 : List Pt) (hn2 : l2.length = n2) (w : World) (hlc : l.length ≤ c) (hc : l.length ≤ 1048576) (h2 : n2 ≤ 1048576) (hft : f ≤ l.length)
  (hr : RdG w w.heap.size A l) (hr2 : RdG w w.heap.size A2 l2) :
  Calls Tryz.prog 95 #[.slice A n c, .int .i64 f, .int .i64 f, .slice A2 n2 c2] w (RetG w (l.take f ++ l2 ++ l.drop f)) := by
 subst hn
 have hmk := mkG (α := Pt) 107 Tryz.underlying107 0 (l.length + n2) (Nat.zero_le _) (by omega)
 rw [show ((l.length + n2 : Nat) : Int) = (l.length : Int) + (n2 : Int) from by omega, show ((0 : Nat) : Int) = 0 from rfl] at hmk
 have hO := OwnG.made (α := Pt) w w.heap.size (l.length + n2) (Nat.le_refl _) (by unfold maxLen; omega)
 have hT : Below w.heap.size w (w.alloc (.cells (freshG Pt (l.length + n2)) 110)) := below_alloc (Below.refl _ _) _
 generalize l.length + n2 = C at *
 have hcut := runCutG (α := Pt) 107 Tryz.underlying107 A l.length c f hft hlc
 have hi1 : (0 : Int) ≤ (f : Int) := by omega
 have hi2 : (f : Int) ≤ (c : Int) := by omega
 have hi3 : (f : Int) ≤ (l.length : Int) := by omega
 go_enter Tryz.func95, Tryz.ntmps95
 go_wp2_with (first
  | (at_builtin; refine wpList_appG (α := Pt) (w.alloc (.cells (freshG Pt C) 110)) rfl _ _ _ _ 110 rfl Tryz.underlying107 Tryz.underlying107 w.heap.size _ [] rfl hO A c _ f (l.take f) (by simp; omega) rfl (rdTkG hr f hT) (by simp; omega) hT.size ?_; intro v3 w3 hown3 hgr3 hat3; have hT := belowAppG hT hO hgr3; clear hmk)
  | (at_builtin; refine wpList_appG (α := Pt) w3 rfl _ _ _ _ 110 rfl Tryz.underlying107 Tryz.underlying106 w.heap.size v3 ([] ++ l.take f) rfl hown3 A2 c2 _ n2 l2 hn2 rfl (hr2.below hT) (by simp; omega) hT.size ?_; intro v4 w4 hown4 hgr4 hat4; have hT := belowAppG hT hown3 hgr4)
  | (at_builtin; refine wpList_appG (α := Pt) w4 rfl _ _ _ _ 110 rfl Tryz.underlying107 Tryz.underlying107 w.heap.size v4 ([] ++ l.take f ++ l2) rfl hown4 (cutG Pt A c f) (c - f) _ (l.length - f) (l.drop f) List.length_drop rfl (rdDpG hr f c hlc hT) (by simp; omega) hT.size ?_; intro v5 w5 hown5 hgr5 hat5; have hT := belowAppG hT hown4 hgr5))
 go_ret
 exact ⟨v5, rfl, by simpa using hown5, hT⟩

end Go.Proofs.YtnijgbinjbikbaaGreat
