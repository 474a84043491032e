/- RowsIn of the model.
RowsIn of the program: its iterator.
RowsIn of the program.
RowsIn of the program: the whole.
RowsIn by the value of rows of the call's own; what a list that is not valid gives. -/
import Derived.Test.YtnijgbinjbikbaaGreatB3
import Derived.RangeFuncNested
import Derived.RangeFuncBound
import Derived.RangeFuncCalls
import Derived.RangeFuncLeaves
import Derived.RangeFuncBox
import Derived.Shelf.Abstract
import Derived.Shelf.RegionOpen
import Derived.WalkKit
import Derived.OwnWalkIn
import Derived.TacticsInMore
import Derived.LoopNIn
import Derived.LoopIn
import Derived.Maps.AppendAt
import Derived.Stop.RegionWithIn
import Derived.Deep.RegionWith
namespace Go.Proofs.YtnijgbinjbikbaaGreat
open Go.RowKit
set_option linter.unusedVariables false

/-- the key lies between the two texts -/
def midB (lo hi k : ByteArray) : Bool := !lt k lo && !lt hi k
def inL (l : List R) (lo hi : ByteArray) : List R := l.filter fun r => midB lo hi r.1
noncomputable def inV (l : List R) (lo hi : ByteArray) : List R := if rowsB l then inL l lo hi else []
theorem inL_length (l : List R) (lo hi : ByteArray) : (inL l lo hi).length ≤ l.length := List.length_filter_le _ _
theorem inV_length (l : List R) (lo hi : ByteArray) : (inV l lo hi).length ≤ l.length := by
 unfold inV
 split
 ·
  exact inL_length l lo hi
 ·
  simp
theorem inL_yes {l : List R} {lo hi : ByteArray} {k : Nat} (hk : k < l.length) (h : midB lo hi l[k].1 = true) : inL (l.take (k + 1)) lo hi = inL (l.take k) lo hi ++ [l[k]] := by
 rw [List.take_succ_eq_append_getElem hk]; unfold inL; simp only [List.filter_append, List.filter_cons, h, if_true, List.filter_nil]
theorem inL_no {l : List R} {lo hi : ByteArray} {k : Nat} (hk : k < l.length) (h : midB lo hi l[k].1 = false) : inL (l.take (k + 1)) lo hi = inL (l.take k) lo hi := by
 rw [List.take_succ_eq_append_getElem hk]; unfold inL; rw [List.filter_append, List.filter_cons_of_neg (by rw [h]; simp)]; simp
theorem le_yes {a b : ByteArray} (h : Op.bytesLess b.toList a.toList = false) : Op.bytesLess a.toList b.toList = true ∨ (Op.bytesLess a.toList b.toList = false ∧ (a.toList == b.toList) = true) := by
 cases h1 : Op.bytesLess a.toList b.toList
 ·
  right
  refine ⟨rfl, ?_⟩
  have e : a = b := lt_tri h1 h
  rw [e]; simp
 ·
  left; rfl
theorem le_no {a b : ByteArray} (h : Op.bytesLess b.toList a.toList = true) : Op.bytesLess a.toList b.toList = false ∧ (a.toList == b.toList) = false := by
 have h1 : lt b a = true := h
 exact ⟨lt_asymm h1, str_ne fun e => lt_ne h1 e.symm⟩
theorem FitR.inL {l : List R} (h : FitR l) (lo hi : ByteArray) : FitR (inL l lo hi) := fun r hr => h r ((List.mem_filter.1 hr).1)
theorem FitR.inV {l : List R} (h : FitR l) (lo hi : ByteArray) : FitR (inV l lo hi) := by
 unfold Go.Proofs.YtnijgbinjbikbaaGreat.inV
 split
 ·
  exact h.inL lo hi
 ·
  exact fun r hr => by simp at hr

set_option maxRecDepth 100000 in
set_option maxHeartbeats 2000000 in
theorem specIn (A : Option Addr) (c : Nat) (l : List R) (lo hi : ByteArray) (w : World) (hfit : FitR l) (hlc : l.length ≤ c) (hcm : c ≤ maxLen) (hc : l.length ≤ 1048576) (hr0 : Rd w w.heap.size A l) :
  Calls Tryz.prog 106 #[.slice A l.length c, .string lo, .string hi] w (RetR w (inV l lo hi)) := by
 cases hok : rowsB l
 ·
  have HV := Lib.hid (show inV l lo hi = [] from by unfold inV; rw [hok]; rfl)
  rw [HV.out]
  have hO0 := OwnR.fresh w _ (Nat.le_refl _)
  have hb0 := below_alloc (Below.refl _ w) (.cells #[] 94)
  go_enter Tryz.func106, Tryz.ntmps106
  go_wp2
  go_loopw [7, 8] (fun o i W => i = .int .i64 0 ∧ OwnR W w.heap.size o [] ∧ Below w.heap.size w W) (fun _ _ _ => 0)
  case atStart => exact ⟨rfl, hO0, hb0⟩
  case round =>
   obtain ⟨rfl, hown, hb⟩ := hrel
   have hr := (hr0.below hb).more hb.size
   by_cases hl : 0 < l.length
   ·
    have hl1 : (0 : Int) < (l.length : Int) := by omega
    go_wp2_with fail
    refine (specRowsOk A c l wr hfit hlc hcm hr).mono ?_
    rintro e w1 ⟨rfl, n1, rfl⟩
    rw [hok]
    go_wp2
    go_ret
    exact ⟨_, rfl, hown.next (below_drewN (Below.refl _ _) _), below_drewN hb _⟩
   ·
    have hl1 : decide ((0 : Int) < (l.length : Int)) = false := decide_eq_false (by omega)
    have hl2 : decide (0 < l.length) = false := decide_eq_false (by omega)
    go_wp2
    go_ret
    exact ⟨_, rfl, hown, hb⟩
 ·
  have HV := Lib.hid (show inV l lo hi = inL l lo hi from by unfold inV; rw [hok]; rfl)
  rw [HV.out]
  have hO0 := OwnR.fresh w _ (Nat.le_refl _)
  have hb0 := below_alloc (Below.refl _ w) (.cells #[] 94)
  go_enter Tryz.func106, Tryz.ntmps106
  go_wp2
  go_loopw [7, 8] (fun o i W => ∃ k : Nat, k ≤ l.length ∧ i = .int .i64 k ∧ OwnR W w.heap.size o (inL (l.take k) lo hi) ∧ Below w.heap.size w W) (fun _ i _ => l.length - (intOf i).toNat)
  case atStart => exact ⟨0, Nat.zero_le _, rfl, hO0, hb0⟩
  case round =>
   obtain ⟨k, hk, rfl, hown, hb⟩ := hrel
   have hr := (hr0.below hb).more hb.size
   have hlen := inL_length (l.take k) lo hi
   rw [List.length_take] at hlen
   by_cases hkl : k < l.length
   ·
    have hl1 : (k : Int) < (l.length : Int) := by omega
    have hyes := fun h => inL_yes (l := l) (lo := lo) (hi := hi) hkl h
    have hno := fun h => inL_no (l := l) (lo := lo) (hi := hi) hkl h
    have HY := Lib.hid hyes
    have HN := Lib.hid hno
    clear hyes hno
    generalize inL (l.take k) lo hi = out at *
    go_wp2_with fail
    refine (specRowsOk A c l wr hfit hlc hcm hr).mono ?_
    rintro e w1 ⟨rfl, n1, rfl⟩
    rw [hok]
    have hb1 := below_drewN hb n1
    have hown1 := hown.next (below_drewN (Below.refl _ _) n1)
    have hr1 := (hr0.below hb1).more hb1.size
    generalize wr.drewN n1 = w1 at *
    obtain ⟨b, o, rfl, hbB, hc1, hc2⟩ := hr1.at_ hkl
    cases h1 : Op.bytesLess l[k].1.toList lo.toList
    ·
     cases h2 : Op.bytesLess hi.toList l[k].1.toList
     ·
      have hm : midB lo hi l[k].1 = true := by unfold midB lt; rw [h1, h2]; rfl
      have HE := Lib.hid (HY.out hm)
      clear hm
      rcases le_yes h2 with h3 | ⟨h3, h4⟩
      ·
       go_wp2_with ((at_builtin; refine wpList_appR (w1.alloc (.cells #[.string l[k].1, .int .i64 l[k].2] 94)) rfl _ _ _ _ 94 rfl Tryz.underlying57 Tryz.underlying57 w.heap.size _ out rfl (hown1.alloc _) (some ⟨w1.heap.size, 0, none⟩) 1 _ 1 [(l[k].1, l[k].2)] rfl rfl (rdOne w1 l[k].1 l[k].2 94) (by simp; omega) (by have := hb1.size; simp; omega) ?_; intro v5 w5 hown5 hgr5 hat5))
       go_roundw
       case rel => exact ⟨k + 1, by omega, by go_num, by rw [HE.out]; exact hown5, belowApp (below_alloc hb1 _) (hown1.alloc _) hgr5⟩
       case measure => simp [intOf]; omega
      ·
       go_wp2_with ((at_builtin; refine wpList_appR (w1.alloc (.cells #[.string l[k].1, .int .i64 l[k].2] 94)) rfl _ _ _ _ 94 rfl Tryz.underlying57 Tryz.underlying57 w.heap.size _ out rfl (hown1.alloc _) (some ⟨w1.heap.size, 0, none⟩) 1 _ 1 [(l[k].1, l[k].2)] rfl rfl (rdOne w1 l[k].1 l[k].2 94) (by simp; omega) (by have := hb1.size; simp; omega) ?_; intro v5 w5 hown5 hgr5 hat5))
       go_roundw
       case rel => exact ⟨k + 1, by omega, by go_num, by rw [HE.out]; exact hown5, belowApp (below_alloc hb1 _) (hown1.alloc _) hgr5⟩
       case measure => simp [intOf]; omega
     ·
      have hm : midB lo hi l[k].1 = false := by unfold midB lt; rw [h1, h2]; rfl
      have HE := Lib.hid (HN.out hm)
      obtain ⟨h3, h4⟩ := le_no h2
      clear hm
      go_wp2
      go_roundw
      case rel => exact ⟨k + 1, by omega, by go_num, by rw [HE.out]; exact hown1, hb1⟩
      case measure => simp [intOf]; omega
    ·
     have hm : midB lo hi l[k].1 = false := by unfold midB lt; rw [h1]; rfl
     have HE := Lib.hid (HN.out hm)
     clear hm
     go_wp2
     go_roundw
     case rel => exact ⟨k + 1, by omega, by go_num, by rw [HE.out]; exact hown1, hb1⟩
     case measure => simp [intOf]; omega
   ·
    have hl1 : decide ((k : Int) < (l.length : Int)) = false := decide_eq_false (by omega)
    have hl2 : decide (k < l.length) = false := decide_eq_false (by omega)
    rw [List.take_of_length_le (by omega)] at hown
    go_wp2
    go_ret
    exact ⟨_, rfl, hown, hb⟩

end Go.Proofs.YtnijgbinjbikbaaGreat

namespace Go.Proofs.YtnijgbinjbikbaaGreat
open Go.RowKit Go.Shelf
set_option linter.unusedVariables false
attribute [local go_sem] Oper.semAt_some

/-- what a round keeps: all below n₀, and the three boxes -/
def KpB (n₀ Bn : Nat) (W W' : World) : Prop := Below n₀ W W' ∧ W.heap.size ≤ W'.heap.size ∧ ∀ k, Bn ≤ k → k < Bn + 3 → W'.heap[k]? = W.heap[k]?
structure Boxes (W : World) (Bn : Nat) (A : Option Addr) (n c : Nat) (lo hi : ByteArray) : Prop where
 s : Boxed W Bn 139 (.slice A n c)
 lo : Boxed W (Bn + 1) 9 (.string lo)
 hi : Boxed W (Bn + 2) 9 (.string hi)
theorem Boxes.kept {W W' : World} {Bn n c n₀ : Nat} {A : Option Addr} {lo hi : ByteArray} (h : Boxes W Bn A n c lo hi) (hk : KpB n₀ Bn W W') : Boxes W' Bn A n c lo hi :=
 ⟨(hk.2.2 Bn (by omega) (by omega)).trans h.s, (hk.2.2 (Bn + 1) (by omega) (by omega)).trans h.lo, (hk.2.2 (Bn + 2) (by omega) (by omega)).trans h.hi⟩
theorem Boxes.next {W W' : World} {Bn n c : Nat} {A : Option Addr} {lo hi : ByteArray} (h : Boxes W Bn A n c lo hi) (hb : Below W.heap.size W W') : Boxes W' Bn A n c lo hi :=
 ⟨(hb.block _ h.s.lt).trans h.s, (hb.block _ h.lo.lt).trans h.lo, (hb.block _ h.hi.lt).trans h.hi⟩

/-- a round's two ways out, by its answer -/
theorem yield_t {m l0 n₀ Bn : Nat} {args : Array Value} {W : World} {p q : World → Prop} (h : YieldAt Fence.wide m Tryz.prog l0 args W fun e W' => (e = .returned (.bool true) ∧ p W' ∧ KpB n₀ Bn W W') ∨ (e = .returned (.bool false) ∧ q W')) :
  YieldAt Fence.wide m Tryz.prog l0 args W fun e W' => ∃ t, e = .returned (.bool t) ∧ ((t = true ∧ p W' ∧ KpB n₀ Bn W W') ∨ (t = false ∧ q W')) := by
 obtain ⟨fn, tmps, assign, body, hy, hR⟩ := h
 refine ⟨fn, tmps, assign, body, hy, hR.mono ?_⟩
 rintro e w' (⟨rfl, h1, h2⟩ | ⟨rfl, h1⟩)
 ·
  exact ⟨true, rfl, .inl ⟨rfl, h1, h2⟩⟩
 ·
  exact ⟨false, rfl, .inr ⟨rfl, h1⟩⟩
theorem in_eq {l : List R} {lo hi : ByteArray} (hs : Srt l) (j : Nat) (h1 : ∀ r ∈ (l.drop (posN l lo)).take j, lt hi r.1 = false) (h2 : ∀ r ∈ (l.drop (posN l lo)).drop j, lt hi r.1 = true) : inL l lo hi = (l.drop (posN l lo)).take j := by
 have hp := posN_pos l lo
 have e : l = l.take (posN l lo) ++ ((l.drop (posN l lo)).take j ++ (l.drop (posN l lo)).drop j) := by rw [List.take_append_drop, List.take_append_drop]
 have hge : ∀ r ∈ l.drop (posN l lo), lt r.1 lo = false := fun r hr => by
  obtain ⟨i, hi, rfl⟩ := List.getElem_of_mem hr
  rw [List.length_drop] at hi
  rw [List.getElem_drop]
  have h0 := hp.at_ (by omega)
  cases h : lt (l[posN l lo + i]).1 lo
  ·
   rfl
  ·
   by_cases hi0 : i = 0
   ·
    subst hi0; rw [← h0, ← h]; rfl
   ·
    have := (List.pairwise_iff_getElem.1 hs) (posN l lo) (posN l lo + i) (by omega) (by omega) (by omega)
    rw [lt_trans this h] at h0; cases h0
 conv => lhs; rw [e]
 unfold inL
 rw [List.filter_append, List.filter_append]
 have e1 : (l.take (posN l lo)).filter (fun r => midB lo hi r.1) = [] := by
  rw [List.filter_eq_nil_iff]
  intro r hr
  obtain ⟨i, hi', rfl⟩ := List.getElem_of_mem hr
  rw [List.length_take] at hi'
  rw [List.getElem_take]
  unfold midB
  rw [hp.low i (by omega) (by omega)]; simp
 have e2 : ((l.drop (posN l lo)).take j).filter (fun r => midB lo hi r.1) = (l.drop (posN l lo)).take j := by
  rw [List.filter_eq_self]
  intro r hr
  unfold midB
  rw [hge r (List.mem_of_mem_take hr), h1 r hr]; rfl
 have e3 : ((l.drop (posN l lo)).drop j).filter (fun r => midB lo hi r.1) = [] := by
  rw [List.filter_eq_nil_iff]
  intro r hr
  unfold midB
  rw [h2 r hr]; simp
 rw [e1, e2, e3]; simp

end Go.Proofs.YtnijgbinjbikbaaGreat

namespace Go.Proofs.YtnijgbinjbikbaaGreat
open Go.RowKit Go.Shelf
set_option linter.unusedVariables false
attribute [local go_sem] Oper.semAt_some

theorem boxes_new (w : World) (A : Option Addr) (n c : Nat) (lo hi : ByteArray) : Boxes (((w.alloc (.cells #[.slice A n c] 139)).alloc (.cells #[.string lo] 9)).alloc (.cells #[.string hi] 9)) w.heap.size A n c lo hi := by
 have b1 := Boxed.new w 139 (.slice A n c)
 have b2 := Boxed.new (w.alloc (.cells #[.slice A n c] 139)) 9 (.string lo)
 have b3 := Boxed.new ((w.alloc (.cells #[.slice A n c] 139)).alloc (.cells #[.string lo] 9)) 9 (.string hi)
 simp only [World.size_alloc] at b2 b3
 exact ⟨(b1.alloc _).alloc _, b2.alloc _, b3⟩

/-- what the loop keeps: the rows that have come lie in the box B; the iterator's boxes stand -/
def InI (w1 : World) (A : Option Addr) (n c : Nat) (lo hi : ByteArray) (pre : List R) (W : World) : Prop :=
 (∃ v, Boxed W w1.heap.size 57 v ∧ OwnR W w1.heap.size v pre) ∧ Boxes W (w1.heap.size + 1) A n c lo hi ∧ Below w1.heap.size w1 W
theorem boxed_keep {W W' : World} {row : Option Nat} {B : Nat} {t : TypeId} {v : Value} (h : Boxed W B t v) (hg : W.grownBy W' row) (hr : ∀ r, row = some r → ∃ o : Obj, W.heap[r]? = some o ∧ o.isCells = false) : Boxed W' B t v :=
 h.kept hg fun e => by
  obtain ⟨o, h1, h2⟩ := hr B e.symm
  rw [show W.heap[B]? = _ from h] at h1
  cases h1; cases h2
theorem inI_own (w1 : World) (A : Option Addr) (n c : Nat) (lo hi : ByteArray) (B : Nat) (hB : w1.heap.size ≤ B) : OwnFrom B (InI w1 A n c lo hi) := by
 rintro s W W' row ⟨⟨v, hv, ho⟩, hx, hb⟩ hg hr
 have hr' : ∀ r, row = some r → ∃ o : Obj, W.heap[r]? = some o ∧ o.isCells = false := fun r e => (hr r e).2
 exact ⟨⟨v, boxed_keep hv hg hr', ownR_keep ho hg hr'⟩, ⟨boxed_keep hx.s hg hr', boxed_keep hx.lo hg hr', boxed_keep hx.hi hg hr'⟩, hb.grown hg hb.size fun k e => Nat.le_trans hB (hr k e).1⟩
theorem kpB_t {n₀ Bn : Nat} {A B C : World} (h : KpB n₀ Bn A B) (k : KpB n₀ Bn B C) : KpB n₀ Bn A C :=
 ⟨h.1.trans k.1, Nat.le_trans h.2.1 k.2.1, fun i h1 h2 => (k.2.2 i h1 h2).trans (h.2.2 i h1 h2)⟩
theorem kpB_b {n₀ Bn : Nat} {w : World} (hn : n₀ ≤ w.heap.size) (hB : Bn + 3 ≤ w.heap.size) (W : World) (l : Nat) (o o' : Obj) (hl : w.heap.size ≤ l) (h : W.heap[l]? = some o) (h1 : o.isCells = false) (h2 : o.isWalk = false) : KpB n₀ Bn W (W.putObj l o') := by
 have hb := belowK_b (w := w) (Nat.le_refl _) W l o o' hl h h1 h2
 exact ⟨hb.mono hn, hb.size, fun k _ hk => hb.block k (by omega)⟩
theorem kpB_alloc {n₀ Bn n c : Nat} {A : Option Addr} {lo hi : ByteArray} {W : World} (hn : n₀ ≤ W.heap.size) (h : Boxes W Bn A n c lo hi) (o : Obj) : KpB n₀ Bn W (W.alloc o) := by
 have hb : Below W.heap.size W (W.alloc o) := below_alloc (Below.refl _ _) o
 have := h.hi.lt
 exact ⟨hb.mono hn, hb.size, fun k _ hk => hb.block k (by omega)⟩
theorem Boxes.alloc {Bn n c : Nat} {A : Option Addr} {lo hi : ByteArray} {W : World} (h : Boxes W Bn A n c lo hi) (o : Obj) : Boxes (W.alloc o) Bn A n c lo hi := ⟨h.s.alloc _, h.lo.alloc _, h.hi.alloc _⟩
theorem InI.alloc {w1 : World} {A : Option Addr} {n c : Nat} {lo hi : ByteArray} {pre : List R} {W : World} (h : InI w1 A n c lo hi pre W) (o : Obj) : InI w1 A n c lo hi pre (W.alloc o) := by
 obtain ⟨⟨v, hv, ho⟩, hx, hb⟩ := h
 exact ⟨⟨v, hv.alloc _, ho.alloc _⟩, hx.alloc _, below_alloc hb o⟩

/-- the body's step: a row is appended to what lies in the box -/
theorem in_step {w1 W w5 : World} {A : Option Addr} {n c : Nat} {lo hi : ByteArray} {pre : List R} {x : R} {v v' : Value} {tmp : Obj} (hv : Boxed W w1.heap.size 57 v) (ho : OwnR W w1.heap.size v pre) (hx : Boxes W (w1.heap.size + 1) A n c lo hi) (hb : Below w1.heap.size w1 W)
  (ho' : OwnR w5 w1.heap.size v' (pre ++ [x])) (hg : (W.alloc tmp).grownBy w5 v.ownBlock) (B : Nat) :
  Boxed w5 w1.heap.size 57 v ∧ (KeepsFrom B W (w5.setCell ⟨w1.heap.size, 0, none⟩ v') ∧ KpB w1.heap.size (w1.heap.size + 1) W (w5.setCell ⟨w1.heap.size, 0, none⟩ v') ∧ InI w1 A n c lo hi (pre ++ [x]) (w5.setCell ⟨w1.heap.size, 0, none⟩ v')) := by
 obtain ⟨hv1, hv2, hr2, hk2, hb2⟩ := hv.appended (by decide) ho hb.size (Nat.le_refl _) ho' hg
 have hkp : KpB w1.heap.size (w1.heap.size + 1) W (w5.setCell ⟨w1.heap.size, 0, none⟩ v') := by
  refine ⟨hb2, hb2.size, fun k h1 h2 => ?_⟩
  have hne : some k ≠ v.ownBlock := by
   have hk : k = w1.heap.size + 1 ∨ k = w1.heap.size + 1 + 1 ∨ k = w1.heap.size + 1 + 2 := by omega
   rcases hk with rfl | rfl | rfl
   ·
    exact hx.s.not_row (by decide) ho
   ·
    exact hx.lo.not_row (by decide) ho
   ·
    exact hx.hi.not_row (by decide) ho
  have hlt : k < W.heap.size := by have := hx.hi.lt; omega
  rw [Below.heap_setCell w5 ⟨w1.heap.size, 0, none⟩ v' k (by simp; omega)]
  exact (hg.block k (by simp; omega) hne).trans (Below.heap_alloc W tmp k hlt)
 exact ⟨hv1, hk2.from _, hkp, ⟨_, hv2, hr2⟩, hx.kept hkp, hb.trans hb2⟩

end Go.Proofs.YtnijgbinjbikbaaGreat

namespace Go.Proofs.YtnijgbinjbikbaaGreat
open Go.RowKit Go.Shelf
set_option linter.unusedVariables false
attribute [local go_sem] Oper.semAt_some

end Go.Proofs.YtnijgbinjbikbaaGreat

namespace Go.Proofs.YtnijgbinjbikbaaGreat
open Go.RowKit
set_option linter.unusedVariables false

theorem specInO {v : Value} {l : List R} {base : Nat} {w : World} (lo hi : ByteArray) (h : OwnR w base v l) (hf : FitR l) (hl : l.length ≤ 1048576) :
  Calls Tryz.prog 106 #[v, .string lo, .string hi] w (RetR w (inV l lo hi)) := by
 obtain ⟨A, c, rfl, h1, h2, hr⟩ := h.read
 exact specIn A c l lo hi w hf h1 h2 hl hr

/-- rows of which something is not valid -/
theorem inV_rows {l : List R} (h : RowsP l) (lo hi : ByteArray) : RowsP (inL l lo hi) := by
 obtain ⟨h1, h2, h3⟩ := rowsP_iff.1 h
 exact rowsP_iff.2 ⟨Nat.le_trans (inL_length l lo hi) h1, fun r hr => h2 r (List.mem_filter.1 hr).1, List.Pairwise.sublist List.filter_sublist h3⟩
theorem inL_twice (l : List R) (lo hi : ByteArray) : inL (inL l lo hi) lo hi = inL l lo hi := by unfold inL; rw [List.filter_filter]; simp
theorem let_step {a : UInt8} {x y : List UInt8} (h : letB a = true) (k : Op.bytesLess x y = false) : Op.bytesLess (122 :: x) (a :: y) = false := by
 have h2 : ¬ (122 : UInt8) < a := by
  intro e
  have e2 : (122 : UInt8).toNat < a.toNat := e
  have : a.toNat ≤ 122 := by unfold letB at h; simp at h; exact h.2
  have e3 : (122 : UInt8).toNat = 122 := rfl
  omega
 unfold Op.bytesLess
 rw [k, decide_eq_false h2]; simp
theorem key_bytes : (x : List UInt8) → x.length ≤ 2 → x.all letB = true → Op.bytesLess [122, 122, 122] x = false
 | [], _, _ => rfl
 | [a], _, h => by
  simp only [List.all_cons, Bool.and_eq_true] at h
  exact let_step h.1 rfl
 | [a, b], _, h => by
  simp only [List.all_cons, Bool.and_eq_true] at h
  exact let_step h.1 (let_step h.2.1 rfl)
 | _ :: _ :: _ :: _, h, _ => by simp at h
theorem emp_list : (⟨#[]⟩ : ByteArray).toList = [] := by rw [ByteArray.toList_eq]
theorem zzz_list : (⟨#[122, 122, 122]⟩ : ByteArray).toList = [122, 122, 122] := by rw [ByteArray.toList_eq]
theorem low_emp (x : List UInt8) : Op.bytesLess x [] = false := by cases x <;> rfl
/-- every key lies between the empty text and 'zzz' -/
theorem key_mid {k : ByteArray} (h : keyB k = true) : midB ⟨#[]⟩ ⟨#[122, 122, 122]⟩ k = true := by
 unfold keyB at h
 simp only [Bool.and_eq_true, decide_eq_true_eq] at h
 unfold midB lt
 rw [emp_list, zzz_list, low_emp, key_bytes k.toList (by rw [ByteArray.toList_eq]; exact h.1.2) (by rw [ByteArray.toList_eq]; exact h.2)]
 rfl
theorem in_all {l : List R} (h : RowsP l) : inL l ⟨#[]⟩ ⟨#[122, 122, 122]⟩ = l := by
 obtain ⟨h1, h2, h3⟩ := rowsP_iff.1 h
 unfold inL
 rw [List.filter_eq_self]
 exact fun r hr => key_mid (h2 r hr).1
/-- the empty text is no key -/
theorem look_emp {l : List R} (h : RowsP l) : look ⟨#[]⟩ l = none := by
 cases e : look ⟨#[]⟩ l with
 | none => rfl
 | some z =>
  have := ((rowsP_iff.1 h).2.1 _ (look_mem e)).1
  cases this
/-- nothing lies between two texts that are not in order -/
theorem in_none {l : List R} {lo hi : ByteArray} (h : lt hi lo = true) : inL l lo hi = [] := by
 unfold inL
 rw [List.filter_eq_nil_iff]
 intro r _ hr
 unfold midB at hr
 simp only [Bool.and_eq_true, Bool.not_eq_true'] at hr
 by_cases e : r.1 = lo
 ·
  rw [e, h] at hr; cases hr.2
 ·
  have := lt_trans h (gt_of hr.1 e); rw [this] at hr; cases hr.2

end Go.Proofs.YtnijgbinjbikbaaGreat
