/- RowsIn of the program: its iterator. -/
import Derived.RangeFuncNested
import Derived.RangeFuncBound
import Derived.RangeFuncCalls
import Derived.RangeFuncLeaves
import Derived.RangeFuncBox
import Derived.Shelf.Abstract
import Derived.Shelf.RegionOpen
import Derived.WalkKit
import Derived.OwnWalkIn
import Derived.TacticsInMore
import Derived.LoopNIn
import Derived.LoopIn
import Derived.Maps.AppendAt
import Derived.Stop.RegionWithIn
import Derived.Deep.RegionWith
import Derived.Test.YtabpepddbkipiaaIn0
namespace Go.Proofs.Ytabpepddbkipiaa
open Go.RowKit Go.Shelf
set_option linter.unusedVariables false
attribute [local go_sem] Oper.semAt_some

theorem grown_below {w w' : World} (hb : Below w.heap.size w w') : w.grownBy w' none := ⟨hb.os, hb.tape, hb.output, hb.size, fun k hk _ => hb.block k hk⟩
def encR (x : R) : Value := .agg #[.string x.1, .int .i64 x.2]
/-- what a round keeps: all below n₀, and the three boxes -/
def KpB (n₀ Bn : Nat) (W W' : World) : Prop := Below n₀ W W' ∧ W.heap.size ≤ W'.heap.size ∧ ∀ k, Bn ≤ k → k < Bn + 3 → W'.heap[k]? = W.heap[k]?
structure Boxes (W : World) (Bn : Nat) (A : Option Addr) (n c : Nat) (lo hi : ByteArray) : Prop where
  s : Boxed W Bn 64 (.slice A n c)
  lo : Boxed W (Bn + 1) 9 (.string lo)
  hi : Boxed W (Bn + 2) 9 (.string hi)
theorem Boxes.kept {W W' : World} {Bn n c n₀ : Nat} {A : Option Addr} {lo hi : ByteArray} (h : Boxes W Bn A n c lo hi) (hk : KpB n₀ Bn W W') : Boxes W' Bn A n c lo hi :=
  ⟨(hk.2.2 Bn (by omega) (by omega)).trans h.s, (hk.2.2 (Bn + 1) (by omega) (by omega)).trans h.lo, (hk.2.2 (Bn + 2) (by omega) (by omega)).trans h.hi⟩
theorem Boxes.next {W W' : World} {Bn n c : Nat} {A : Option Addr} {lo hi : ByteArray} (h : Boxes W Bn A n c lo hi) (hb : Below W.heap.size W W') : Boxes W' Bn A n c lo hi :=
  ⟨(hb.block _ h.s.lt).trans h.s, (hb.block _ h.lo.lt).trans h.lo, (hb.block _ h.hi.lt).trans h.hi⟩

/-- a round's two ways out, by its answer -/
theorem yield_t {m l0 n₀ Bn : Nat} {args : Array Value} {W : World} {p q : World → Prop} (h : YieldAt Fence.wide m Try.prog l0 args W fun e W' => (e = .returned (.bool true) ∧ p W' ∧ KpB n₀ Bn W W') ∨ (e = .returned (.bool false) ∧ q W')) :
    YieldAt Fence.wide m Try.prog l0 args W fun e W' => ∃ t, e = .returned (.bool t) ∧ ((t = true ∧ p W' ∧ KpB n₀ Bn W W') ∨ (t = false ∧ q W')) := by
  obtain ⟨fn, tmps, assign, body, hy, hR⟩ := h
  refine ⟨fn, tmps, assign, body, hy, hR.mono ?_⟩
  rintro e w' (⟨rfl, h1, h2⟩ | ⟨rfl, h1⟩)
  · exact ⟨true, rfl, .inl ⟨rfl, h1, h2⟩⟩
  · exact ⟨false, rfl, .inr ⟨rfl, h1⟩⟩
theorem in_eq {l : List R} {lo hi : ByteArray} (hs : Srt l) (j : Nat) (h1 : ∀ r ∈ (l.drop (posN l lo)).take j, lt hi r.1 = false) (h2 : ∀ r ∈ (l.drop (posN l lo)).drop j, lt hi r.1 = true) : inL l lo hi = (l.drop (posN l lo)).take j := by
  have hp := posN_pos l lo
  have e : l = l.take (posN l lo) ++ ((l.drop (posN l lo)).take j ++ (l.drop (posN l lo)).drop j) := by rw [List.take_append_drop, List.take_append_drop]
  have hge : ∀ r ∈ l.drop (posN l lo), lt r.1 lo = false := fun r hr => by
    obtain ⟨i, hi, rfl⟩ := List.getElem_of_mem hr
    rw [List.length_drop] at hi
    rw [List.getElem_drop]
    have h0 := hp.at_ (by omega)
    cases h : lt (l[posN l lo + i]).1 lo
    · rfl
    · by_cases hi0 : i = 0
      · subst hi0; rw [← h0, ← h]; rfl
      · have := (List.pairwise_iff_getElem.1 hs) (posN l lo) (posN l lo + i) (by omega) (by omega) (by omega)
        rw [lt_trans this h] at h0; cases h0
  conv => lhs; rw [e]
  unfold inL
  rw [List.filter_append, List.filter_append]
  have e1 : (l.take (posN l lo)).filter (fun r => midB lo hi r.1) = [] := by
    rw [List.filter_eq_nil_iff]
    intro r hr
    obtain ⟨i, hi', rfl⟩ := List.getElem_of_mem hr
    rw [List.length_take] at hi'
    rw [List.getElem_take]
    unfold midB
    rw [hp.low i (by omega) (by omega)]; simp
  have e2 : ((l.drop (posN l lo)).take j).filter (fun r => midB lo hi r.1) = (l.drop (posN l lo)).take j := by
    rw [List.filter_eq_self]
    intro r hr
    unfold midB
    rw [hge r (List.mem_of_mem_take hr), h1 r hr]; rfl
  have e3 : ((l.drop (posN l lo)).drop j).filter (fun r => midB lo hi r.1) = [] := by
    rw [List.filter_eq_nil_iff]
    intro r hr
    unfold midB
    rw [h2 r hr]; simp
  rw [e1, e2, e3]; simp

set_option maxRecDepth 100000 in
set_option maxHeartbeats 4000000 in
theorem between1_c (n l0 Bn n₀ : Nat) (A : Option Addr) (c : Nat) (l : List R) (lo hi : ByteArray) (hlc : l.length ≤ c) (hc : l.length ≤ 1048576) (hS : Srt l) (J Jx : List R → World → Prop)
    (W : World) (hJ : AbidesFrom W.heap.size J)
    (hY : ∀ pre x W1, J pre W1 → pre.length < l.length → YieldAt Fence.wide (n - 1) Try.prog l0 #[encR x] W1 fun e W' =>
      (e = .returned (.bool true) ∧ J (pre ++ [x]) W' ∧ KpB n₀ Bn W1 W') ∨ (e = .returned (.bool false) ∧ Jx (pre ++ [x]) W'))
    (hn₀ : n₀ ≤ W.heap.size) (hBn : n₀ ≤ Bn) (hbx : Boxes W Bn A l.length c lo hi) (hr : Rd W n₀ A l) (h0 : J [] W) :
    Calls Try.prog 78 #[.func (.yield l0) #[] #[], .pointer (some ⟨Bn, 0, none⟩), .pointer (some ⟨Bn + 1, 0, none⟩), .pointer (some ⟨Bn + 2, 0, none⟩)] W fun e W' => (∃ v, e = .returned v) ∧
      ((∃ ys, ys = inL l lo hi ∧ J ys W') ∨ (∃ pre, True ∧ Jx pre W')) := by
  have hm := method_key
  have hxs := hbx.s.cell
  have hxl := hbx.lo.cell
  go_enter Try.func78, Try.ntmps78
  go_wp2_with fail
  refine (implFind A c l lo W (by omega) (hr.more hn₀) hS.asc).mono ?_
  rintro e w1 ⟨rfl, hb1⟩
  have hJ1 : J [] w1 := hJ _ _ _ none h0 (grown_below hb1) (fun _ h => by cases h)
  have hbx1 := hbx.next hb1
  have hr1 := hr.below (hb1.mono hn₀)
  have hxs1 := hbx1.s.cell
  have hple := (posN_pos l lo).le
  have HIN := Lib.hid (fun j h1 h2 => in_eq (lo := lo) (hi := hi) hS j h1 h2)
  generalize hp : posN l lo = p at *
  have HP := Lib.hid hp
  clear hp
  have hcut := runCut 64 Try.underlying64 A l.length c p hple hlc
  have hd1 := (hr1.drop p c hlc)
  have hd1 : Rd w1 n₀ (cutA A c p) (l.drop p) := hr1.drop p c hlc
  have hdl : (l.drop p).length = l.length - p := List.length_drop
  have hsz1 : W.heap.size ≤ w1.heap.size := hb1.size
  have hSd : Srt (l.drop p) := List.Pairwise.sublist (List.drop_sublist p l) hS
  generalize hD : l.drop p = d at *
  clear hD
  generalize hN : l.length - p = m at *
  generalize cutA A c p = A2 at *
  have hml : m ≤ 1048576 := by omega
  go_wp2
  clear hcut
  go_loopw [19] (fun i wr => ∃ j : Nat, j ≤ d.length ∧ i = .int .i64 j ∧ J (d.take j) wr ∧ Boxes wr Bn A l.length c lo hi ∧ Rd wr n₀ A2 d ∧ (∀ r ∈ d.take j, lt hi r.1 = false)) (fun i _ => d.length - (intOf i).toNat)
  case atStart => exact ⟨0, Nat.zero_le _, rfl, hJ1, hbx1, hd1, by simp⟩
  case round =>
    obtain ⟨j, hj, rfl, hJr, hbxr, hdr, hall⟩ := hrel
    by_cases hjl : j < d.length
    · have hi1 : (j : Int) < (m : Int) := by omega
      obtain ⟨b, o, rfl, hbB, hc1, hc2⟩ := hdr.at_ hjl
      have hdm : d[j] ∈ d := List.getElem_mem hjl
      go_wp2
      have hb3 : Below wr.heap.size wr (wr.alloc (.cells #[.string d[j].1, .int .i64 d[j].2] 50)) := below_alloc (Below.refl _ _) _
      have k1 : (wr.alloc (.cells #[.string d[j].1, .int .i64 d[j].2] 50)).cell? ⟨wr.heap.size, 0, none⟩ = some (.string d[j].1) := by rw [World.cell?_alloc_at _ _ _ _ rfl]; rfl
      have k2 : (wr.alloc (.cells #[.string d[j].1, .int .i64 d[j].2] 50)).cell? ⟨wr.heap.size, 1, none⟩ = some (.int .i64 d[j].2) := by rw [World.cell?_alloc_at _ _ _ _ rfl]; rfl
      have hlt3 : wr.heap.size < (wr.alloc (.cells #[.string d[j].1, .int .i64 d[j].2] 50)).heap.size := by simp
      generalize wr.alloc (.cells #[.string d[j].1, .int .i64 d[j].2] 50) = w3 at *
      have hbx3 := hbxr.next hb3
      have k3 := hbx3.hi.cell
      have hbT : Below w3.heap.size w3 w3.drew := (Below.refl _ _).drew
      cases hgt : Op.bytesLess hi.toList d[j].1.toList
      · have hgt' : lt hi d[j].1 = false := hgt
        have HALL := Lib.hid (show ∀ r ∈ d.take (j + 1), lt hi r.1 = false from fun r hr => by
          rw [List.take_succ_eq_append_getElem hjl] at hr
          rcases List.mem_append.1 hr with hr | hr
          · exact hall r hr
          · rw [List.mem_singleton.1 hr]; exact hgt')
        clear hall
        rcases le_yes hgt with h3 | ⟨h3, h4⟩
        · refine (wpIn_wide (n := n)).1 ?_
          gi_region_with (first
            | (refine ⟨trivial, (fun h => by cases h), (callsIn_wide.2 (sortKey_c _ _ _)).mono ?_⟩
               rintro e wk ⟨rfl, hbk⟩
               have hb3k := below_next hbT hbk
               have hbk0 := below_next hb3 hb3k
               have k1' := (hb3k.cell (p := ⟨wr.heap.size, 0, none⟩) hlt3).trans k1
               have k2' := (hb3k.cell (p := ⟨wr.heap.size, 1, none⟩) hlt3).trans k2
               have hbxk := hbxr.next hbk0
               have k3' := hbxk.hi.cell
               obtain ⟨fn, tmps, assign, body, hy, hR⟩ := yield_t (hY (d.take j) d[j] wk (hJ _ _ _ none hJr (grown_below hbk0) (fun _ h => by cases h)) (by rw [List.length_take]; omega))
               dsimp only [encR] at hy)
            | (refine ⟨(fun h => by cases h), hR.mono ?_⟩
               rintro e w5 ⟨t, rfl, hT⟩))
          all_goals
            rcases hT with ⟨rfl, hJ5, hk5⟩ | ⟨rfl, hx5⟩
            · go_wp2
              go_roundw
              case rel => exact ⟨j + 1, by omega, by go_num, by rw [List.take_succ_eq_append_getElem hjl]; exact hJ5, hbxk.kept hk5, hdr.below ((hbk0.mono (by have := hbxr.s.lt; omega)).trans hk5.1), HALL.out⟩
              case measure => simp [intOf]; omega
            · go_wp2
              refine bodyPost_ret (results_none rfl _ _ _) rfl ?_
              exact ⟨⟨_, rfl⟩, .inr ⟨_, trivial, hx5⟩⟩
        · refine (wpIn_wide (n := n)).1 ?_
          gi_region_with (first
            | (refine ⟨trivial, (fun h => by cases h), (callsIn_wide.2 (sortKey_c _ _ _)).mono ?_⟩
               rintro e wk ⟨rfl, hbk⟩
               have hb3k := below_next hbT hbk
               have hbk0 := below_next hb3 hb3k
               have k1' := (hb3k.cell (p := ⟨wr.heap.size, 0, none⟩) hlt3).trans k1
               have k2' := (hb3k.cell (p := ⟨wr.heap.size, 1, none⟩) hlt3).trans k2
               have hbxk := hbxr.next hbk0
               have k3' := hbxk.hi.cell
               obtain ⟨fn, tmps, assign, body, hy, hR⟩ := yield_t (hY (d.take j) d[j] wk (hJ _ _ _ none hJr (grown_below hbk0) (fun _ h => by cases h)) (by rw [List.length_take]; omega))
               dsimp only [encR] at hy)
            | (refine ⟨(fun h => by cases h), hR.mono ?_⟩
               rintro e w5 ⟨t, rfl, hT⟩))
          all_goals
            rcases hT with ⟨rfl, hJ5, hk5⟩ | ⟨rfl, hx5⟩
            · go_wp2
              go_roundw
              case rel => exact ⟨j + 1, by omega, by go_num, by rw [List.take_succ_eq_append_getElem hjl]; exact hJ5, hbxk.kept hk5, hdr.below ((hbk0.mono (by have := hbxr.s.lt; omega)).trans hk5.1), HALL.out⟩
              case measure => simp [intOf]; omega
            · go_wp2
              refine bodyPost_ret (results_none rfl _ _ _) rfl ?_
              exact ⟨⟨_, rfl⟩, .inr ⟨_, trivial, hx5⟩⟩
      · have hgt' : lt hi d[j].1 = true := hgt
        have HE := Lib.hid (HIN.out j hall fun r hr => by
          obtain ⟨i, hi', rfl⟩ := List.getElem_of_mem hr
          rw [List.length_drop] at hi'
          rw [List.getElem_drop]
          by_cases hi0 : i = 0
          · subst hi0; exact hgt'
          · exact lt_trans hgt' ((List.pairwise_iff_getElem.1 hSd) j (j + i) (by omega) (by omega) (by omega)))
        obtain ⟨h3, h4⟩ := le_no hgt
        first
          | go_region_with ((go_at_call 95; refine (sortKey_c _ _ _).mono ?_; rintro e wk ⟨rfl, hbk⟩; have hb3k := below_next hbT hbk; have k1' := (hb3k.cell (p := ⟨wr.heap.size, 0, none⟩) hlt3).trans k1; have k2' := (hb3k.cell (p := ⟨wr.heap.size, 1, none⟩) hlt3).trans k2; have k3' := (hb3k.cell (p := ⟨Bn + 2, 0, none⟩) hbx3.hi.lt).trans k3))
          | fail
        all_goals
          go_wp2
          refine bodyPost_ret (results_none rfl _ _ _) rfl ?_
          exact ⟨⟨_, rfl⟩, .inl ⟨_, HE.out.symm, hJ _ _ _ none hJr (grown_below (below_next hb3 hb3k)) (fun _ h => by cases h)⟩⟩
    · have hi1 : decide ((j : Int) < (m : Int)) = false := decide_eq_false (by omega)
      have hi2 : decide (j < m) = false := decide_eq_false (by omega)
      have HE := Lib.hid (HIN.out j hall fun r hr => by rw [List.drop_of_length_le (by omega)] at hr; cases hr)
      go_wp2
      go_end0
      exact ⟨⟨_, rfl⟩, .inl ⟨_, HE.out.symm, hJr⟩⟩

end Go.Proofs.Ytabpepddbkipiaa
