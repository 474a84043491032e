/- RowsIn of the model. -/
import Derived.Test.YtabpepddbkipiaaWp
namespace Go.Proofs.Ytabpepddbkipiaa
open Go.RowKit
set_option linter.unusedVariables false

/-- the key lies between the two texts -/
def midB (lo hi k : ByteArray) : Bool := !lt k lo && !lt hi k
def inL (l : List R) (lo hi : ByteArray) : List R := l.filter fun r => midB lo hi r.1
noncomputable def inV (l : List R) (lo hi : ByteArray) : List R := if rowsB l then inL l lo hi else []
theorem inL_length (l : List R) (lo hi : ByteArray) : (inL l lo hi).length ≤ l.length := List.length_filter_le _ _
theorem inV_length (l : List R) (lo hi : ByteArray) : (inV l lo hi).length ≤ l.length := by
  unfold inV
  split
  · exact inL_length l lo hi
  · simp
theorem inL_yes {l : List R} {lo hi : ByteArray} {k : Nat} (hk : k < l.length) (h : midB lo hi l[k].1 = true) : inL (l.take (k + 1)) lo hi = inL (l.take k) lo hi ++ [l[k]] := by
  rw [List.take_succ_eq_append_getElem hk]; unfold inL; simp only [List.filter_append, List.filter_cons, h, if_true, List.filter_nil]
theorem inL_no {l : List R} {lo hi : ByteArray} {k : Nat} (hk : k < l.length) (h : midB lo hi l[k].1 = false) : inL (l.take (k + 1)) lo hi = inL (l.take k) lo hi := by
  rw [List.take_succ_eq_append_getElem hk]; unfold inL; rw [List.filter_append, List.filter_cons_of_neg (by rw [h]; simp)]; simp
theorem le_yes {a b : ByteArray} (h : Op.bytesLess b.toList a.toList = false) : Op.bytesLess a.toList b.toList = true ∨ (Op.bytesLess a.toList b.toList = false ∧ (a.toList == b.toList) = true) := by
  cases h1 : Op.bytesLess a.toList b.toList
  · right
    refine ⟨rfl, ?_⟩
    have e : a = b := lt_tri h1 h
    rw [e]; simp
  · left; rfl
theorem le_no {a b : ByteArray} (h : Op.bytesLess b.toList a.toList = true) : Op.bytesLess a.toList b.toList = false ∧ (a.toList == b.toList) = false := by
  have h1 : lt b a = true := h
  exact ⟨lt_asymm h1, str_ne fun e => lt_ne h1 e.symm⟩
theorem FitR.inL {l : List R} (h : FitR l) (lo hi : ByteArray) : FitR (inL l lo hi) := fun r hr => h r ((List.mem_filter.1 hr).1)
theorem FitR.inV {l : List R} (h : FitR l) (lo hi : ByteArray) : FitR (inV l lo hi) := by
  unfold Go.Proofs.Ytabpepddbkipiaa.inV
  split
  · exact h.inL lo hi
  · exact fun r hr => by simp at hr

set_option maxRecDepth 100000 in
set_option maxHeartbeats 2000000 in
theorem specIn (A : Option Addr) (c : Nat) (l : List R) (lo hi : ByteArray) (w : World) (hfit : FitR l) (hlc : l.length ≤ c) (hcm : c ≤ maxLen) (hc : l.length ≤ 1048576) (hr0 : Rd w w.heap.size A l) :
    Calls Try.prog 36 #[.slice A l.length c, .string lo, .string hi] w (RetR w (inV l lo hi)) := by
  cases hok : rowsB l
  · have HV := Lib.hid (show inV l lo hi = [] from by unfold inV; rw [hok]; rfl)
    rw [HV.out]
    have hO0 := OwnR.fresh w _ (Nat.le_refl _)
    have hb0 := below_alloc (Below.refl _ w) (.cells #[] 50)
    go_enter Try.func36, Try.ntmps36
    go_wp2
    go_loopw [7, 8] (fun o i W => i = .int .i64 0 ∧ OwnR W w.heap.size o [] ∧ Below w.heap.size w W) (fun _ _ _ => 0)
    case atStart => exact ⟨rfl, hO0, hb0⟩
    case round =>
      obtain ⟨rfl, hown, hb⟩ := hrel
      have hr := (hr0.below hb).more hb.size
      by_cases hl : 0 < l.length
      · have hl1 : (0 : Int) < (l.length : Int) := by omega
        go_wp2_with fail
        refine (specRowsOk A c l wr hfit hlc hcm hr).mono ?_
        rintro e w1 ⟨rfl, n1, rfl⟩
        rw [hok]
        go_wp2
        go_ret
        exact ⟨_, rfl, hown.next (below_drewN (Below.refl _ _) _), below_drewN hb _⟩
      · have hl1 : decide ((0 : Int) < (l.length : Int)) = false := decide_eq_false (by omega)
        have hl2 : decide (0 < l.length) = false := decide_eq_false (by omega)
        go_wp2
        go_ret
        exact ⟨_, rfl, hown, hb⟩
  · have HV := Lib.hid (show inV l lo hi = inL l lo hi from by unfold inV; rw [hok]; rfl)
    rw [HV.out]
    have hO0 := OwnR.fresh w _ (Nat.le_refl _)
    have hb0 := below_alloc (Below.refl _ w) (.cells #[] 50)
    go_enter Try.func36, Try.ntmps36
    go_wp2
    go_loopw [7, 8] (fun o i W => ∃ k : Nat, k ≤ l.length ∧ i = .int .i64 k ∧ OwnR W w.heap.size o (inL (l.take k) lo hi) ∧ Below w.heap.size w W) (fun _ i _ => l.length - (intOf i).toNat)
    case atStart => exact ⟨0, Nat.zero_le _, rfl, hO0, hb0⟩
    case round =>
      obtain ⟨k, hk, rfl, hown, hb⟩ := hrel
      have hr := (hr0.below hb).more hb.size
      have hlen := inL_length (l.take k) lo hi
      rw [List.length_take] at hlen
      by_cases hkl : k < l.length
      · have hl1 : (k : Int) < (l.length : Int) := by omega
        have hyes := fun h => inL_yes (l := l) (lo := lo) (hi := hi) hkl h
        have hno := fun h => inL_no (l := l) (lo := lo) (hi := hi) hkl h
        have HY := Lib.hid hyes
        have HN := Lib.hid hno
        clear hyes hno
        generalize inL (l.take k) lo hi = out at *
        go_wp2_with fail
        refine (specRowsOk A c l wr hfit hlc hcm hr).mono ?_
        rintro e w1 ⟨rfl, n1, rfl⟩
        rw [hok]
        have hb1 := below_drewN hb n1
        have hown1 := hown.next (below_drewN (Below.refl _ _) n1)
        have hr1 := (hr0.below hb1).more hb1.size
        generalize wr.drewN n1 = w1 at *
        obtain ⟨b, o, rfl, hbB, hc1, hc2⟩ := hr1.at_ hkl
        cases h1 : Op.bytesLess l[k].1.toList lo.toList
        · cases h2 : Op.bytesLess hi.toList l[k].1.toList
          · have hm : midB lo hi l[k].1 = true := by unfold midB lt; rw [h1, h2]; rfl
            have HE := Lib.hid (HY.out hm)
            clear hm
            rcases le_yes h2 with h3 | ⟨h3, h4⟩
            · go_wp2_with ((at_builtin; refine wpList_appR (w1.alloc (.cells #[.string l[k].1, .int .i64 l[k].2] 50)) rfl _ _ _ _ 50 rfl Try.underlying26 Try.underlying26 w.heap.size _ out rfl (hown1.alloc _) (some ⟨w1.heap.size, 0, none⟩) 1 _ 1 [(l[k].1, l[k].2)] rfl rfl (rdOne w1 l[k].1 l[k].2 50) (by simp; omega) (by have := hb1.size; simp; omega) ?_; intro v5 w5 hown5 hgr5 hat5))
              go_roundw
              case rel => exact ⟨k + 1, by omega, by go_num, by rw [HE.out]; exact hown5, belowApp (below_alloc hb1 _) (hown1.alloc _) hgr5⟩
              case measure => simp [intOf]; omega
            · go_wp2_with ((at_builtin; refine wpList_appR (w1.alloc (.cells #[.string l[k].1, .int .i64 l[k].2] 50)) rfl _ _ _ _ 50 rfl Try.underlying26 Try.underlying26 w.heap.size _ out rfl (hown1.alloc _) (some ⟨w1.heap.size, 0, none⟩) 1 _ 1 [(l[k].1, l[k].2)] rfl rfl (rdOne w1 l[k].1 l[k].2 50) (by simp; omega) (by have := hb1.size; simp; omega) ?_; intro v5 w5 hown5 hgr5 hat5))
              go_roundw
              case rel => exact ⟨k + 1, by omega, by go_num, by rw [HE.out]; exact hown5, belowApp (below_alloc hb1 _) (hown1.alloc _) hgr5⟩
              case measure => simp [intOf]; omega
          · have hm : midB lo hi l[k].1 = false := by unfold midB lt; rw [h1, h2]; rfl
            have HE := Lib.hid (HN.out hm)
            obtain ⟨h3, h4⟩ := le_no h2
            clear hm
            go_wp2
            go_roundw
            case rel => exact ⟨k + 1, by omega, by go_num, by rw [HE.out]; exact hown1, hb1⟩
            case measure => simp [intOf]; omega
        · have hm : midB lo hi l[k].1 = false := by unfold midB lt; rw [h1]; rfl
          have HE := Lib.hid (HN.out hm)
          clear hm
          go_wp2
          go_roundw
          case rel => exact ⟨k + 1, by omega, by go_num, by rw [HE.out]; exact hown1, hb1⟩
          case measure => simp [intOf]; omega
      · have hl1 : decide ((k : Int) < (l.length : Int)) = false := decide_eq_false (by omega)
        have hl2 : decide (k < l.length) = false := decide_eq_false (by omega)
        rw [List.take_of_length_le (by omega)] at hown
        go_wp2
        go_ret
        exact ⟨_, rfl, hown, hb⟩

end Go.Proofs.Ytabpepddbkipiaa
