/- Chapter 2, the model: when a version is right, when it may stand ahead of another one, what stands at a time, when all that ever stood is right. -/
import Derived.Test.YtbhdgalkedegjaaArVers
import Derived.Test.YtbhdgalkedegjaaArWrite
import Derived.Test.YtbhdgalkedegjaaRok
import Derived.Test.YtbhdgalkedegjaaIok
namespace Go.Proofs.Ytbhdgalkedegjaa
open Go.RowKit
set_option linter.unusedVariables false
set_option maxRecDepth 100000

def verB (z : Int) (x : V) : Bool := keyB x.k && numB x.n && decide (1 ≤ x.f) && decide (x.f ≤ z) && (decide (x.t = 0) || decide (x.f < x.t) && decide (x.t ≤ z))

set_option maxHeartbeats 1000000 in
theorem specVer (x : V) (z : Int) (w : World) (hs : x.k.size ≤ maxLen) : Calls Try.prog 59 #[.agg #[.string x.k, .int .i64 x.n, .int .i64 x.f, .int .i64 x.t], .int .i64 z] w fun e w' => e = .returned (.bool (verB z x)) ∧ Below w.heap.size w w' := by
  go_enter Try.func59, Try.ntmps59
  go_wp2_with (first | (go_at_call 76; refine (specKey _ _ hs).mono ?_; rintro e w' ⟨rfl, rfl⟩) | (go_at_call 77; refine (specNum _ _).mono ?_; rintro e w' ⟨rfl, rfl⟩))
  all_goals
    go_ret
    refine ⟨ret_bool ?_, (by (repeat (first | exact Below.refl _ _ | (refine Below.setCell ?_ (by simp <;> omega) _) | (refine Below.alloc ?_ (by simp <;> omega) _) | (refine Below.drew ?_))))⟩
    unfold verB
    first | (simp_all <;> done) | (rw [Bool.eq_iff_iff]; simp_all <;> omega)

/-- a may stand ahead of b -/
noncomputable def aheadB (a b : V) : Bool := if a.k.toList == b.k.toList then decide (0 < a.t) && decide (a.t ≤ b.f) else lt a.k b.k

set_option maxHeartbeats 1000000 in
theorem specAhead (x y : V) (w : World) : Calls Try.prog 60 #[.agg #[.string x.k, .int .i64 x.n, .int .i64 x.f, .int .i64 x.t], .agg #[.string y.k, .int .i64 y.n, .int .i64 y.f, .int .i64 y.t]] w fun e w' => e = .returned (.bool (aheadB x y)) ∧ Below w.heap.size w w' := by
  go_enter Try.func60, Try.ntmps60
  go_wp2
  all_goals
    go_ret
    refine ⟨ret_bool ?_, (by (repeat (first | exact Below.refl _ _ | (refine Below.setCell ?_ (by simp <;> omega) _) | (refine Below.alloc ?_ (by simp <;> omega) _) | (refine Below.drew ?_))))⟩
    unfold aheadB lt
    first | (simp_all <;> done) | (simp_all <;> omega)

/-- it stands at a time -/
def visB (t : Int) (x : V) : Bool := decide (x.f ≤ t) && (decide (x.t = 0) || decide (t < x.t))
def rowOf (x : V) : R := (x.k, x.n)
def atL (l : List V) (t : Int) : List R := (l.filter (visB t)).map rowOf
theorem atL_yes {l : List V} {t : Int} {k : Nat} (hk : k < l.length) (h : visB t l[k] = true) : atL (l.take (k + 1)) t = atL (l.take k) t ++ [(l[k].k, l[k].n)] := by
  rw [List.take_succ_eq_append_getElem hk]; unfold atL; simp only [List.filter_append, List.filter_cons, h, if_true, List.filter_nil, List.map_append, List.map_cons, List.map_nil]; rfl
theorem atL_no {l : List V} {t : Int} {k : Nat} (hk : k < l.length) (h : visB t l[k] = false) : atL (l.take (k + 1)) t = atL (l.take k) t := by
  rw [List.take_succ_eq_append_getElem hk]; unfold atL; rw [List.filter_append, List.filter_cons_of_neg (by rw [h]; simp)]; simp
theorem atL_length (l : List V) (t : Int) : (atL l t).length ≤ l.length := by unfold atL; rw [List.length_map]; exact List.length_filter_le _ _

theorem lenI (k n : Nat) (h : k < n) : (k : Int) < (n : Int) := by omega

set_option maxHeartbeats 2000000 in
theorem specAt (z : Int) (A : Option Addr) (c : Nat) (l : List V) (t : Int) (w : World) (hlc : l.length ≤ c) (hc : l.length ≤ 1048577) (hr : RdG w w.heap.size A l) :
    Calls Try.prog 61 #[.agg #[.int .i64 z, .slice A l.length c], .int .i64 t] w (RetR w (atL l t)) := by
  go_enter Try.func61, Try.ntmps61
  go_wp2
  have hb0 : Below w.heap.size w (w.alloc (.cells #[.int .i64 z, .slice A l.length c] 29)) := below_alloc (Below.refl _ _) _
  have hB0 := blkA w #[.int .i64 z, .slice A l.length c] 29
  have hO0 := OwnR.fresh (w.alloc (.cells #[.int .i64 z, .slice A l.length c] 29)) (w.alloc (.cells #[.int .i64 z, .slice A l.length c] 29)).heap.size (Nat.le_refl _)
  go_loopw [5, 6] (fun s i W => ∃ k : Nat, k ≤ l.length ∧ i = .int .i64 k ∧ OwnR W (w.heap.size + 1) s (atL (l.take k) t) ∧ Blk W w.heap.size 29 #[.int .i64 z, .slice A l.length c] ∧ Below w.heap.size w W) (fun _ i _ => l.length - (intOf i).toNat)
  case atStart => exact ⟨0, Nat.zero_le _, by simp, by simpa [atL] using hO0, hB0.alloc _, below_alloc hb0 _⟩
  case round =>
    obtain ⟨k, hk, rfl, hO, hB, hb⟩ := hrel
    have c1 : wr.cell? ⟨w.heap.size, 1, none⟩ = some (.slice A l.length c) := by rw [hB.cell]; rfl
    by_cases hkl : k < l.length
    · obtain ⟨b, o, rfl, hbB, hc0, hc1, hc2, hc3⟩ := (hr.below hb).atV hkl
      have hkI := lenI _ _ hkl
      cases hv : visB t l[k]
      · have HE := Lib.hid (atL_no hkl hv)
        unfold visB at hv
        have hd : decide (l[k].f ≤ t) = false ∨ (decide (l[k].f ≤ t) = true ∧ (l[k].t == 0) = false ∧ decide (t < l[k].t) = false) := by
          simp at hv ⊢
          omega
        clear hv
        rcases hd with hd | ⟨hd, hd1, hd2⟩
        · go_wp2
          go_roundw
          case rel => exact ⟨k + 1, by omega, by go_num, by rw [HE.out]; exact hO.alloc _, hB.alloc _, below_alloc hb _⟩
          case measure => simp [intOf]; omega
        · go_wp2
          go_roundw
          case rel => exact ⟨k + 1, by omega, by go_num, by rw [HE.out]; exact hO.alloc _, hB.alloc _, below_alloc hb _⟩
          case measure => simp [intOf]; omega
      · have HE := Lib.hid (atL_yes hkl hv)
        unfold visB at hv
        have hd : decide (l[k].f ≤ t) = true ∧ ((l[k].t == 0) = true ∨ ((l[k].t == 0) = false ∧ decide (t < l[k].t) = true)) := by
          simp at hv ⊢
          omega
        clear hv
        obtain ⟨hd, hd'⟩ := hd
        have hb2 := below_alloc (below_alloc hb (.cells #[.string l[k].k, .int .i64 l[k].n, .int .i64 l[k].f, .int .i64 l[k].t] 68)) (.cells #[.string l[k].k, .int .i64 l[k].n] 90)
        rcases hd' with hd1 | ⟨hd1, hd2⟩
        · have HT := Lib.hid hd1
          go_wp2_with (at_builtin; refine wpList_appR ((wr.alloc (.cells #[.string l[k].k, .int .i64 l[k].n, .int .i64 l[k].f, .int .i64 l[k].t] 68)).alloc (.cells #[.string l[k].k, .int .i64 l[k].n] 90)) rfl _ _ _ _ 90 rfl Try.underlying33 Try.underlying33 (w.heap.size + 1) _ (atL (l.take k) t) rfl ((hO.alloc _).alloc _) (some ⟨wr.heap.size + 1, 0, none⟩) 1 _ 1 [(l[k].k, l[k].n)] rfl rfl (rdOneAt _ _ (by simp) _ _ _) (by have := atL_length (l.take k) t; simp at this ⊢; omega) (by have := hb2.size; have := hB.lt; simp; omega) ?_; intro v' w' hown hgr hat)
          go_roundw
          case rel => exact ⟨k + 1, by omega, by go_num, by rw [HE.out]; exact hown, ((hB.alloc _).alloc _).grown hgr (hO.ne_block (by omega)), ((hO.alloc _).alloc _).below hb2 hgr (by omega)⟩
          case measure => simp [intOf]; omega
        · go_wp2_with (at_builtin; refine wpList_appR ((wr.alloc (.cells #[.string l[k].k, .int .i64 l[k].n, .int .i64 l[k].f, .int .i64 l[k].t] 68)).alloc (.cells #[.string l[k].k, .int .i64 l[k].n] 90)) rfl _ _ _ _ 90 rfl Try.underlying33 Try.underlying33 (w.heap.size + 1) _ (atL (l.take k) t) rfl ((hO.alloc _).alloc _) (some ⟨wr.heap.size + 1, 0, none⟩) 1 _ 1 [(l[k].k, l[k].n)] rfl rfl (rdOneAt _ _ (by simp) _ _ _) (by have := atL_length (l.take k) t; simp at this ⊢; omega) (by have := hb2.size; have := hB.lt; simp; omega) ?_; intro v' w' hown hgr hat)
          go_roundw
          case rel => exact ⟨k + 1, by omega, by go_num, by rw [HE.out]; exact hown, ((hB.alloc _).alloc _).grown hgr (hO.ne_block (by omega)), ((hO.alloc _).alloc _).below hb2 hgr (by omega)⟩
          case measure => simp [intOf]; omega
    · have hkI : decide ((k : Int) < (l.length : Int)) = false := decide_eq_false (by omega)
      have HN := Lib.hid (show k = l.length from by omega)
      go_wp2
      go_ret
      refine ⟨_, rfl, ?_, hb⟩
      rw [HN.out, List.take_length] at hO
      exact hO.low (by omega)

end Go.Proofs.Ytbhdgalkedegjaa
