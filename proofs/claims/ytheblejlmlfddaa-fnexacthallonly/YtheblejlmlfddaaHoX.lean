/- HallOnly of the model and of the program: what happens to one of them. -/
import Derived.Test.YtheblejlmlfddaaFlEv
import Derived.Test.YtheblejlmlfddaaGn
import Derived.WalkKit
namespace Go.Proofs.Ytheblejlmlfddaa
open Go.RowKit
set_option linter.unusedVariables false
set_option maxRecDepth 100000

def onlyL (l : List VE) (n : Int) : List VE := l.filter fun x => x.u == n
theorem onlyL_len (l : List VE) (n : Int) : (onlyL l n).length ≤ l.length := List.length_filter_le _ _
theorem onlyL_yes {l : List VE} {n : Int} {k : Nat} (h : k < l.length) (e : (l[k].u == n) = true) : onlyL (l.take (k + 1)) n = onlyL (l.take k) n ++ [l[k]] := by
 unfold onlyL; rw [List.take_succ_eq_append_getElem h, List.filter_append]; simp [e]
theorem onlyL_no {l : List VE} {n : Int} {k : Nat} (h : k < l.length) (e : (l[k].u == n) = false) : onlyL (l.take (k + 1)) n = onlyL (l.take k) n := by
 unfold onlyL; rw [List.take_succ_eq_append_getElem h, List.filter_append]; simp [e]

set_option maxHeartbeats 1000000 in
theorem specHallOnly_c (A : Option Addr) (c : Nat) (l : List VE) (n : Int) (w : World) (hc : l.length ≤ c) (hcm : l.length ≤ 1048576) (hr : RdG w w.heap.size A l) :
  Calls Try.prog 12 #[.slice A l.length c, .int .i64 n] w (RetG w (onlyL l n)) := by
 have ho := OwnG.fresh (α := VE) w w.heap.size (Nat.le_refl _)
 have hb0 := below_alloc (Below.refl w.heap.size w) (.cells #[] 65)
 go_enter Try.func12, Try.ntmps12
 go_wp2
 go_loopw [5, 6] (fun v i W => ∃ k : Nat, k ≤ l.length ∧ i = .int .i64 k ∧ OwnG W w.heap.size v (onlyL (l.take k) n) ∧ Below w.heap.size w W) (fun _ i _ => l.length - (intOf i).toNat)
 case atStart => exact ⟨0, Nat.zero_le _, rfl, ho, hb0⟩
 case round =>
  clear ho hb0
  obtain ⟨k, hk, rfl, hov, hb⟩ := hrel
  by_cases hkl : k < l.length
  ·
   obtain ⟨b, o, rfl, hbB, hc0, hc1, hc2⟩ := (hr.below hb).atVE hkl
   have hlen := onlyL_len (l.take k) n
   rw [List.length_take] at hlen
   cases hq : (l[k].u == n) with
   | true =>
    have HE := Lib.hid (onlyL_yes hkl hq)
    obtain ⟨bv, nv, cv, rfl⟩ := hov.slice
    go_wp2_with (at_builtin; refine wpList_appG (α := VE) (wr.alloc (.cells #[.int .i64 l[k].k, .int .i64 l[k].u, .string l[k].y] 65)) rfl _ _ _ _ 65 rfl Try.underlying34 Try.underlying34 w.heap.size _ (onlyL (l.take k) n) rfl (hov.alloc _) (some ⟨wr.heap.size, 0, none⟩) 1 _ 1 [l[k]] rfl rfl (rdOneVE wr l[k] 65) (by simp; omega) (by have := hb.size; simp; omega) ?_; intro v' w' hown hgr hat)
    go_roundw
    case rel => exact ⟨k + 1, by omega, by go_num, by rw [HE.out]; exact hown, (hov.alloc _).below (below_alloc hb _) hgr (Nat.le_refl _)⟩
    case measure => simp [intOf]; omega
   | false =>
    have HE := Lib.hid (onlyL_no hkl hq)
    go_wp2
    go_roundw
    case rel => exact ⟨k + 1, by omega, by go_num, by rw [HE.out]; exact hov, hb⟩
    case measure => simp [intOf]; omega
  ·
   have hkk : k = l.length := by omega
   subst hkk
   rw [List.take_length] at hov
   obtain ⟨bv, nv, cv, rfl⟩ := hov.slice
   go_wp2
   go_ret
   exact ⟨_, rfl, hov, hb⟩

set_option maxHeartbeats 1000000 in
theorem implHallOnly_c (A : Option Addr) (c : Nat) (l : List VE) (n : Int) (w : World) (hc : l.length ≤ c) (hcm : l.length ≤ 1048576) (hr : RdG w w.heap.size A l) :
  Calls Try.prog 14 #[.slice A l.length c, .int .i64 n] w (RetG w (onlyL l n)) := by
 go_enter Try.func14, Try.ntmps14
 go_wp2
 go_loopw [5, 10] (fun v i W => ∃ k : Nat, k ≤ l.length ∧ i = .int .i64 k ∧ OwnG W w.heap.size v (onlyL (l.take k) n) ∧ Below w.heap.size w W) (fun _ i _ => l.length - (intOf i).toNat)
 case atStart => exact ⟨0, Nat.zero_le _, rfl, OwnG.nil _ _, Below.refl _ _⟩
 case round =>
  obtain ⟨k, hk, rfl, hov, hb⟩ := hrel
  by_cases hkl : k < l.length
  ·
   obtain ⟨b, o, rfl, hbB, hc0, hc1, hc2⟩ := (hr.below hb).atVE hkl
   have hlen := onlyL_len (l.take k) n
   rw [List.length_take] at hlen
   cases hq : (l[k].u == n) with
   | true =>
    have HE := Lib.hid (onlyL_yes hkl hq)
    obtain ⟨bv, nv, cv, rfl⟩ := hov.slice
    have ho2 := (hov.alloc (.cells #[.int .i64 l[k].k, .int .i64 l[k].u, .string l[k].y] 65)).alloc (.cells #[.int .i64 l[k].k, .int .i64 l[k].u, .string l[k].y] 65)
    have hb2 := below_alloc (below_alloc hb (.cells #[.int .i64 l[k].k, .int .i64 l[k].u, .string l[k].y] 65)) (.cells #[.int .i64 l[k].k, .int .i64 l[k].u, .string l[k].y] 65)
    go_wp2_with (at_builtin; refine wpList_appG (α := VE) ((wr.alloc (.cells #[.int .i64 l[k].k, .int .i64 l[k].u, .string l[k].y] 65)).alloc (.cells #[.int .i64 l[k].k, .int .i64 l[k].u, .string l[k].y] 65)) rfl _ _ _ _ 65 rfl Try.underlying34 Try.underlying34 w.heap.size _ (onlyL (l.take k) n) rfl ho2 (some ⟨wr.heap.size + 1, 0, none⟩) 1 _ 1 [l[k]] rfl rfl (rdOneGAt (α := VE) _ _ (by simp) l[k] _ 65 rfl) (by simp; omega) (by have := hb2.size; simp at this ⊢; omega) ?_; intro v' w' hown hgr hat)
    go_roundw
    case rel => exact ⟨k + 1, by omega, by go_num, by rw [HE.out]; exact hown, ho2.below hb2 hgr (Nat.le_refl _)⟩
    case measure => simp [intOf]; omega
   | false =>
    have HE := Lib.hid (onlyL_no hkl hq)
    go_wp2
    go_roundw
    case rel => exact ⟨k + 1, by omega, by go_num, by rw [HE.out]; exact hov.alloc _, below_alloc hb _⟩
    case measure => simp [intOf]; omega
  ·
   have hkk : k = l.length := by omega
   subst hkk
   rw [List.take_length] at hov
   obtain ⟨bv, nv, cv, rfl⟩ := hov.slice
   go_wp2
   go_ret
   exact ⟨_, rfl, hov, hb⟩

theorem specHallOnlyO {w : World} {base : Nat} {v : Value} {l : List VE} (n : Int) (h : OwnG w base v l) (hl : l.length ≤ 1048576) :
  Calls Try.prog 12 #[v, .int .i64 n] w (RetG w (onlyL l n)) := by
 obtain ⟨A, c, rfl, h1, _, hr⟩ := h.read
 exact specHallOnly_c A c l n w h1 hl hr
theorem implHallOnlyO {w : World} {base : Nat} {v : Value} {l : List VE} (n : Int) (h : OwnG w base v l) (hl : l.length ≤ 1048576) :
  Calls Try.prog 14 #[v, .int .i64 n] w (RetG w (onlyL l n)) := by
 obtain ⟨A, c, rfl, h1, _, hr⟩ := h.read
 exact implHallOnly_c A c l n w h1 hl hr

end Go.Proofs.Ytheblejlmlfddaa
