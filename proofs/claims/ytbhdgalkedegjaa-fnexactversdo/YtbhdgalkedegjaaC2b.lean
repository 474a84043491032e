/- The program's chains: at, last; the sorted list of chains: find, splice. -/
import Derived.Test.YtbhdgalkedegjaaC2a
import Derived.Test.YtbhdgalkedegjaaFind
import Derived.Deep.LoopGhost
namespace Go.Proofs.Ytbhdgalkedegjaa
open Go.RowKit
set_option linter.unusedVariables false
set_option maxRecDepth 100000

def zeroV : V := ⟨ByteArray.empty, 0, 0, 0⟩
/-- what 'at' answers -/
def seenT : Option V → Value
  | some x => .tuple #[.agg #[.string x.k, .int .i64 x.n, .int .i64 x.f, .int .i64 x.t], .bool true]
  | none => .tuple #[.agg #[.string ByteArray.empty, .int .i64 0, .int .i64 0, .int .i64 0], .bool false]
theorem seen_some {c : Ch} {t : Int} {i : Nat} {y : Lk} (hi : c.ls[i]? = some y) (hlow : ∀ j z, j < i → c.ls[j]? = some z → visB t z.v = false) (hv : visB t y.v = true) : seen t c = some y.v := by
  unfold seen Ch.vs
  rw [List.find?_eq_some_iff_getElem]
  have hl := (List.getElem?_eq_some_iff.1 hi).1
  refine ⟨hv, i, by simpa using hl, ?_, fun j hj => ?_⟩
  · rw [List.getElem_map, (List.getElem?_eq_some_iff.1 hi).2]
  · rw [List.getElem_map, hlow j _ hj (List.getElem?_eq_getElem (by omega))]; rfl
theorem seen_none {c : Ch} {t : Int} (hlow : ∀ (j : Nat) z, c.ls[j]? = some z → visB t z.v = false) : seen t c = none := by
  unfold seen Ch.vs
  rw [List.find?_eq_none]
  intro x hx
  obtain ⟨z, hz, rfl⟩ := List.mem_map.1 hx
  obtain ⟨j, hj, rfl⟩ := List.getElem_of_mem hz
  rw [hlow j _ (List.getElem?_eq_getElem hj)]; simp

def RetAt (w : World) (c : Ch) (t : Int) (e : Ending) (w' : World) : Prop := e = .returned (seenT (seen t c)) ∧ Below w.heap.size w w'

set_option maxHeartbeats 2000000 in
theorem at_c (c : Ch) (t : Int) (w : World) (h : ChOk w c) :
    Calls Try.prog 112 #[.pointer (some ⟨c.g, 0, none⟩), .int .i64 t] w (RetAt w c t) := by
  have hblk := h.blk
  have c1 : w.cell? ⟨c.g, 1, none⟩ = some (ptrO (c.ls.head?.map Lk.g)) := by rw [hblk.cell]; rfl
  have hlt := hblk.lt
  have hb0 : Below w.heap.size w (w.alloc (.cells #[.string ByteArray.empty, .int .i64 0, .int .i64 0, .int .i64 0] 68)) := below_alloc (Below.refl _ _) _
  have hB0 := blkA w #[.string ByteArray.empty, .int .i64 0, .int .i64 0, .int .i64 0] 68
  have hh : c.ls.head? = c.ls[0]? := by cases c.ls <;> rfl
  rw [hh] at c1
  go_enter Try.func112, Try.ntmps112
  go_wp2
  go_loopg [6] c.ls.length (fun gk p W => ∃ i : Nat, i + gk = c.ls.length ∧ p = ptrO (c.ls[i]?.map Lk.g) ∧ (∀ j z, j < i → c.ls[j]? = some z → visB t z.v = false) ∧ Blk W w.heap.size 68 #[.string ByteArray.empty, .int .i64 0, .int .i64 0, .int .i64 0] ∧ Below w.heap.size w W)
  case atStart => exact ⟨0, by omega, rfl, fun j z h => absurd h (by omega), hB0, hb0⟩
  case round =>
    obtain ⟨i, hi, rfl, hlow, hB, hb⟩ := hrel
    have HLOW := Lib.hid hlow
    clear hlow c1
    cases hy : c.ls[i]? with
    | none =>
      have HE := Lib.hid (seen_none (t := t) (c := c) fun j z hz => HLOW.out j z (by have h1 := (List.getElem?_eq_some_iff.1 hz).1; have h2 := List.getElem?_eq_none_iff.1 hy; omega) hz)
      have d0 : wr.cell? ⟨w.heap.size, 0, none⟩ = some (.string ByteArray.empty) := by rw [hB.cell]; rfl
      have d1 : wr.cell? ⟨w.heap.size, 1, none⟩ = some (.int .i64 0) := by rw [hB.cell]; rfl
      have d2 : wr.cell? ⟨w.heap.size, 2, none⟩ = some (.int .i64 0) := by rw [hB.cell]; rfl
      have d3 : wr.cell? ⟨w.heap.size, 3, none⟩ = some (.int .i64 0) := by rw [hB.cell]; rfl
      have f0 := hB.free 0
      have f1 := hB.free 1
      have f2 := hB.free 2
      have f3 := hB.free 3
      rw [show ptrO (Option.map Lk.g none) = Value.pointer none from rfl]
      go_wp2
      refine bodyPost_ret (v := seenT none) (by simp [results, Try.results112, go_sem, d0, d1, d2, d3, seenT] <;> rfl) rfl ⟨by rw [HE.out], ?_⟩
      exact (by (repeat (first | exact hb | (refine Below.setCell ?_ (by simp <;> omega) _) | (refine Below.alloc ?_ (by simp <;> omega) _))))
    | some y =>
      have hyb := (h.ls i y hy).next' hb
      have e0 : wr.cell? ⟨y.g, 0, none⟩ = some (.string y.v.k) := by rw [hyb.cell]; rfl
      have e1 : wr.cell? ⟨y.g, 1, none⟩ = some (.int .i64 y.v.n) := by rw [hyb.cell]; rfl
      have e2 : wr.cell? ⟨y.g, 2, none⟩ = some (.int .i64 y.v.f) := by rw [hyb.cell]; rfl
      have e3 : wr.cell? ⟨y.g, 3, none⟩ = some (.int .i64 y.v.t) := by rw [hyb.cell]; rfl
      have e4 : wr.cell? ⟨y.g, 4, none⟩ = some (ptrO (c.ls[i + 1]?.map Lk.g)) := by rw [hyb.cell]; rfl
      have hyl := hyb.lt
      have hil := (List.getElem?_eq_some_iff.1 hy).1
      rw [show ptrO (Option.map Lk.g (some y)) = Value.pointer (some ⟨y.g, 0, none⟩) from rfl]
      cases hv : visB t y.v
      · have HV := Lib.hid hv
        go_wp2_with ((go_at_call 122; refine (visible_c y.v t _).mono ?_; rintro e w' ⟨rfl, hb2⟩; rw [hv]; have e4' := (hb2.cell (p := ⟨y.g, 4, none⟩) hyl).trans e4))
        go_roundg (gk - 1)
        case measure => omega
        case rel => exact ⟨i + 1, by omega, rfl, fun j z hj hz => by
          by_cases e : j = i
          · subst e
            have : y = z := Option.some.inj (hy.symm.trans hz)
            subst this; exact HV.out
          · exact HLOW.out j z (by omega) hz, hB.next hb2, hb.trans (hb2.mono hb.size)⟩
      · have HE := Lib.hid (seen_some hy HLOW.out hv)
        go_wp2_with ((go_at_call 122; refine (visible_c y.v t _).mono ?_; rintro e w' ⟨rfl, hb2⟩; rw [hv]; have e0' := (hb2.cell (p := ⟨y.g, 0, none⟩) hyl).trans e0; have e1' := (hb2.cell (p := ⟨y.g, 1, none⟩) hyl).trans e1; have e2' := (hb2.cell (p := ⟨y.g, 2, none⟩) hyl).trans e2; have e3' := (hb2.cell (p := ⟨y.g, 3, none⟩) hyl).trans e3; have hB' := hB.next hb2; have d0 : w'.cell? ⟨w.heap.size, 0, none⟩ = some (.string ByteArray.empty) := (by rw [hB'.cell]; rfl); have d1 : w'.cell? ⟨w.heap.size, 1, none⟩ = some (.int .i64 0) := (by rw [hB'.cell]; rfl); have d2 : w'.cell? ⟨w.heap.size, 2, none⟩ = some (.int .i64 0) := (by rw [hB'.cell]; rfl); have d3 : w'.cell? ⟨w.heap.size, 3, none⟩ = some (.int .i64 0) := (by rw [hB'.cell]; rfl); have f0 := hB'.free 0; have f1 := hB'.free 1; have f2 := hB'.free 2; have f3 := hB'.free 3))
        refine bodyPost_ret (v := seenT (some y.v)) (by simp [results, Try.results112, go_sem, d0, d1, d2, d3, seenT]) rfl ⟨by rw [HE.out], ?_⟩
        have hbF := hb.trans (hb2.mono hb.size)
        exact (by (repeat (first | exact hbF | (refine Below.setCell ?_ (by simp <;> omega) _) | (refine Below.alloc ?_ (by simp <;> omega) _))))

end Go.Proofs.Ytbhdgalkedegjaa
