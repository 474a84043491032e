/- The program's WorkSame and WorkNew. -/
import Derived.Test.YtheblejlmlfddaaW3e
import Derived.Test.YtheblejlmlfddaaW3n
import Derived.Test.YtheblejlmlfddaaS2s
namespace Go.Proofs.Ytheblejlmlfddaa
open Go.RowKit
set_option linter.unusedVariables false
set_option maxRecDepth 100000

set_option maxHeartbeats 2000000 in
theorem sliceEqX (A A' : Option Addr) (c c' : Nat) (l l' : List X) (w : World) (hc : l.length ≤ 2097152) (hc' : l'.length ≤ 2097152) (hr : RdG w w.heap.size A l) (hr' : RdG w w.heap.size A' l') :
  Calls Try.prog 79 #[.slice A l.length c, .slice A' l'.length c'] w fun e w' => e = .returned (.bool (eqXs l l')) ∧ Below w.heap.size w w' := by
 have hneq := neqWrite
 by_cases hlen : l.length = l'.length
 ·
  have hne : ((l.length : Int) != (l'.length : Int)) = false := by simp [hlen]
  have HL := Lib.hid hlen
  have hle1 : l.length ≤ l'.length := by omega
  have hle2 : l'.length ≤ l.length := by omega
  clear hlen
  go_enter Try.func79, Try.ntmps79
  go_wp2
  go_loopw [13] (fun i W => ∃ k : Nat, k ≤ l.length ∧ i = .int .i64 k ∧ Below w.heap.size w W ∧ l.take k = l'.take k) (fun i _ => l.length - (intOf i).toNat)
  case atStart => exact ⟨0, Nat.zero_le _, rfl, Below.refl _ _, rfl⟩
  case round =>
   obtain ⟨k, hk, rfl, hb, ht⟩ := hrel
   have HT := Lib.hid ht
   clear ht
   by_cases hkl : k < l.length
   ·
    have hkl' : k < l'.length := by omega
    have hkI := lenI _ _ hkl
    have hkI' := lenI _ _ hkl'
    obtain ⟨b, o, rfl, hbB, hc0, hc1, hc2⟩ := (hr.below hb).atX hkl
    obtain ⟨b', o', rfl, hbB', hd0, hd1, hd2⟩ := (hr'.below hb).atX hkl'
    cases he : eqX l[k] l'[k]
    ·
     have HN := Lib.hid (eqXs_no fun h : l = l' => by
      have e : eqX l[k] l'[k] = true := eqX_yes (by subst h; rfl)
      rw [he] at e; cases e)
     have he' : eqX ⟨l[k].k, l[k].n, l[k].g⟩ ⟨l'[k].k, l'[k].n, l'[k].g⟩ = false := he
     go_wp2
     refine wp_region_held_drew (S := (fun W => W.cell? ⟨b, o + k * 3, none⟩ = some (.string l[k].k) ∧ W.cell? ⟨b, o + k * 3 + 1, none⟩ = some (.int .i64 l[k].n) ∧ W.cell? ⟨b, o + k * 3 + 2, none⟩ = some (.bool l[k].g) ∧ W.cell? ⟨b', o' + k * 3, none⟩ = some (.string l'[k].k) ∧ W.cell? ⟨b', o' + k * 3 + 1, none⟩ = some (.int .i64 l'[k].n) ∧ W.cell? ⟨b', o' + k * 3 + 2, none⟩ = some (.bool l'[k].g))) (by kernel_rfl) ?_ (fun hHeld => ?_)
     focus ((try dsimp only); (exact ⟨hc0, hc1, hc2, hd0, hd1, hd2⟩))
     first | refine tk 0 ?_ | refine ts 0 ?_
     first | refine tk 1 ?_ | refine ts 1 ?_
     first | refine tk 2 ?_ | refine ts 2 ?_
     first | refine tk 3 ?_ | refine ts 3 ?_
     first | refine tk 4 ?_ | refine ts 4 ?_
     first | refine tk 5 ?_ | refine ts 5 ?_
     first | refine tk 6 ?_ | refine ts 6 ?_
     first | refine tk 7 ?_ | refine ts 7 ?_
     first | refine tk 8 ?_ | refine ts 8 ?_
     refine wpAnyH_done (by kernel_rfl) ?_ _
     go_wp2
     go_ret
     exact ⟨ret_bool HN.out.symm, hb.drew⟩
    ·
     have HE := Lib.hid (eqX_iff.1 he)
     have he' : eqX ⟨l[k].k, l[k].n, l[k].g⟩ ⟨l'[k].k, l'[k].n, l'[k].g⟩ = true := he
     go_wp2
     refine wp_region_held_drew (S := (fun W => W.cell? ⟨b, o + k * 3, none⟩ = some (.string l[k].k) ∧ W.cell? ⟨b, o + k * 3 + 1, none⟩ = some (.int .i64 l[k].n) ∧ W.cell? ⟨b, o + k * 3 + 2, none⟩ = some (.bool l[k].g) ∧ W.cell? ⟨b', o' + k * 3, none⟩ = some (.string l'[k].k) ∧ W.cell? ⟨b', o' + k * 3 + 1, none⟩ = some (.int .i64 l'[k].n) ∧ W.cell? ⟨b', o' + k * 3 + 2, none⟩ = some (.bool l'[k].g))) (by kernel_rfl) ?_ (fun hHeld => ?_)
     focus ((try dsimp only); (exact ⟨hc0, hc1, hc2, hd0, hd1, hd2⟩))
     first | refine tk 0 ?_ | refine ts 0 ?_
     first | refine tk 1 ?_ | refine ts 1 ?_
     first | refine tk 2 ?_ | refine ts 2 ?_
     first | refine tk 3 ?_ | refine ts 3 ?_
     first | refine tk 4 ?_ | refine ts 4 ?_
     first | refine tk 5 ?_ | refine ts 5 ?_
     first | refine tk 6 ?_ | refine ts 6 ?_
     first | refine tk 7 ?_ | refine ts 7 ?_
     first | refine tk 8 ?_ | refine ts 8 ?_
     refine wpAnyH_done (by kernel_rfl) ?_ _
     go_wp2
     go_roundw
     case rel => exact ⟨k + 1, by omega, by go_num, hb.drew, by rw [List.take_succ_eq_append_getElem hkl, List.take_succ_eq_append_getElem hkl', HT.out, HE.out]⟩
     case measure => simp [intOf]; omega
   ·
    have hkI : decide ((k : Int) < (l.length : Int)) = false := decide_eq_false (by omega)
    have HK := Lib.hid (show k = l.length from by omega)
    go_wp2
    go_ret
    refine ⟨ret_bool (eqXs_yes ?_).symm, hb⟩
    have e := HT.out
    rw [HK.out, List.take_length, HL.out, List.take_length] at e
    exact e
 ·
  have hne : ((l.length : Int) != (l'.length : Int)) = true := by simp; omega
  have HL := Lib.hid hlen
  clear hlen
  go_enter Try.func79, Try.ntmps79
  go_wp2
  go_ret
  exact ⟨ret_bool (eqXs_no fun h => HL.out (congrArg List.length h)).symm, Below.refl _ _⟩

set_option maxHeartbeats 1000000 in
theorem implWorkSame (z z' : Int) (A A' : Option Addr) (c c' : Nat) (l l' : List X) (w : World) (hc : l.length ≤ 2097152) (hc' : l'.length ≤ 2097152) (hr : RdG w w.heap.size A l) (hr' : RdG w w.heap.size A' l') :
  Calls Try.prog 72 #[.agg #[.int .i64 z, .slice A l.length c], .agg #[.int .i64 z', .slice A' l'.length c']] w fun e w' => e = .returned (.bool (sameW z z' l l')) ∧ Below w.heap.size w w' := by
 have hb0 : Below w.heap.size w ((w.alloc (.cells #[.int .i64 z, .slice A l.length c] 52)).alloc (.cells #[.int .i64 z', .slice A' l'.length c'] 52)) := below_alloc (below_alloc (Below.refl _ _) _) _
 by_cases hz : z = z'
 ·
  have hnz : (z == z') = true := by simp [hz]
  have HN := Lib.hid (show sameW z z' l l' = eqXs l l' from by unfold sameW; simp [hz])
  clear hz
  go_enter Try.func72, Try.ntmps72
  go_wp2_with fail
  refine (sliceEqX A A' c c' l l' _ hc hc' (hr.next hb0) (hr'.next hb0)).mono ?_
  rintro e w1 ⟨rfl, hb1⟩
  go_wp2
  go_ret
  exact ⟨ret_bool HN.out.symm, below_next hb0 hb1⟩
 ·
  have hnz : (z == z') = false := by simp [hz]
  have HN := Lib.hid (show sameW z z' l l' = false from by unfold sameW; simp [hz])
  clear hz
  go_enter Try.func72, Try.ntmps72
  go_wp2
  go_ret
  exact ⟨ret_bool HN.out.symm, hb0⟩

theorem implWorkSameO {v v' : Value} {z z' : Int} {l l' : List X} {base base' : Nat} {w : World} (h : OwnG w base v l) (h' : OwnG w base' v' l') (hl : l.length ≤ 2097152) (hl' : l'.length ≤ 2097152) :
  Calls Try.prog 72 #[.agg #[.int .i64 z, v], .agg #[.int .i64 z', v']] w fun e w' => e = .returned (.bool (sameW z z' l l')) ∧ Below w.heap.size w w' := by
 obtain ⟨A, c, rfl, _, _, hr⟩ := h.read
 obtain ⟨A', c', rfl, _, _, hr'⟩ := h'.read
 exact implWorkSame z z' A A' c c' l l' w hl hl' hr hr'

end Go.Proofs.Ytheblejlmlfddaa
