/- Work: the model's WorkSame and the copy of what one does. -/
import Derived.Test.YtheblejlmlfddaaArWork
import Derived.Test.YtheblejlmlfddaaB1
import Derived.Test.YtheblejlmlfddaaB5
import Derived.Laws.StructEq
namespace Go.Proofs.Ytheblejlmlfddaa
open Go.RowKit
set_option linter.unusedVariables false
set_option maxRecDepth 100000

theorem neqWrite (s t : ByteArray) (a a' : Int) (b b' : Bool) (w : World) : (binOp .neq 111 (.agg #[.string s, .int .i64 a, .bool b]) (.agg #[.string t, .int .i64 a', .bool b'])).run Try.prog w = .ok (.bool (!eqX ⟨s, a, b⟩ ⟨t, a', b'⟩)) w := by
 simp [go_sem]
 by_cases h : (⟨s, a, b⟩ : X) = ⟨t, a', b'⟩
 ·
  rw [eqX_yes h]
  simp only [X.mk.injEq] at h
  obtain ⟨rfl, rfl, rfl⟩ := h
  simp
 ·
  rw [eqX_no h]
  simp only [X.mk.injEq] at h
  by_cases h1 : s = t
  ·
   subst h1
   by_cases h2 : a = a'
   ·
    subst h2
    by_cases h3 : b = b'
    ·
     exact absurd ⟨rfl, rfl, h3⟩ h
    ·
     simp [h3]
   ·
    simp [h2]
  ·
   have h3 : s.toList ≠ t.toList := fun e => h1 (str_eq (by rw [e]; simp))
   simp [h3]

set_option maxHeartbeats 2000000 in
theorem specWorkSame (z z' : Int) (A A' : Option Addr) (c c' : Nat) (l l' : List X) (w : World) (hc : l.length ≤ 2097152) (hc' : l'.length ≤ 2097152) (hr : RdG w w.heap.size A l) (hr' : RdG w w.heap.size A' l') :
  Calls Try.prog 68 #[.agg #[.int .i64 z, .slice A l.length c], .agg #[.int .i64 z', .slice A' l'.length c']] w fun e w' => e = .returned (.bool (sameW z z' l l')) ∧ Below w.heap.size w w' := by
 have hneq := neqWrite
 have hb0 : Below w.heap.size w ((w.alloc (.cells #[.int .i64 z, .slice A l.length c] 52)).alloc (.cells #[.int .i64 z', .slice A' l'.length c'] 52)) := below_alloc (below_alloc (Below.refl _ _) _) _
 have hB0 := (blkA w #[.int .i64 z, .slice A l.length c] 52).alloc (.cells #[.int .i64 z', .slice A' l'.length c'] 52)
 have hB1 := blkA (w.alloc (.cells #[.int .i64 z, .slice A l.length c] 52)) #[.int .i64 z', .slice A' l'.length c'] 52
 simp only [World.size_alloc] at hB1
 by_cases hz : z = z'
 ·
  by_cases hlen : l.length = l'.length
  ·
   have hne : ((l.length : Int) != (l'.length : Int)) = false := by simp [hlen]
   have hnz : (z != z') = false := by simp [hz]
   have HZ := Lib.hid hz
   have HL := Lib.hid hlen
   have hle1 : l.length ≤ l'.length := by omega
   have hle2 : l'.length ≤ l.length := by omega
   clear hlen hz
   go_enter Try.func68, Try.ntmps68
   go_wp2
   go_loopw [5] (fun i W => ∃ k : Nat, k ≤ l.length ∧ i = .int .i64 k ∧ Blk W w.heap.size 52 #[.int .i64 z, .slice A l.length c] ∧ Blk W (w.heap.size + 1) 52 #[.int .i64 z', .slice A' l'.length c'] ∧ Below w.heap.size w W ∧ l.take k = l'.take k) (fun i _ => l.length - (intOf i).toNat)
   case atStart => exact ⟨0, Nat.zero_le _, rfl, hB0, hB1, hb0, rfl⟩
   case round =>
    obtain ⟨k, hk, rfl, hB, hB', hb, ht⟩ := hrel
    have q1 : wr.cell? ⟨w.heap.size, 1, none⟩ = some (.slice A l.length c) := by rw [hB.cell]; rfl
    have q2 : wr.cell? ⟨w.heap.size + 1, 1, none⟩ = some (.slice A' l'.length c') := by rw [hB'.cell]; rfl
    have HT := Lib.hid ht
    clear ht
    by_cases hkl : k < l.length
    ·
     have hkl' : k < l'.length := by omega
     have hkI := lenI _ _ hkl
     have hkI' := lenI _ _ hkl'
     obtain ⟨b, o, rfl, hbB, hc0, hc1, hc2⟩ := (hr.below hb).atX hkl
     obtain ⟨b', o', rfl, hbB', hd0, hd1, hd2⟩ := (hr'.below hb).atX hkl'
     cases he : eqX l[k] l'[k]
     ·
      have HN := Lib.hid (show sameW z z' l l' = false from by
       unfold sameW
       rw [eqXs_no fun h : l = l' => by
        have e : eqX l[k] l'[k] = true := eqX_yes (by subst h; rfl)
        rw [he] at e; cases e]
       simp)
      have he' : eqX ⟨l[k].k, l[k].n, l[k].g⟩ ⟨l'[k].k, l'[k].n, l'[k].g⟩ = false := he
      go_wp2
      refine wp_region_held_drew (S := (fun W => W.cell? ⟨w.heap.size, 1, none⟩ = some (.slice (some ⟨b, o, none⟩) l.length c) ∧ W.cell? ⟨w.heap.size + 1, 1, none⟩ = some (.slice (some ⟨b', o', none⟩) l'.length c') ∧ W.cell? ⟨b, o + k * 3, none⟩ = some (.string l[k].k) ∧ W.cell? ⟨b, o + k * 3 + 1, none⟩ = some (.int .i64 l[k].n) ∧ W.cell? ⟨b, o + k * 3 + 2, none⟩ = some (.bool l[k].g) ∧ W.cell? ⟨b', o' + k * 3, none⟩ = some (.string l'[k].k) ∧ W.cell? ⟨b', o' + k * 3 + 1, none⟩ = some (.int .i64 l'[k].n) ∧ W.cell? ⟨b', o' + k * 3 + 2, none⟩ = some (.bool l'[k].g))) (by kernel_rfl) ?_ (fun hHeld => ?_)
      focus ((try dsimp only); (exact ⟨q1, q2, hc0, hc1, hc2, hd0, hd1, hd2⟩))
      first | refine tk 0 ?_ | refine ts 0 ?_
      first | refine tk 1 ?_ | refine ts 1 ?_
      first | refine tk 2 ?_ | refine ts 2 ?_
      first | refine tk 3 ?_ | refine ts 3 ?_
      first | refine tk 4 ?_ | refine ts 4 ?_
      first | refine tk 5 ?_ | refine ts 5 ?_
      first | refine tk 6 ?_ | refine ts 6 ?_
      first | refine tk 7 ?_ | refine ts 7 ?_
      first | refine tk 8 ?_ | refine ts 8 ?_
      first | refine tk 9 ?_ | refine ts 9 ?_
      first | refine tk 10 ?_ | refine ts 10 ?_
      refine wpAnyH_done (by kernel_rfl) ?_ _
      go_wp2
      go_ret
      exact ⟨ret_bool HN.out.symm, hb.drew⟩
     ·
      have HE := Lib.hid (eqX_iff.1 he)
      have he' : eqX ⟨l[k].k, l[k].n, l[k].g⟩ ⟨l'[k].k, l'[k].n, l'[k].g⟩ = true := he
      go_wp2
      refine wp_region_held_drew (S := (fun W => W.cell? ⟨w.heap.size, 1, none⟩ = some (.slice (some ⟨b, o, none⟩) l.length c) ∧ W.cell? ⟨w.heap.size + 1, 1, none⟩ = some (.slice (some ⟨b', o', none⟩) l'.length c') ∧ W.cell? ⟨b, o + k * 3, none⟩ = some (.string l[k].k) ∧ W.cell? ⟨b, o + k * 3 + 1, none⟩ = some (.int .i64 l[k].n) ∧ W.cell? ⟨b, o + k * 3 + 2, none⟩ = some (.bool l[k].g) ∧ W.cell? ⟨b', o' + k * 3, none⟩ = some (.string l'[k].k) ∧ W.cell? ⟨b', o' + k * 3 + 1, none⟩ = some (.int .i64 l'[k].n) ∧ W.cell? ⟨b', o' + k * 3 + 2, none⟩ = some (.bool l'[k].g))) (by kernel_rfl) ?_ (fun hHeld => ?_)
      focus ((try dsimp only); (exact ⟨q1, q2, hc0, hc1, hc2, hd0, hd1, hd2⟩))
      first | refine tk 0 ?_ | refine ts 0 ?_
      first | refine tk 1 ?_ | refine ts 1 ?_
      first | refine tk 2 ?_ | refine ts 2 ?_
      first | refine tk 3 ?_ | refine ts 3 ?_
      first | refine tk 4 ?_ | refine ts 4 ?_
      first | refine tk 5 ?_ | refine ts 5 ?_
      first | refine tk 6 ?_ | refine ts 6 ?_
      first | refine tk 7 ?_ | refine ts 7 ?_
      first | refine tk 8 ?_ | refine ts 8 ?_
      first | refine tk 9 ?_ | refine ts 9 ?_
      first | refine tk 10 ?_ | refine ts 10 ?_
      refine wpAnyH_done (by kernel_rfl) ?_ _
      go_wp2
      go_roundw
      case rel => exact ⟨k + 1, by omega, by go_num, hB, hB', hb.drew, by rw [List.take_succ_eq_append_getElem hkl, List.take_succ_eq_append_getElem hkl', HT.out, HE.out]⟩
      case measure => simp [intOf]; omega
    ·
     have hkI : decide ((k : Int) < (l.length : Int)) = false := decide_eq_false (by omega)
     have HK := Lib.hid (show k = l.length from by omega)
     go_wp2
     go_ret
     refine ⟨ret_bool ?_, hb⟩
     have e := HT.out
     rw [HK.out, List.take_length, HL.out, List.take_length] at e
     unfold sameW
     rw [eqXs_yes e]
     simp [HZ.out]
  ·
   have hne : ((l.length : Int) != (l'.length : Int)) = true := by simp; omega
   have hnz : (z != z') = false := by simp [hz]
   have HN := Lib.hid (show sameW z z' l l' = false from by
    unfold sameW
    rw [eqXs_no fun h : l = l' => hlen (congrArg List.length h)]
    simp)
   clear hlen hz
   go_enter Try.func68, Try.ntmps68
   go_wp2
   go_ret
   exact ⟨ret_bool HN.out.symm, hb0⟩
 ·
  have hnz : (z != z') = true := by simp [hz]
  have HN := Lib.hid (show sameW z z' l l' = false from by unfold sameW; simp [hz])
  clear hz
  go_enter Try.func68, Try.ntmps68
  go_wp2
  go_ret
  exact ⟨ret_bool HN.out.symm, hb0⟩

/-- what one does is returned in new memory -/
def RetX (w : World) (a : Int) (ws : List X) (e : Ending) (w' : World) : Prop := ∃ v, e = .returned (.agg #[.int .i64 a, v]) ∧ OwnG w' w.heap.size v ws ∧ Below w.heap.size w w'
def RetXC (w : World) (a : Int) (ws : List X) (k : Int) (e : Ending) (w' : World) : Prop := ∃ v, e = .returned (.tuple #[.agg #[.int .i64 a, v], .int .i64 k]) ∧ OwnG w' w.heap.size v ws ∧ Below w.heap.size w w'
def RetVC (w : World) (z : Int) (l : List V) (k : Int) (e : Ending) (w' : World) : Prop := ∃ v, e = .returned (.tuple #[.agg #[.int .i64 z, v], .int .i64 k]) ∧ OwnG w' w.heap.size v l ∧ Below w.heap.size w w'

theorem specWorkSameO {v v' : Value} {z z' : Int} {l l' : List X} {base base' : Nat} {w : World} (h : OwnG w base v l) (h' : OwnG w base' v' l') (hl : l.length ≤ 2097152) (hl' : l'.length ≤ 2097152) :
  Calls Try.prog 68 #[.agg #[.int .i64 z, v], .agg #[.int .i64 z', v']] w fun e w' => e = .returned (.bool (sameW z z' l l')) ∧ Below w.heap.size w w' := by
 obtain ⟨A, c, rfl, h1, h2, hr⟩ := h.read
 obtain ⟨A', c', rfl, h1', h2', hr'⟩ := h'.read
 exact specWorkSame z z' A A' c c' l l' w hl hl' hr hr'
end Go.Proofs.Ytheblejlmlfddaa
