/- VersSame, of the model and of the program. -/
import Derived.Test.YtheblejlmlfddaaB1
import Derived.Laws.StructEq
namespace Go.Proofs.Ytheblejlmlfddaa
open Go.RowKit
set_option linter.unusedVariables false
set_option maxRecDepth 100000

theorem neqVer (s t : ByteArray) (a b c a' b' c' : Int) (w : World) : (binOp .neq 94 (.agg #[.string s, .int .i64 a, .int .i64 b, .int .i64 c]) (.agg #[.string t, .int .i64 a', .int .i64 b', .int .i64 c'])).run Try.prog w = .ok (.bool (!eqV ⟨s, a, b, c⟩ ⟨t, a', b', c'⟩)) w := by
 simp [go_sem]
 by_cases h : (⟨s, a, b, c⟩ : V) = ⟨t, a', b', c'⟩
 ·
  rw [eqV_yes h]
  simp only [V.mk.injEq] at h
  obtain ⟨rfl, rfl, rfl, rfl⟩ := h
  simp
 ·
  rw [eqV_no h]
  simp only [V.mk.injEq] at h
  simp only [Bool.not_false] at *
  by_cases h1 : s = t
  ·
   subst h1
   by_cases h2 : a = a'
   ·
    subst h2
    by_cases h3 : b = b'
    ·
     subst h3
     by_cases h4 : c = c'
     ·
      exact absurd ⟨rfl, rfl, rfl, h4⟩ h
     ·
      simp [h4]
    ·
     simp [h3]
   ·
    simp [h2]
  ·
   have h3 : s.toList ≠ t.toList := fun e => h1 (str_eq (by rw [e]; simp))
   simp [h3]

set_option maxHeartbeats 2000000 in
theorem specVersSame (z z' : Int) (A A' : Option Addr) (c c' : Nat) (l l' : List V) (w : World) (hc : l.length ≤ 2097152) (hc' : l'.length ≤ 2097152) (hr : RdG w w.heap.size A l) (hr' : RdG w w.heap.size A' l') :
  Calls Try.prog 36 #[.agg #[.int .i64 z, .slice A l.length c], .agg #[.int .i64 z', .slice A' l'.length c']] w fun e w' => e = .returned (.bool (sameB z z' l l')) ∧ Below w.heap.size w w' := by
 have hneq := neqVer
 have hb0 : Below w.heap.size w ((w.alloc (.cells #[.int .i64 z, .slice A l.length c] 24)).alloc (.cells #[.int .i64 z', .slice A' l'.length c'] 24)) := below_alloc (below_alloc (Below.refl _ _) _) _
 have hB0 := (blkA w #[.int .i64 z, .slice A l.length c] 24).alloc (.cells #[.int .i64 z', .slice A' l'.length c'] 24)
 have hB1 := blkA (w.alloc (.cells #[.int .i64 z, .slice A l.length c] 24)) #[.int .i64 z', .slice A' l'.length c'] 24
 simp only [World.size_alloc] at hB1
 by_cases hz : z = z'
 ·
  by_cases hlen : l.length = l'.length
  ·
   have hne : ((l.length : Int) != (l'.length : Int)) = false := by simp [hlen]
   have hnz : (z != z') = false := by simp [hz]
   have HZ := Lib.hid hz
   have HL := Lib.hid hlen
   have hle1 : l.length ≤ l'.length := by omega
   have hle2 : l'.length ≤ l.length := by omega
   clear hlen hz
   go_enter Try.func36, Try.ntmps36
   go_wp2
   go_loopw [5] (fun i W => ∃ k : Nat, k ≤ l.length ∧ i = .int .i64 k ∧ Blk W w.heap.size 24 #[.int .i64 z, .slice A l.length c] ∧ Blk W (w.heap.size + 1) 24 #[.int .i64 z', .slice A' l'.length c'] ∧ Below w.heap.size w W ∧ l.take k = l'.take k) (fun i _ => l.length - (intOf i).toNat)
   case atStart => exact ⟨0, Nat.zero_le _, rfl, hB0, hB1, hb0, rfl⟩
   case round =>
    obtain ⟨k, hk, rfl, hB, hB', hb, ht⟩ := hrel
    have q1 : wr.cell? ⟨w.heap.size, 1, none⟩ = some (.slice A l.length c) := by rw [hB.cell]; rfl
    have q2 : wr.cell? ⟨w.heap.size + 1, 1, none⟩ = some (.slice A' l'.length c') := by rw [hB'.cell]; rfl
    have HT := Lib.hid ht
    clear ht
    by_cases hkl : k < l.length
    ·
     have hkl' : k < l'.length := by omega
     have hkI := lenI _ _ hkl
     have hkI' := lenI _ _ hkl'
     obtain ⟨b, o, rfl, hbB, hc0, hc1, hc2, hc3⟩ := (hr.below hb).atV hkl
     obtain ⟨b', o', rfl, hbB', hd0, hd1, hd2, hd3⟩ := (hr'.below hb).atV hkl'
     cases he : eqV l[k] l'[k]
     ·
      have HN := Lib.hid (show sameB z z' l l' = false from by
       unfold sameB
       rw [eqVs_no fun h : l = l' => by
        have e : eqV l[k] l'[k] = true := eqV_yes (by subst h; rfl)
        rw [he] at e; cases e]
       simp)
      have he' : eqV ⟨l[k].k, l[k].n, l[k].f, l[k].t⟩ ⟨l'[k].k, l'[k].n, l'[k].f, l'[k].t⟩ = false := he
      go_wp2
      refine wp_region_held_drew (S := (fun W => W.cell? ⟨w.heap.size, 1, none⟩ = some (.slice (some ⟨b, o, none⟩) l.length c) ∧ W.cell? ⟨w.heap.size + 1, 1, none⟩ = some (.slice (some ⟨b', o', none⟩) l'.length c') ∧ W.cell? ⟨b, o + k * 4, none⟩ = some (.string l[k].k) ∧ W.cell? ⟨b, o + k * 4 + 1, none⟩ = some (.int .i64 l[k].n) ∧ W.cell? ⟨b, o + k * 4 + 2, none⟩ = some (.int .i64 l[k].f) ∧ W.cell? ⟨b, o + k * 4 + 3, none⟩ = some (.int .i64 l[k].t) ∧ W.cell? ⟨b', o' + k * 4, none⟩ = some (.string l'[k].k) ∧ W.cell? ⟨b', o' + k * 4 + 1, none⟩ = some (.int .i64 l'[k].n) ∧ W.cell? ⟨b', o' + k * 4 + 2, none⟩ = some (.int .i64 l'[k].f) ∧ W.cell? ⟨b', o' + k * 4 + 3, none⟩ = some (.int .i64 l'[k].t))) (by kernel_rfl) ?_ (fun hHeld => ?_)
      focus ((try dsimp only); (exact ⟨q1, q2, hc0, hc1, hc2, hc3, hd0, hd1, hd2, hd3⟩))
      first | refine tk 0 ?_ | refine ts 0 ?_
      first | refine tk 1 ?_ | refine ts 1 ?_
      first | refine tk 2 ?_ | refine ts 2 ?_
      first | refine tk 3 ?_ | refine ts 3 ?_
      first | refine tk 4 ?_ | refine ts 4 ?_
      first | refine tk 5 ?_ | refine ts 5 ?_
      first | refine tk 6 ?_ | refine ts 6 ?_
      first | refine tk 7 ?_ | refine ts 7 ?_
      first | refine tk 8 ?_ | refine ts 8 ?_
      first | refine tk 9 ?_ | refine ts 9 ?_
      first | refine tk 10 ?_ | refine ts 10 ?_
      refine wpAnyH_done (by kernel_rfl) ?_ _
      go_wp2
      go_ret
      exact ⟨ret_bool HN.out.symm, hb.drew⟩
     ·
      have HE := Lib.hid (eqV_iff.1 he)
      have he' : eqV ⟨l[k].k, l[k].n, l[k].f, l[k].t⟩ ⟨l'[k].k, l'[k].n, l'[k].f, l'[k].t⟩ = true := he
      go_wp2
      refine wp_region_held_drew (S := (fun W => W.cell? ⟨w.heap.size, 1, none⟩ = some (.slice (some ⟨b, o, none⟩) l.length c) ∧ W.cell? ⟨w.heap.size + 1, 1, none⟩ = some (.slice (some ⟨b', o', none⟩) l'.length c') ∧ W.cell? ⟨b, o + k * 4, none⟩ = some (.string l[k].k) ∧ W.cell? ⟨b, o + k * 4 + 1, none⟩ = some (.int .i64 l[k].n) ∧ W.cell? ⟨b, o + k * 4 + 2, none⟩ = some (.int .i64 l[k].f) ∧ W.cell? ⟨b, o + k * 4 + 3, none⟩ = some (.int .i64 l[k].t) ∧ W.cell? ⟨b', o' + k * 4, none⟩ = some (.string l'[k].k) ∧ W.cell? ⟨b', o' + k * 4 + 1, none⟩ = some (.int .i64 l'[k].n) ∧ W.cell? ⟨b', o' + k * 4 + 2, none⟩ = some (.int .i64 l'[k].f) ∧ W.cell? ⟨b', o' + k * 4 + 3, none⟩ = some (.int .i64 l'[k].t))) (by kernel_rfl) ?_ (fun hHeld => ?_)
      focus ((try dsimp only); (exact ⟨q1, q2, hc0, hc1, hc2, hc3, hd0, hd1, hd2, hd3⟩))
      first | refine tk 0 ?_ | refine ts 0 ?_
      first | refine tk 1 ?_ | refine ts 1 ?_
      first | refine tk 2 ?_ | refine ts 2 ?_
      first | refine tk 3 ?_ | refine ts 3 ?_
      first | refine tk 4 ?_ | refine ts 4 ?_
      first | refine tk 5 ?_ | refine ts 5 ?_
      first | refine tk 6 ?_ | refine ts 6 ?_
      first | refine tk 7 ?_ | refine ts 7 ?_
      first | refine tk 8 ?_ | refine ts 8 ?_
      first | refine tk 9 ?_ | refine ts 9 ?_
      first | refine tk 10 ?_ | refine ts 10 ?_
      refine wpAnyH_done (by kernel_rfl) ?_ _
      go_wp2
      go_roundw
      case rel => exact ⟨k + 1, by omega, by go_num, hB, hB', hb.drew, by rw [List.take_succ_eq_append_getElem hkl, List.take_succ_eq_append_getElem hkl', HT.out, HE.out]⟩
      case measure => simp [intOf]; omega
    ·
     have hkI : decide ((k : Int) < (l.length : Int)) = false := decide_eq_false (by omega)
     have HK := Lib.hid (show k = l.length from by omega)
     go_wp2
     go_ret
     refine ⟨ret_bool ?_, hb⟩
     have e := HT.out
     rw [HK.out, List.take_length, HL.out, List.take_length] at e
     unfold sameB
     rw [eqVs_yes e]
     simp [HZ.out]
  ·
   have hne : ((l.length : Int) != (l'.length : Int)) = true := by simp; omega
   have hnz : (z != z') = false := by simp [hz]
   have HN := Lib.hid (show sameB z z' l l' = false from by
    unfold sameB
    rw [eqVs_no fun h : l = l' => hlen (congrArg List.length h)]
    simp)
   clear hlen hz
   go_enter Try.func36, Try.ntmps36
   go_wp2
   go_ret
   exact ⟨ret_bool HN.out.symm, hb0⟩
 ·
  have hnz : (z != z') = true := by simp [hz]
  have HN := Lib.hid (show sameB z z' l l' = false from by unfold sameB; simp [hz])
  clear hz
  go_enter Try.func36, Try.ntmps36
  go_wp2
  go_ret
  exact ⟨ret_bool HN.out.symm, hb0⟩

set_option maxHeartbeats 2000000 in
theorem sliceEq (A A' : Option Addr) (c c' : Nat) (l l' : List V) (w : World) (hc : l.length ≤ 2097152) (hc' : l'.length ≤ 2097152) (hr : RdG w w.heap.size A l) (hr' : RdG w w.heap.size A' l') :
  Calls Try.prog 57 #[.slice A l.length c, .slice A' l'.length c'] w fun e w' => e = .returned (.bool (eqVs l l')) ∧ Below w.heap.size w w' := by
 have hneq := neqVer
 by_cases hlen : l.length = l'.length
 ·
  have hne : ((l.length : Int) != (l'.length : Int)) = false := by simp [hlen]
  have HL := Lib.hid hlen
  have hle1 : l.length ≤ l'.length := by omega
  have hle2 : l'.length ≤ l.length := by omega
  clear hlen
  go_enter Try.func57, Try.ntmps57
  go_wp2
  go_loopw [13] (fun i W => ∃ k : Nat, k ≤ l.length ∧ i = .int .i64 k ∧ Below w.heap.size w W ∧ l.take k = l'.take k) (fun i _ => l.length - (intOf i).toNat)
  case atStart => exact ⟨0, Nat.zero_le _, rfl, Below.refl _ _, rfl⟩
  case round =>
   obtain ⟨k, hk, rfl, hb, ht⟩ := hrel
   have HT := Lib.hid ht
   clear ht
   by_cases hkl : k < l.length
   ·
    have hkl' : k < l'.length := by omega
    have hkI := lenI _ _ hkl
    have hkI' := lenI _ _ hkl'
    obtain ⟨b, o, rfl, hbB, hc0, hc1, hc2, hc3⟩ := (hr.below hb).atV hkl
    obtain ⟨b', o', rfl, hbB', hd0, hd1, hd2, hd3⟩ := (hr'.below hb).atV hkl'
    cases he : eqV l[k] l'[k]
    ·
     have HN := Lib.hid (eqVs_no fun h : l = l' => by
      have e : eqV l[k] l'[k] = true := eqV_yes (by subst h; rfl)
      rw [he] at e; cases e)
     have he' : eqV ⟨l[k].k, l[k].n, l[k].f, l[k].t⟩ ⟨l'[k].k, l'[k].n, l'[k].f, l'[k].t⟩ = false := he
     go_wp2
     refine wp_region_held_drew (S := (fun W => W.cell? ⟨b, o + k * 4, none⟩ = some (.string l[k].k) ∧ W.cell? ⟨b, o + k * 4 + 1, none⟩ = some (.int .i64 l[k].n) ∧ W.cell? ⟨b, o + k * 4 + 2, none⟩ = some (.int .i64 l[k].f) ∧ W.cell? ⟨b, o + k * 4 + 3, none⟩ = some (.int .i64 l[k].t) ∧ W.cell? ⟨b', o' + k * 4, none⟩ = some (.string l'[k].k) ∧ W.cell? ⟨b', o' + k * 4 + 1, none⟩ = some (.int .i64 l'[k].n) ∧ W.cell? ⟨b', o' + k * 4 + 2, none⟩ = some (.int .i64 l'[k].f) ∧ W.cell? ⟨b', o' + k * 4 + 3, none⟩ = some (.int .i64 l'[k].t))) (by kernel_rfl) ?_ (fun hHeld => ?_)
     focus ((try dsimp only); (exact ⟨hc0, hc1, hc2, hc3, hd0, hd1, hd2, hd3⟩))
     first | refine tk 0 ?_ | refine ts 0 ?_
     first | refine tk 1 ?_ | refine ts 1 ?_
     first | refine tk 2 ?_ | refine ts 2 ?_
     first | refine tk 3 ?_ | refine ts 3 ?_
     first | refine tk 4 ?_ | refine ts 4 ?_
     first | refine tk 5 ?_ | refine ts 5 ?_
     first | refine tk 6 ?_ | refine ts 6 ?_
     first | refine tk 7 ?_ | refine ts 7 ?_
     first | refine tk 8 ?_ | refine ts 8 ?_
     refine wpAnyH_done (by kernel_rfl) ?_ _
     go_wp2
     go_ret
     exact ⟨ret_bool HN.out.symm, hb.drew⟩
    ·
     have HE := Lib.hid (eqV_iff.1 he)
     have he' : eqV ⟨l[k].k, l[k].n, l[k].f, l[k].t⟩ ⟨l'[k].k, l'[k].n, l'[k].f, l'[k].t⟩ = true := he
     go_wp2
     refine wp_region_held_drew (S := (fun W => W.cell? ⟨b, o + k * 4, none⟩ = some (.string l[k].k) ∧ W.cell? ⟨b, o + k * 4 + 1, none⟩ = some (.int .i64 l[k].n) ∧ W.cell? ⟨b, o + k * 4 + 2, none⟩ = some (.int .i64 l[k].f) ∧ W.cell? ⟨b, o + k * 4 + 3, none⟩ = some (.int .i64 l[k].t) ∧ W.cell? ⟨b', o' + k * 4, none⟩ = some (.string l'[k].k) ∧ W.cell? ⟨b', o' + k * 4 + 1, none⟩ = some (.int .i64 l'[k].n) ∧ W.cell? ⟨b', o' + k * 4 + 2, none⟩ = some (.int .i64 l'[k].f) ∧ W.cell? ⟨b', o' + k * 4 + 3, none⟩ = some (.int .i64 l'[k].t))) (by kernel_rfl) ?_ (fun hHeld => ?_)
     focus ((try dsimp only); (exact ⟨hc0, hc1, hc2, hc3, hd0, hd1, hd2, hd3⟩))
     first | refine tk 0 ?_ | refine ts 0 ?_
     first | refine tk 1 ?_ | refine ts 1 ?_
     first | refine tk 2 ?_ | refine ts 2 ?_
     first | refine tk 3 ?_ | refine ts 3 ?_
     first | refine tk 4 ?_ | refine ts 4 ?_
     first | refine tk 5 ?_ | refine ts 5 ?_
     first | refine tk 6 ?_ | refine ts 6 ?_
     first | refine tk 7 ?_ | refine ts 7 ?_
     first | refine tk 8 ?_ | refine ts 8 ?_
     refine wpAnyH_done (by kernel_rfl) ?_ _
     go_wp2
     go_roundw
     case rel => exact ⟨k + 1, by omega, by go_num, hb.drew, by rw [List.take_succ_eq_append_getElem hkl, List.take_succ_eq_append_getElem hkl', HT.out, HE.out]⟩
     case measure => simp [intOf]; omega
   ·
    have hkI : decide ((k : Int) < (l.length : Int)) = false := decide_eq_false (by omega)
    have HK := Lib.hid (show k = l.length from by omega)
    go_wp2
    go_ret
    refine ⟨ret_bool (eqVs_yes ?_).symm, hb⟩
    have e := HT.out
    rw [HK.out, List.take_length, HL.out, List.take_length] at e
    exact e
 ·
  have hne : ((l.length : Int) != (l'.length : Int)) = true := by simp; omega
  have HL := Lib.hid hlen
  clear hlen
  go_enter Try.func57, Try.ntmps57
  go_wp2
  go_ret
  exact ⟨ret_bool (eqVs_no fun h => HL.out (congrArg List.length h)).symm, Below.refl _ _⟩

set_option maxHeartbeats 1000000 in
theorem implVersSame (z z' : Int) (A A' : Option Addr) (c c' : Nat) (l l' : List V) (w : World) (hc : l.length ≤ 2097152) (hc' : l'.length ≤ 2097152) (hr : RdG w w.heap.size A l) (hr' : RdG w w.heap.size A' l') :
  Calls Try.prog 40 #[.agg #[.int .i64 z, .slice A l.length c], .agg #[.int .i64 z', .slice A' l'.length c']] w fun e w' => e = .returned (.bool (sameB z z' l l')) ∧ Below w.heap.size w w' := by
 have hb0 : Below w.heap.size w ((w.alloc (.cells #[.int .i64 z, .slice A l.length c] 24)).alloc (.cells #[.int .i64 z', .slice A' l'.length c'] 24)) := below_alloc (below_alloc (Below.refl _ _) _) _
 by_cases hz : z = z'
 ·
  have hnz : (z == z') = true := by simp [hz]
  have HN := Lib.hid (show sameB z z' l l' = eqVs l l' from by unfold sameB; simp [hz])
  clear hz
  go_enter Try.func40, Try.ntmps40
  go_wp2_with fail
  refine (sliceEq A A' c c' l l' _ hc hc' (hr.next hb0) (hr'.next hb0)).mono ?_
  rintro e w1 ⟨rfl, hb1⟩
  go_wp2
  go_ret
  exact ⟨ret_bool HN.out.symm, below_next hb0 hb1⟩
 ·
  have hnz : (z == z') = false := by simp [hz]
  have HN := Lib.hid (show sameB z z' l l' = false from by unfold sameB; simp [hz])
  clear hz
  go_enter Try.func40, Try.ntmps40
  go_wp2
  go_ret
  exact ⟨ret_bool HN.out.symm, hb0⟩

theorem implSameO {v v' : Value} {z z' : Int} {l l' : List V} {base base' : Nat} {w : World} (h : OwnG w base v l) (h' : OwnG w base' v' l') (hl : l.length ≤ 2097152) (hl' : l'.length ≤ 2097152) :
  Calls Try.prog 40 #[.agg #[.int .i64 z, v], .agg #[.int .i64 z', v']] w fun e w' => e = .returned (.bool (sameB z z' l l')) ∧ Below w.heap.size w w' := by
 obtain ⟨A, c, rfl, _, _, hr⟩ := h.read
 obtain ⟨A', c', rfl, _, _, hr'⟩ := h'.read
 exact implVersSame z z' A A' c c' l l' w hl hl' hr hr'
theorem specSameO {v v' : Value} {z z' : Int} {l l' : List V} {base base' : Nat} {w : World} (h : OwnG w base v l) (h' : OwnG w base' v' l') (hl : l.length ≤ 2097152) (hl' : l'.length ≤ 2097152) :
  Calls Try.prog 36 #[.agg #[.int .i64 z, v], .agg #[.int .i64 z', v']] w fun e w' => e = .returned (.bool (sameB z z' l l')) ∧ Below w.heap.size w w' := by
 obtain ⟨A, c, rfl, _, _, hr⟩ := h.read
 obtain ⟨A', c', rfl, _, _, hr'⟩ := h'.read
 exact specVersSame z z' A A' c c' l l' w hl hl' hr hr'

end Go.Proofs.Ytheblejlmlfddaa
