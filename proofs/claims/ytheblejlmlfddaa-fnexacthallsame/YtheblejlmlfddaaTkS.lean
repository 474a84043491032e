/- TalkSame, of the model and of the program. -/
import Derived.Test.YtheblejlmlfddaaTkF
import Derived.Test.YtheblejlmlfddaaX4b
import Derived.Laws.StructEq
namespace Go.Proofs.Ytheblejlmlfddaa
open Go.RowKit
set_option linter.unusedVariables false
set_option maxRecDepth 100000

theorem neqNamed (s t k k' h h' : ByteArray) (a a' b b' : Int) (w : World) : (binOp .neq 99 (.agg #[.string s, .int .i64 a, .string k, .string h, .int .i64 b]) (.agg #[.string t, .int .i64 a', .string k', .string h', .int .i64 b'])).run Try.prog w = .ok (.bool (!eqN5 ⟨s, a, k, h, b⟩ ⟨t, a', k', h', b'⟩)) w := by
 simp [go_sem]
 by_cases g : (⟨s, a, k, h, b⟩ : N5) = ⟨t, a', k', h', b'⟩
 ·
  rw [eqN5_yes g]
  simp only [N5.mk.injEq] at g
  obtain ⟨rfl, rfl, rfl, rfl, rfl⟩ := g
  simp
 ·
  rw [eqN5_no g]
  simp only [N5.mk.injEq] at g
  simp only [Bool.not_false] at *
  have st : ∀ {x y : ByteArray}, x ≠ y → x.toList ≠ y.toList := fun hx e => hx (str_eq (by rw [e]; simp))
  by_cases h1 : s = t
  ·
   subst h1
   by_cases h2 : a = a'
   ·
    subst h2
    by_cases h3 : k = k'
    ·
     subst h3
     by_cases h4 : h = h'
     ·
      subst h4
      by_cases h5 : b = b'
      ·
       exact absurd ⟨rfl, rfl, rfl, rfl, h5⟩ g
      ·
       simp [h5]
     ·
      have := st h4; simp [this]
    ·
     have := st h3; simp [this]
   ·
    simp [h2]
  ·
   have := st h1; simp [this]

set_option maxHeartbeats 2000000 in
theorem sliceEqN (A A' : Option Addr) (c c' : Nat) (l l' : List N5) (w : World) (hc : l.length ≤ 2097152) (hc' : l'.length ≤ 2097152) (hr : RdG w w.heap.size A l) (hr' : RdG w w.heap.size A' l') :
  Calls Try.prog 59 #[.slice A l.length c, .slice A' l'.length c'] w fun e w' => e = .returned (.bool (eqN5s l l')) ∧ Below w.heap.size w w' := by
 have hneq := neqNamed
 by_cases hlen : l.length = l'.length
 ·
  have hne : ((l.length : Int) != (l'.length : Int)) = false := by simp [hlen]
  have HL := Lib.hid hlen
  have hle1 : l.length ≤ l'.length := by omega
  have hle2 : l'.length ≤ l.length := by omega
  clear hlen
  go_enter Try.func59, Try.ntmps59
  go_wp2
  go_loopw [13] (fun i W => ∃ k : Nat, k ≤ l.length ∧ i = .int .i64 k ∧ Below w.heap.size w W ∧ l.take k = l'.take k) (fun i _ => l.length - (intOf i).toNat)
  case atStart => exact ⟨0, Nat.zero_le _, rfl, Below.refl _ _, rfl⟩
  case round =>
   obtain ⟨k, hk, rfl, hb, ht⟩ := hrel
   have HT := Lib.hid ht
   clear ht
   by_cases hkl : k < l.length
   ·
    have hkl' : k < l'.length := by omega
    have hkI := lenI _ _ hkl
    have hkI' := lenI _ _ hkl'
    obtain ⟨b, o, rfl, hbB, hc0, hc1, hc2, hc3, hc4⟩ := (hr.below hb).atN5 hkl
    obtain ⟨b', o', rfl, hbB', hd0, hd1, hd2, hd3, hd4⟩ := (hr'.below hb).atN5 hkl'
    cases he : eqN5 l[k] l'[k]
    ·
     have HN := Lib.hid (eqN5s_no fun h : l = l' => by
      have e : eqN5 l[k] l'[k] = true := eqN5_yes (by subst h; rfl)
      rw [he] at e; cases e)
     have he' : eqN5 ⟨l[k].nm, l[k].kind, l[k].key, l[k].hi, l[k].num⟩ ⟨l'[k].nm, l'[k].kind, l'[k].key, l'[k].hi, l'[k].num⟩ = false := he
     go_wp2
     refine wp_region_held_drew (S := (fun W => W.cell? ⟨b, o + k * 5, none⟩ = some (.string l[k].nm) ∧ W.cell? ⟨b, o + k * 5 + 1, none⟩ = some (.int .i64 l[k].kind) ∧ W.cell? ⟨b, o + k * 5 + 2, none⟩ = some (.string l[k].key) ∧ W.cell? ⟨b, o + k * 5 + 3, none⟩ = some (.string l[k].hi) ∧ W.cell? ⟨b, o + k * 5 + 4, none⟩ = some (.int .i64 l[k].num) ∧ W.cell? ⟨b', o' + k * 5, none⟩ = some (.string l'[k].nm) ∧ W.cell? ⟨b', o' + k * 5 + 1, none⟩ = some (.int .i64 l'[k].kind) ∧ W.cell? ⟨b', o' + k * 5 + 2, none⟩ = some (.string l'[k].key) ∧ W.cell? ⟨b', o' + k * 5 + 3, none⟩ = some (.string l'[k].hi) ∧ W.cell? ⟨b', o' + k * 5 + 4, none⟩ = some (.int .i64 l'[k].num))) (by kernel_rfl) ?_ (fun hHeld => ?_)
     focus ((try dsimp only); (exact ⟨hc0, hc1, hc2, hc3, hc4, hd0, hd1, hd2, hd3, hd4⟩))
     first | refine tk 0 ?_ | refine ts 0 ?_
     first | refine tk 1 ?_ | refine ts 1 ?_
     first | refine tk 2 ?_ | refine ts 2 ?_
     first | refine tk 3 ?_ | refine ts 3 ?_
     first | refine tk 4 ?_ | refine ts 4 ?_
     first | refine tk 5 ?_ | refine ts 5 ?_
     first | refine tk 6 ?_ | refine ts 6 ?_
     first | refine tk 7 ?_ | refine ts 7 ?_
     first | refine tk 8 ?_ | refine ts 8 ?_
     refine wpAnyH_done (by kernel_rfl) ?_ _
     go_wp2
     go_ret
     exact ⟨ret_bool HN.out.symm, hb.drew⟩
    ·
     have HE := Lib.hid (eqN5_iff.1 he)
     have he' : eqN5 ⟨l[k].nm, l[k].kind, l[k].key, l[k].hi, l[k].num⟩ ⟨l'[k].nm, l'[k].kind, l'[k].key, l'[k].hi, l'[k].num⟩ = true := he
     go_wp2
     refine wp_region_held_drew (S := (fun W => W.cell? ⟨b, o + k * 5, none⟩ = some (.string l[k].nm) ∧ W.cell? ⟨b, o + k * 5 + 1, none⟩ = some (.int .i64 l[k].kind) ∧ W.cell? ⟨b, o + k * 5 + 2, none⟩ = some (.string l[k].key) ∧ W.cell? ⟨b, o + k * 5 + 3, none⟩ = some (.string l[k].hi) ∧ W.cell? ⟨b, o + k * 5 + 4, none⟩ = some (.int .i64 l[k].num) ∧ W.cell? ⟨b', o' + k * 5, none⟩ = some (.string l'[k].nm) ∧ W.cell? ⟨b', o' + k * 5 + 1, none⟩ = some (.int .i64 l'[k].kind) ∧ W.cell? ⟨b', o' + k * 5 + 2, none⟩ = some (.string l'[k].key) ∧ W.cell? ⟨b', o' + k * 5 + 3, none⟩ = some (.string l'[k].hi) ∧ W.cell? ⟨b', o' + k * 5 + 4, none⟩ = some (.int .i64 l'[k].num))) (by kernel_rfl) ?_ (fun hHeld => ?_)
     focus ((try dsimp only); (exact ⟨hc0, hc1, hc2, hc3, hc4, hd0, hd1, hd2, hd3, hd4⟩))
     first | refine tk 0 ?_ | refine ts 0 ?_
     first | refine tk 1 ?_ | refine ts 1 ?_
     first | refine tk 2 ?_ | refine ts 2 ?_
     first | refine tk 3 ?_ | refine ts 3 ?_
     first | refine tk 4 ?_ | refine ts 4 ?_
     first | refine tk 5 ?_ | refine ts 5 ?_
     first | refine tk 6 ?_ | refine ts 6 ?_
     first | refine tk 7 ?_ | refine ts 7 ?_
     first | refine tk 8 ?_ | refine ts 8 ?_
     refine wpAnyH_done (by kernel_rfl) ?_ _
     go_wp2
     go_roundw
     case rel => exact ⟨k + 1, by omega, by go_num, hb.drew, by rw [List.take_succ_eq_append_getElem hkl, List.take_succ_eq_append_getElem hkl', HT.out, HE.out]⟩
     case measure => simp [intOf]; omega
   ·
    have hkI : decide ((k : Int) < (l.length : Int)) = false := decide_eq_false (by omega)
    have HK := Lib.hid (show k = l.length from by omega)
    go_wp2
    go_ret
    refine ⟨ret_bool (eqN5s_yes ?_).symm, hb⟩
    have e := HT.out
    rw [HK.out, List.take_length, HL.out, List.take_length] at e
    exact e
 ·
  have hne : ((l.length : Int) != (l'.length : Int)) = true := by simp; omega
  have HL := Lib.hid hlen
  clear hlen
  go_enter Try.func59, Try.ntmps59
  go_wp2
  go_ret
  exact ⟨ret_bool (eqN5s_no fun h => HL.out (congrArg List.length h)).symm, Below.refl _ _⟩

theorem sliceEqNO {v v' : Value} {l l' : List N5} {base base' : Nat} {w : World} (h : OwnG w base v l) (h' : OwnG w base' v' l') (hl : l.length ≤ 2097152) (hl' : l'.length ≤ 2097152) :
  Calls Try.prog 59 #[v, v'] w fun e w' => e = .returned (.bool (eqN5s l l')) ∧ Below w.heap.size w w' := by
 obtain ⟨A, c, rfl, _, _, hr⟩ := h.read
 obtain ⟨A', c', rfl, _, _, hr'⟩ := h'.read
 exact sliceEqN A A' c c' l l' w hl hl' hr hr'

noncomputable def sameT (t t' : Tk) : Bool := sameS ⟨t.on, t.bad, t.a, t.ws⟩ ⟨t'.on, t'.bad, t'.a, t'.ws⟩ && eqN5s t.ns t'.ns && (t.sk == t'.sk) && (t.gn == t'.gn) && (t.inn.toList == t'.inn.toList)
section
variable {t t' : Tk} {w : World} {u u' v v' : Value} {b1 b2 b3 b4 : Nat}
set_option maxHeartbeats 4000000 in
theorem specTalkSameO (h : OwnG w b1 u t.ws) (h' : OwnG w b2 u' t'.ws) (k : OwnG w b3 v t.ns) (k' : OwnG w b4 v' t'.ns) (hl : t.ws.length ≤ 2097152) (hl' : t'.ws.length ≤ 2097152) (hm : t.ns.length ≤ 2097152) (hm' : t'.ns.length ≤ 2097152) :
  Calls Try.prog 37 #[agT t u v, agT t' u' v'] w fun e w' => e = .returned (.bool (sameT t t')) ∧ Below w.heap.size w w' := by
 obtain ⟨on, bad, a, ws, l, sk, gn, inn⟩ := t
 obtain ⟨on', bad', a', ws', l', sk', gn', inn'⟩ := t'
 unfold agT
 dsimp only at h h' k k' hl hl' hm hm' ⊢
 obtain ⟨A, c, rfl, -, -, hA⟩ := h.read
 obtain ⟨A', c', rfl, -, -, hA'⟩ := h'.read
 obtain ⟨B, d, rfl, -, -, hB⟩ := k.read
 obtain ⟨B', d', rfl, -, -, hB'⟩ := k'.read
 clear hA hA' hB hB'
 obtain ⟨W1, e1, hs1, P1, hb1⟩ := al1 w rfl #[.bool on, .bool bad, .int .i64 a, .slice A ws.length c, .slice B l.length d, .bool sk, .bool gn, .string inn] 57
 obtain ⟨W2, e2, hs2, R2, hb2⟩ := al1 W1 hs1 #[.bool on', .bool bad', .int .i64 a', .slice A' ws'.length c', .slice B' l'.length d', .bool sk', .bool gn', .string inn'] 57
 have hbw := below_next hb1 hb2
 have P2 := P1.next hb2
 obtain ⟨SB, HSB⟩ : ∃ SB, Hid (sameS ⟨on, bad, a, ws⟩ ⟨on', bad', a', ws'⟩ = SB) := ⟨_, Lib.hid rfl⟩
 have HT : Hid (sameT ⟨on, bad, a, ws, l, sk, gn, inn⟩ ⟨on', bad', a', ws', l', sk', gn', inn'⟩ = (SB && eqN5s l l' && (sk == sk') && (gn == gn') && (inn.toList == inn'.toList))) := Lib.hid (by rw [← HSB.out]; rfl)
 have q2 := P2.c8
 have r2 := R2.c8
 clear P1 hb1 hb2
 cases SB
 ·
  have HN := Lib.hid (show sameT ⟨on, bad, a, ws, l, sk, gn, inn⟩ ⟨on', bad', a', ws', l', sk', gn', inn'⟩ = false from by rw [HT.out]; simp)
  go_enter Try.func37, Try.ntmps37
  go_wp2_with fail
  refine (specSeatSameS (h.next hbw) (h'.next hbw) hl hl').mono ?_
  rw [HSB.out]
  rintro e w1 ⟨rfl, hbu⟩
  have q3 := (P2.next hbu).c8
  have r3 := (R2.next hbu).c8
  go_wp2
  go_ret
  exact ⟨ret_bool HN.out.symm, below_next hbw hbu⟩
 by_cases hlen : l.length = l'.length; rotate_left
 ·
  have hne : ((l.length : Int) != (l'.length : Int)) = true := by simp; omega
  have HN := Lib.hid (show sameT ⟨on, bad, a, ws, l, sk, gn, inn⟩ ⟨on', bad', a', ws', l', sk', gn', inn'⟩ = false from by rw [HT.out, eqN5s_no fun e => hlen (congrArg List.length e)]; simp)
  clear hlen
  go_enter Try.func37, Try.ntmps37
  go_wp2_with fail
  refine (specSeatSameS (h.next hbw) (h'.next hbw) hl hl').mono ?_
  rw [HSB.out]
  rintro e w1 ⟨rfl, hbu⟩
  have q3 := (P2.next hbu).c8
  have r3 := (R2.next hbu).c8
  go_wp2
  go_ret
  exact ⟨ret_bool HN.out.symm, below_next hbw hbu⟩
 have hne : ((l.length : Int) != (l'.length : Int)) = false := by simp [hlen]
 cases xsk : (sk == sk')
 ·
  have ysk : (sk != sk') = true := by simp [bne, xsk]
  have HN := Lib.hid (show sameT ⟨on, bad, a, ws, l, sk, gn, inn⟩ ⟨on', bad', a', ws', l', sk', gn', inn'⟩ = false from by rw [HT.out, xsk]; simp)
  clear hlen
  go_enter Try.func37, Try.ntmps37
  go_wp2_with fail
  refine (specSeatSameS (h.next hbw) (h'.next hbw) hl hl').mono ?_
  rw [HSB.out]
  rintro e w1 ⟨rfl, hbu⟩
  have q3 := (P2.next hbu).c8
  have r3 := (R2.next hbu).c8
  go_wp2
  go_ret
  exact ⟨ret_bool HN.out.symm, below_next hbw hbu⟩
 have ysk : (sk != sk') = false := by simp [bne, xsk]
 cases xgn : (gn == gn')
 ·
  have ygn : (gn != gn') = true := by simp [bne, xgn]
  have HN := Lib.hid (show sameT ⟨on, bad, a, ws, l, sk, gn, inn⟩ ⟨on', bad', a', ws', l', sk', gn', inn'⟩ = false from by rw [HT.out, xgn]; simp)
  clear hlen
  go_enter Try.func37, Try.ntmps37
  go_wp2_with fail
  refine (specSeatSameS (h.next hbw) (h'.next hbw) hl hl').mono ?_
  rw [HSB.out]
  rintro e w1 ⟨rfl, hbu⟩
  have q3 := (P2.next hbu).c8
  have r3 := (R2.next hbu).c8
  go_wp2
  go_ret
  exact ⟨ret_bool HN.out.symm, below_next hbw hbu⟩
 have ygn : (gn != gn') = false := by simp [bne, xgn]
 cases xi : (inn.toList == inn'.toList)
 ·
  have yi : (inn.toList != inn'.toList) = true := by simp [bne, xi]
  have HN := Lib.hid (show sameT ⟨on, bad, a, ws, l, sk, gn, inn⟩ ⟨on', bad', a', ws', l', sk', gn', inn'⟩ = false from by rw [HT.out, xi]; simp)
  clear hlen
  go_enter Try.func37, Try.ntmps37
  go_wp2_with fail
  refine (specSeatSameS (h.next hbw) (h'.next hbw) hl hl').mono ?_
  rw [HSB.out]
  rintro e w1 ⟨rfl, hbu⟩
  have q3 := (P2.next hbu).c8
  have r3 := (R2.next hbu).c8
  go_wp2
  go_ret
  exact ⟨ret_bool HN.out.symm, below_next hbw hbu⟩
 have yi : (inn.toList != inn'.toList) = false := by simp [bne, xi]
 have HE := Lib.hid (show sameT ⟨on, bad, a, ws, l, sk, gn, inn⟩ ⟨on', bad', a', ws', l', sk', gn', inn'⟩ = eqN5s l l' from by rw [HT.out, xsk, xgn, xi]; simp)
 have HL := Lib.hid hlen
 have hle1 : l.length ≤ l'.length := by omega
 have hle2 : l'.length ≤ l.length := by omega
 have hneq := neqNamed
 clear hlen
 go_enter Try.func37, Try.ntmps37
 go_wp2_with fail
 refine (specSeatSameS (h.next hbw) (h'.next hbw) hl hl').mono ?_
 rw [HSB.out]
 rintro e w1 ⟨rfl, hbu⟩
 have q3 := (P2.next hbu).c8
 have r3 := (R2.next hbu).c8
 obtain ⟨_, _, e3, -, -, hr⟩ := (k.next (below_next hbw hbu)).read
 cases e3
 obtain ⟨_, _, e3, -, -, hr'⟩ := (k'.next (below_next hbw hbu)).read
 cases e3
 have hb0 := below_next hbw hbu
 have P3 := P2.next hbu
 have R3 := R2.next hbu
 clear P2 R2 hbu hbw q2 r2 k k' h h'
 go_wp2
 go_loopw [5] (fun i W => ∃ k : Nat, k ≤ l.length ∧ i = .int .i64 k ∧ Blk W w.heap.size 57 #[.bool on, .bool bad, .int .i64 a, .slice A ws.length c, .slice B l.length d, .bool sk, .bool gn, .string inn] ∧ Blk W (w.heap.size + 1) 57 #[.bool on', .bool bad', .int .i64 a', .slice A' ws'.length c', .slice B' l'.length d', .bool sk', .bool gn', .string inn'] ∧ Below w1.heap.size w1 W ∧ l.take k = l'.take k) (fun i _ => l.length - (intOf i).toNat)
 case atStart => exact ⟨0, Nat.zero_le _, rfl, P3, R3, Below.refl _ _, rfl⟩
 case round =>
  obtain ⟨k, hk, rfl, hP, hR, hb, ht⟩ := hrel
  clear q3 r3
  have q1 := hP.c8.1.2.1
  have q2 := hR.c8.1.2.1
  have HT := Lib.hid ht
  clear ht
  by_cases hkl : k < l.length
  ·
   have hkl' : k < l'.length := by omega
   have hkI := lenI _ _ hkl
   have hkI' := lenI _ _ hkl'
   obtain ⟨b, o, rfl, hbB, hc0, hc1, hc2, hc3, hc4⟩ := (hr.below hb).atN5 hkl
   obtain ⟨b', o', rfl, hbB', hd0, hd1, hd2, hd3, hd4⟩ := (hr'.below hb).atN5 hkl'
   cases he : eqN5 l[k] l'[k]
   ·
    have HN := Lib.hid (eqN5s_no fun h : l = l' => by
     have e : eqN5 l[k] l'[k] = true := eqN5_yes (by subst h; rfl)
     rw [he] at e; cases e)
    have he' : eqN5 ⟨l[k].nm, l[k].kind, l[k].key, l[k].hi, l[k].num⟩ ⟨l'[k].nm, l'[k].kind, l'[k].key, l'[k].hi, l'[k].num⟩ = false := he
    go_wp2
    refine wp_region_held_drew (S := (fun W => W.cell? ⟨w.heap.size, 4, none⟩ = some (.slice (some ⟨b, o, none⟩) l.length d) ∧ W.cell? ⟨w.heap.size + 1, 4, none⟩ = some (.slice (some ⟨b', o', none⟩) l'.length d') ∧ W.cell? ⟨b, o + k * 5, none⟩ = some (.string l[k].nm) ∧ W.cell? ⟨b, o + k * 5 + 1, none⟩ = some (.int .i64 l[k].kind) ∧ W.cell? ⟨b, o + k * 5 + 2, none⟩ = some (.string l[k].key) ∧ W.cell? ⟨b, o + k * 5 + 3, none⟩ = some (.string l[k].hi) ∧ W.cell? ⟨b, o + k * 5 + 4, none⟩ = some (.int .i64 l[k].num) ∧ W.cell? ⟨b', o' + k * 5, none⟩ = some (.string l'[k].nm) ∧ W.cell? ⟨b', o' + k * 5 + 1, none⟩ = some (.int .i64 l'[k].kind) ∧ W.cell? ⟨b', o' + k * 5 + 2, none⟩ = some (.string l'[k].key) ∧ W.cell? ⟨b', o' + k * 5 + 3, none⟩ = some (.string l'[k].hi) ∧ W.cell? ⟨b', o' + k * 5 + 4, none⟩ = some (.int .i64 l'[k].num))) (by kernel_rfl) ?_ (fun hHeld => ?_)
    focus ((try dsimp only); (exact ⟨q1, q2, hc0, hc1, hc2, hc3, hc4, hd0, hd1, hd2, hd3, hd4⟩))
    first | refine tk 0 ?_ | refine ts 0 ?_
    first | refine tk 1 ?_ | refine ts 1 ?_
    first | refine tk 2 ?_ | refine ts 2 ?_
    first | refine tk 3 ?_ | refine ts 3 ?_
    first | refine tk 4 ?_ | refine ts 4 ?_
    first | refine tk 5 ?_ | refine ts 5 ?_
    first | refine tk 6 ?_ | refine ts 6 ?_
    first | refine tk 7 ?_ | refine ts 7 ?_
    first | refine tk 8 ?_ | refine ts 8 ?_
    first | refine tk 9 ?_ | refine ts 9 ?_
    first | refine tk 10 ?_ | refine ts 10 ?_
    refine wpAnyH_done (by kernel_rfl) ?_ _
    go_wp2
    go_ret
    exact ⟨ret_bool (by rw [HE.out, HN.out]), below_next hb0 hb.drew⟩
   ·
    have HQ := Lib.hid (eqN5_iff.1 he)
    have he' : eqN5 ⟨l[k].nm, l[k].kind, l[k].key, l[k].hi, l[k].num⟩ ⟨l'[k].nm, l'[k].kind, l'[k].key, l'[k].hi, l'[k].num⟩ = true := he
    go_wp2
    refine wp_region_held_drew (S := (fun W => W.cell? ⟨w.heap.size, 4, none⟩ = some (.slice (some ⟨b, o, none⟩) l.length d) ∧ W.cell? ⟨w.heap.size + 1, 4, none⟩ = some (.slice (some ⟨b', o', none⟩) l'.length d') ∧ W.cell? ⟨b, o + k * 5, none⟩ = some (.string l[k].nm) ∧ W.cell? ⟨b, o + k * 5 + 1, none⟩ = some (.int .i64 l[k].kind) ∧ W.cell? ⟨b, o + k * 5 + 2, none⟩ = some (.string l[k].key) ∧ W.cell? ⟨b, o + k * 5 + 3, none⟩ = some (.string l[k].hi) ∧ W.cell? ⟨b, o + k * 5 + 4, none⟩ = some (.int .i64 l[k].num) ∧ W.cell? ⟨b', o' + k * 5, none⟩ = some (.string l'[k].nm) ∧ W.cell? ⟨b', o' + k * 5 + 1, none⟩ = some (.int .i64 l'[k].kind) ∧ W.cell? ⟨b', o' + k * 5 + 2, none⟩ = some (.string l'[k].key) ∧ W.cell? ⟨b', o' + k * 5 + 3, none⟩ = some (.string l'[k].hi) ∧ W.cell? ⟨b', o' + k * 5 + 4, none⟩ = some (.int .i64 l'[k].num))) (by kernel_rfl) ?_ (fun hHeld => ?_)
    focus ((try dsimp only); (exact ⟨q1, q2, hc0, hc1, hc2, hc3, hc4, hd0, hd1, hd2, hd3, hd4⟩))
    first | refine tk 0 ?_ | refine ts 0 ?_
    first | refine tk 1 ?_ | refine ts 1 ?_
    first | refine tk 2 ?_ | refine ts 2 ?_
    first | refine tk 3 ?_ | refine ts 3 ?_
    first | refine tk 4 ?_ | refine ts 4 ?_
    first | refine tk 5 ?_ | refine ts 5 ?_
    first | refine tk 6 ?_ | refine ts 6 ?_
    first | refine tk 7 ?_ | refine ts 7 ?_
    first | refine tk 8 ?_ | refine ts 8 ?_
    first | refine tk 9 ?_ | refine ts 9 ?_
    first | refine tk 10 ?_ | refine ts 10 ?_
    refine wpAnyH_done (by kernel_rfl) ?_ _
    go_wp2
    go_roundw
    case rel => exact ⟨k + 1, by omega, by go_num, hP, hR, hb.drew, by rw [List.take_succ_eq_append_getElem hkl, List.take_succ_eq_append_getElem hkl', HT.out, HQ.out]⟩
    case measure => simp [intOf]; omega
  ·
   have hkI : decide ((k : Int) < (l.length : Int)) = false := decide_eq_false (by omega)
   have HK := Lib.hid (show k = l.length from by omega)
   go_wp2
   go_ret
   refine ⟨ret_bool ?_, below_next hb0 hb⟩
   have e := HT.out
   rw [HK.out, List.take_length, HL.out, List.take_length] at e
   rw [HE.out, eqN5s_yes e]
end
section
variable {t t' : Tk} {w : World} {u u' v v' : Value} {b1 b2 b3 b4 : Nat}
set_option maxHeartbeats 4000000 in
theorem implTalkSameO (h : OwnG w b1 u t.ws) (h' : OwnG w b2 u' t'.ws) (k : OwnG w b3 v t.ns) (k' : OwnG w b4 v' t'.ns) (hl : t.ws.length ≤ 2097152) (hl' : t'.ws.length ≤ 2097152) (hm : t.ns.length ≤ 2097152) (hm' : t'.ns.length ≤ 2097152) :
  Calls Try.prog 42 #[agT t u v, agT t' u' v'] w fun e w' => e = .returned (.bool (sameT t t')) ∧ Below w.heap.size w w' := by
 obtain ⟨on, bad, a, ws, l, sk, gn, inn⟩ := t
 obtain ⟨on', bad', a', ws', l', sk', gn', inn'⟩ := t'
 unfold agT
 dsimp only at h h' k k' hl hl' hm hm' ⊢
 obtain ⟨A, c, rfl, -, -, hA⟩ := h.read
 obtain ⟨A', c', rfl, -, -, hA'⟩ := h'.read
 obtain ⟨B, d, rfl, -, -, hB⟩ := k.read
 obtain ⟨B', d', rfl, -, -, hB'⟩ := k'.read
 clear hA hA' hB hB'
 obtain ⟨W1, e1, hs1, P1, hb1⟩ := al1 w rfl #[.bool on, .bool bad, .int .i64 a, .slice A ws.length c, .slice B l.length d, .bool sk, .bool gn, .string inn] 57
 obtain ⟨W2, e2, hs2, R2, hb2⟩ := al1 W1 hs1 #[.bool on', .bool bad', .int .i64 a', .slice A' ws'.length c', .slice B' l'.length d', .bool sk', .bool gn', .string inn'] 57
 have hbw := below_next hb1 hb2
 have P2 := P1.next hb2
 obtain ⟨SB, HSB⟩ : ∃ SB, Hid (sameS ⟨on, bad, a, ws⟩ ⟨on', bad', a', ws'⟩ = SB) := ⟨_, Lib.hid rfl⟩
 have HT : Hid (sameT ⟨on, bad, a, ws, l, sk, gn, inn⟩ ⟨on', bad', a', ws', l', sk', gn', inn'⟩ = (SB && eqN5s l l' && (sk == sk') && (gn == gn') && (inn.toList == inn'.toList))) := Lib.hid (by rw [← HSB.out]; rfl)
 have q2 := P2.c8
 have r2 := R2.c8
 clear P1 hb1 hb2
 cases SB
 ·
  have HN := Lib.hid (show sameT ⟨on, bad, a, ws, l, sk, gn, inn⟩ ⟨on', bad', a', ws', l', sk', gn', inn'⟩ = false from by rw [HT.out]; simp)
  go_enter Try.func42, Try.ntmps42
  go_wp2_with fail
  refine (implSeatSameO (h.next hbw) (h'.next hbw) hl hl').mono ?_
  rw [HSB.out]
  rintro e w1 ⟨rfl, hbu⟩
  have q3 := (P2.next hbu).c8
  have r3 := (R2.next hbu).c8
  go_wp2
  go_ret
  exact ⟨ret_bool HN.out.symm, below_next hbw hbu⟩
 obtain ⟨NB, HNB⟩ : ∃ NB, Hid (eqN5s l l' = NB) := ⟨_, Lib.hid rfl⟩
 rw [HNB.out] at HT
 cases NB
 ·
  have HN := Lib.hid (show sameT ⟨on, bad, a, ws, l, sk, gn, inn⟩ ⟨on', bad', a', ws', l', sk', gn', inn'⟩ = false from by rw [HT.out]; simp)
  go_enter Try.func42, Try.ntmps42
  go_wp2_with fail
  refine (implSeatSameO (h.next hbw) (h'.next hbw) hl hl').mono ?_
  rw [HSB.out]
  rintro e w1 ⟨rfl, hbu⟩
  have q3 := (P2.next hbu).c8
  have r3 := (R2.next hbu).c8
  go_wp2_with fail
  refine (sliceEqNO (k.next (below_next hbw hbu)) (k'.next (below_next hbw hbu)) hm hm').mono ?_
  rw [HNB.out]
  rintro e w2 ⟨rfl, hbv⟩
  have q4 := ((P2.next hbu).next hbv).c8
  have r4 := ((R2.next hbu).next hbv).c8
  go_wp2
  go_ret
  exact ⟨ret_bool HN.out.symm, below_next (below_next hbw hbu) hbv⟩
 cases xsk : (sk == sk')
 ·
  have HN := Lib.hid (show sameT ⟨on, bad, a, ws, l, sk, gn, inn⟩ ⟨on', bad', a', ws', l', sk', gn', inn'⟩ = false from by rw [HT.out, xsk]; simp)
  go_enter Try.func42, Try.ntmps42
  go_wp2_with fail
  refine (implSeatSameO (h.next hbw) (h'.next hbw) hl hl').mono ?_
  rw [HSB.out]
  rintro e w1 ⟨rfl, hbu⟩
  have q3 := (P2.next hbu).c8
  have r3 := (R2.next hbu).c8
  go_wp2_with fail
  refine (sliceEqNO (k.next (below_next hbw hbu)) (k'.next (below_next hbw hbu)) hm hm').mono ?_
  rw [HNB.out]
  rintro e w2 ⟨rfl, hbv⟩
  have q4 := ((P2.next hbu).next hbv).c8
  have r4 := ((R2.next hbu).next hbv).c8
  go_wp2
  go_ret
  exact ⟨ret_bool HN.out.symm, below_next (below_next hbw hbu) hbv⟩
 cases xgn : (gn == gn')
 ·
  have HN := Lib.hid (show sameT ⟨on, bad, a, ws, l, sk, gn, inn⟩ ⟨on', bad', a', ws', l', sk', gn', inn'⟩ = false from by rw [HT.out, xgn]; simp)
  go_enter Try.func42, Try.ntmps42
  go_wp2_with fail
  refine (implSeatSameO (h.next hbw) (h'.next hbw) hl hl').mono ?_
  rw [HSB.out]
  rintro e w1 ⟨rfl, hbu⟩
  have q3 := (P2.next hbu).c8
  have r3 := (R2.next hbu).c8
  go_wp2_with fail
  refine (sliceEqNO (k.next (below_next hbw hbu)) (k'.next (below_next hbw hbu)) hm hm').mono ?_
  rw [HNB.out]
  rintro e w2 ⟨rfl, hbv⟩
  have q4 := ((P2.next hbu).next hbv).c8
  have r4 := ((R2.next hbu).next hbv).c8
  go_wp2
  go_ret
  exact ⟨ret_bool HN.out.symm, below_next (below_next hbw hbu) hbv⟩
 cases xi : (inn.toList == inn'.toList)
 ·
  have HN := Lib.hid (show sameT ⟨on, bad, a, ws, l, sk, gn, inn⟩ ⟨on', bad', a', ws', l', sk', gn', inn'⟩ = false from by rw [HT.out, xi]; simp)
  go_enter Try.func42, Try.ntmps42
  go_wp2_with fail
  refine (implSeatSameO (h.next hbw) (h'.next hbw) hl hl').mono ?_
  rw [HSB.out]
  rintro e w1 ⟨rfl, hbu⟩
  have q3 := (P2.next hbu).c8
  have r3 := (R2.next hbu).c8
  go_wp2_with fail
  refine (sliceEqNO (k.next (below_next hbw hbu)) (k'.next (below_next hbw hbu)) hm hm').mono ?_
  rw [HNB.out]
  rintro e w2 ⟨rfl, hbv⟩
  have q4 := ((P2.next hbu).next hbv).c8
  have r4 := ((R2.next hbu).next hbv).c8
  go_wp2
  go_ret
  exact ⟨ret_bool HN.out.symm, below_next (below_next hbw hbu) hbv⟩
 have HN := Lib.hid (show sameT ⟨on, bad, a, ws, l, sk, gn, inn⟩ ⟨on', bad', a', ws', l', sk', gn', inn'⟩ = true from by rw [HT.out, xsk, xgn, xi]; simp)
 go_enter Try.func42, Try.ntmps42
 go_wp2_with fail
 refine (implSeatSameO (h.next hbw) (h'.next hbw) hl hl').mono ?_
 rw [HSB.out]
 rintro e w1 ⟨rfl, hbu⟩
 have q3 := (P2.next hbu).c8
 have r3 := (R2.next hbu).c8
 go_wp2_with fail
 refine (sliceEqNO (k.next (below_next hbw hbu)) (k'.next (below_next hbw hbu)) hm hm').mono ?_
 rw [HNB.out]
 rintro e w2 ⟨rfl, hbv⟩
 have q4 := ((P2.next hbu).next hbv).c8
 have r4 := ((R2.next hbu).next hbv).c8
 go_wp2
 go_ret
 exact ⟨ret_bool HN.out.symm, below_next (below_next hbw hbu) hbv⟩
end
end Go.Proofs.Ytheblejlmlfddaa
