/- HallSame, of the model and of the program. -/
import Derived.Test.YtheblejlmlfddaaHlH
import Derived.Test.YtheblejlmlfddaaTkS
namespace Go.Proofs.Ytheblejlmlfddaa
open Go.RowKit
set_option linter.unusedVariables false
set_option maxRecDepth 100000

open Classical in
noncomputable def sameTs (l l' : List Tk) : Bool := decide (l.length = l'.length ∧ ∀ k (h : k < l.length) (h' : k < l'.length), sameT l[k] l'[k] = true)
theorem sameTs_len {l l' : List TT} (h : l.length ≠ l'.length) : sameTs (ofTT l) (ofTT l') = false := by
 unfold sameTs
 exact decide_eq_false fun e => h (by have := e.1; rwa [ofTT_len, ofTT_len] at this)
theorem sameTs_no {l l' : List TT} {k : Nat} (h : k < l.length) (h' : k < l'.length) (e : sameT l[k].t l'[k].t = false) : sameTs (ofTT l) (ofTT l') = false := by
 unfold sameTs
 rw [decide_eq_false_iff_not]
 rintro ⟨-, h2⟩
 have := h2 k (by rw [ofTT_len]; exact h) (by rw [ofTT_len]; exact h')
 simp only [ofTT, List.getElem_map] at this
 rw [e] at this
 cases this
theorem sameTs_yes {l l' : List TT} (h : l.length = l'.length) (e : ∀ k (h : k < l.length) (h' : k < l'.length), sameT l[k].t l'[k].t = true) : sameTs (ofTT l) (ofTT l') = true := by
 unfold sameTs
 refine decide_eq_true ⟨by rw [ofTT_len, ofTT_len]; exact h, fun k h1 h2 => ?_⟩
 simp only [ofTT, List.getElem_map]
 exact e k (by rw [ofTT_len] at h1; exact h1) (by rw [ofTT_len] at h2; exact h2)
noncomputable def sameH (z z' : Int) (l l' : List V) (ts ts' : List Tk) : Bool := sameB z z' l l' && sameTs ts ts'
section
variable {z z' : Int} {l l' : List V} {ts ts' : List Tk} {w : World} {v v' : Value} {b1 b2 : Nat}
theorem OwH.rd (h : OwH w b1 v z l ts) : ∃ A C c m rs, v = .agg #[.int .i64 z, .slice A l.length c, .slice C (List.length rs) m] ∧ ofTT rs = ts ∧ OwnG w b1 (.slice A l.length c) l ∧ RdG w w.heap.size C rs ∧ ∀ x ∈ rs, OwTT w b1 x := by
 obtain ⟨g, k, rs, rfl, hof, o1, o2, o3⟩ := h.ex
 obtain ⟨-, -, -, d1⟩ := o2.rd'
 exact ⟨_, _, _, _, rs, rfl, hof, o1, d1, o3⟩
def SmT (ts : List Tk) : Prop := ∀ t ∈ ts, t.ws.length ≤ 1048576 ∧ t.ns.length ≤ 1048576
theorem SmT.at_ {rs : List TT} (h : SmT (ofTT rs)) {k : Nat} (hk : k < rs.length) : rs[k].t.ws.length ≤ 1048576 ∧ rs[k].t.ns.length ≤ 1048576 := h _ (List.mem_map_of_mem (List.getElem_mem hk))

set_option maxHeartbeats 4000000 in
theorem specHallSameO (h : OwH w b1 v z l ts) (h' : OwH w b2 v' z' l' ts') (hl : l.length ≤ 1048576) (hl' : l'.length ≤ 1048576) (hs : SmT ts) (hs' : SmT ts') (hn : ts.length ≤ 1048576) (hn' : ts'.length ≤ 1048576) :
  Calls Try.prog 19 #[v, v'] w fun e w' => e = .returned (.bool (sameH z z' l l' ts ts')) ∧ Below w.heap.size w w' := by
 obtain ⟨A, C, c, m, rs, rfl, rfl, o1, o2, o3⟩ := h.rd
 obtain ⟨A', C', c', m', rs', rfl, rfl, p1, p2, p3⟩ := h'.rd
 rw [ofTT_len] at hn hn'
 obtain ⟨W1, e1, hs1, P1, hb1⟩ := al1 w rfl #[.int .i64 z, .slice A l.length c, .slice C rs.length m] 27
 obtain ⟨W2, e2, hs2, R2, hb2⟩ := al1 W1 hs1 #[.int .i64 z', .slice A' l'.length c', .slice C' rs'.length m'] 27
 have hbw := below_next hb1 hb2
 have P2 := P1.next hb2
 have q2 := P2.c3
 have r2 := R2.c3
 clear P1 hb1 hb2
 cases SB : sameB z z' l l'
 ·
  have HN := Lib.hid (show sameH z z' l l' (ofTT rs) (ofTT rs') = false from by unfold sameH; rw [SB]; rfl)
  go_enter Try.func19, Try.ntmps19
  go_wp2_with fail
  refine (specSameO (o1.next hbw) (p1.next hbw) (by omega) (by omega)).mono ?_
  rw [SB]
  rintro e w1 ⟨rfl, hbu⟩
  have q3 := (P2.next hbu).c3
  have r3 := (R2.next hbu).c3
  go_wp2
  go_ret
  exact ⟨ret_bool HN.out.symm, below_next hbw hbu⟩
 by_cases hlen : rs.length = rs'.length; rotate_left
 ·
  have hne : ((rs.length : Int) != (rs'.length : Int)) = true := by simp; omega
  have HN := Lib.hid (show sameH z z' l l' (ofTT rs) (ofTT rs') = false from by unfold sameH; rw [sameTs_len hlen]; simp)
  clear hlen
  go_enter Try.func19, Try.ntmps19
  go_wp2_with fail
  refine (specSameO (o1.next hbw) (p1.next hbw) (by omega) (by omega)).mono ?_
  rw [SB]
  rintro e w1 ⟨rfl, hbu⟩
  have q3 := (P2.next hbu).c3
  have r3 := (R2.next hbu).c3
  go_wp2
  go_ret
  exact ⟨ret_bool HN.out.symm, below_next hbw hbu⟩
 have hne : ((rs.length : Int) != (rs'.length : Int)) = false := by simp [hlen]
 have HL := Lib.hid hlen
 have hle1 : rs.length ≤ rs'.length := by omega
 have hle2 : rs'.length ≤ rs.length := by omega
 have HSB := Lib.hid SB
 clear hlen
 go_enter Try.func19, Try.ntmps19
 go_wp2_with fail
 refine (specSameO (o1.next hbw) (p1.next hbw) (by omega) (by omega)).mono ?_
 rw [SB]
 rintro e w1 ⟨rfl, hbu⟩
 clear SB
 have hbx := below_next hbw hbu
 have P3 := P2.next hbu
 have R3 := R2.next hbu
 have q3 := P3.c3
 have r3 := R3.c3
 have d1 := (o2.next hbx)
 have d2 := (p2.next hbx)
 clear P2 R2 q2 r2
 go_wp2
 clear q3 r3
 go_loopw [5] (fun i W => ∃ k : Nat, k ≤ rs.length ∧ i = .int .i64 k ∧ Below w1.heap.size w1 W ∧ ∀ j (h : j < rs.length) (h' : j < rs'.length), j < k → sameT rs[j].t rs'[j].t = true) (fun i _ => rs.length - (intOf i).toNat)
 case atStart => exact ⟨0, Nat.zero_le _, rfl, Below.refl _ _, fun j h h' hj => absurd hj (by omega)⟩
 case round =>
  obtain ⟨k, hk, rfl, hb, ht⟩ := hrel
  have HT := Lib.hid ht
  clear ht
  have P4 := P3.next hb
  have R4 := R3.next hb
  have q4 := P4.c3
  have r4 := R4.c3
  have hwl := P4.lt
  have hwr := R4.lt
  by_cases hkl : k < rs.length
  ·
   have hkl' : k < rs'.length := by omega
   obtain ⟨b, o, rfl, hbB, hc0, hc1, hc2, hc3, hc4, hc5, hc6, hc7⟩ := (d1.below hb).atTT hkl
   obtain ⟨b', o', rfl, hbB', hd0, hd1, hd2, hd3, hd4, hd5, hd6, hd7⟩ := (d2.below hb).atTT hkl'
   have u1 := ((o3 _ (List.getElem_mem hkl)).next hbx).next hb
   have u2 := ((p3 _ (List.getElem_mem hkl')).next hbx).next hb
   have HP := Lib.hid (And.intro u1 u2)
   have HS := Lib.hid (And.intro (hs.at_ hkl) (hs'.at_ hkl'))
   clear u1 u2
   have hbd : Below wr.heap.size wr wr.drew := (Below.refl _ _).drew
   have hq : b < wr.heap.size := Nat.lt_of_lt_of_le hbB hb.size
   have hq' : b' < wr.heap.size := Nat.lt_of_lt_of_le hbB' hb.size
   obtain ⟨q40, q41, q42⟩ := q4
   obtain ⟨r40, r41, r42⟩ := r4
   obtain ⟨TB, HTB⟩ : ∃ TB, Hid (sameT rs[k].t rs'[k].t = TB) := ⟨_, Lib.hid rfl⟩
   cases TB
   ·
    have HN := Lib.hid (show sameH z z' l l' (ofTT rs) (ofTT rs') = false from by unfold sameH; rw [sameTs_no hkl hkl' HTB.out]; simp)
    go_wp2
    go_region_held3 (fun W => W.cell? ⟨w.heap.size, 2, none⟩ = some (.slice (some ⟨b, o, none⟩) rs.length m) ∧ W.cell? ⟨w.heap.size + 1, 2, none⟩ = some (.slice (some ⟨b', o', none⟩) rs'.length m') ∧ W.cell? ⟨b, o + k * 8, none⟩ = some (.bool rs[k].t.on) ∧ W.cell? ⟨b, o + k * 8 + 1, none⟩ = some (.bool rs[k].t.bad) ∧ W.cell? ⟨b, o + k * 8 + 2, none⟩ = some (.int .i64 rs[k].t.a) ∧ W.cell? ⟨b, o + k * 8 + 3, none⟩ = some (.slice rs[k].A rs[k].t.ws.length rs[k].c) ∧ W.cell? ⟨b, o + k * 8 + 4, none⟩ = some (.slice rs[k].B rs[k].t.ns.length rs[k].d) ∧ W.cell? ⟨b, o + k * 8 + 5, none⟩ = some (.bool rs[k].t.sk) ∧ W.cell? ⟨b, o + k * 8 + 6, none⟩ = some (.bool rs[k].t.gn) ∧ W.cell? ⟨b, o + k * 8 + 7, none⟩ = some (.string rs[k].t.inn) ∧ W.cell? ⟨b', o' + k * 8, none⟩ = some (.bool rs'[k].t.on) ∧ W.cell? ⟨b', o' + k * 8 + 1, none⟩ = some (.bool rs'[k].t.bad) ∧ W.cell? ⟨b', o' + k * 8 + 2, none⟩ = some (.int .i64 rs'[k].t.a) ∧ W.cell? ⟨b', o' + k * 8 + 3, none⟩ = some (.slice rs'[k].A rs'[k].t.ws.length rs'[k].c) ∧ W.cell? ⟨b', o' + k * 8 + 4, none⟩ = some (.slice rs'[k].B rs'[k].t.ns.length rs'[k].d) ∧ W.cell? ⟨b', o' + k * 8 + 5, none⟩ = some (.bool rs'[k].t.sk) ∧ W.cell? ⟨b', o' + k * 8 + 6, none⟩ = some (.bool rs'[k].t.gn) ∧ W.cell? ⟨b', o' + k * 8 + 7, none⟩ = some (.string rs'[k].t.inn)) (first | exact ⟨q42, r42, hc0, hc1, hc2, hc3, hc4, hc5, hc6, hc7, hd0, hd1, hd2, hd3, hd4, hd5, hd6, hd7⟩ | exact ⟨(hb2.cell hwl).trans q42, (hb2.cell hwr).trans r42, (hb2.cell hq).trans hc0, (hb2.cell hq).trans hc1, (hb2.cell hq).trans hc2, (hb2.cell hq).trans hc3, (hb2.cell hq).trans hc4, (hb2.cell hq).trans hc5, (hb2.cell hq).trans hc6, (hb2.cell hq).trans hc7, (hb2.cell hq').trans hd0, (hb2.cell hq').trans hd1, (hb2.cell hq').trans hd2, (hb2.cell hq').trans hd3, (hb2.cell hq').trans hd4, (hb2.cell hq').trans hd5, (hb2.cell hq').trans hd6, (hb2.cell hq').trans hd7⟩)
     (first | (go_at_call 37; refine (specTalkSameO (t := rs[k].t) (t' := rs'[k].t) (HP.out.1.1.next hbd) (HP.out.2.1.next hbd) (HP.out.1.2.next hbd) (HP.out.2.2.next hbd) (by have := HS.out; omega) (by have := HS.out; omega) (by have := HS.out; omega) (by have := HS.out; omega)).mono ?_; rw [HTB.out]; rintro e w' ⟨rfl, hb2⟩))
    go_wp2
    go_ret
    exact ⟨ret_bool HN.out.symm, below_next hbx (hb.trans ((Below.drew (Below.refl _ _)).trans (hb2.mono hb.size)))⟩
   ·
    go_wp2
    go_region_held3 (fun W => W.cell? ⟨w.heap.size, 2, none⟩ = some (.slice (some ⟨b, o, none⟩) rs.length m) ∧ W.cell? ⟨w.heap.size + 1, 2, none⟩ = some (.slice (some ⟨b', o', none⟩) rs'.length m') ∧ W.cell? ⟨b, o + k * 8, none⟩ = some (.bool rs[k].t.on) ∧ W.cell? ⟨b, o + k * 8 + 1, none⟩ = some (.bool rs[k].t.bad) ∧ W.cell? ⟨b, o + k * 8 + 2, none⟩ = some (.int .i64 rs[k].t.a) ∧ W.cell? ⟨b, o + k * 8 + 3, none⟩ = some (.slice rs[k].A rs[k].t.ws.length rs[k].c) ∧ W.cell? ⟨b, o + k * 8 + 4, none⟩ = some (.slice rs[k].B rs[k].t.ns.length rs[k].d) ∧ W.cell? ⟨b, o + k * 8 + 5, none⟩ = some (.bool rs[k].t.sk) ∧ W.cell? ⟨b, o + k * 8 + 6, none⟩ = some (.bool rs[k].t.gn) ∧ W.cell? ⟨b, o + k * 8 + 7, none⟩ = some (.string rs[k].t.inn) ∧ W.cell? ⟨b', o' + k * 8, none⟩ = some (.bool rs'[k].t.on) ∧ W.cell? ⟨b', o' + k * 8 + 1, none⟩ = some (.bool rs'[k].t.bad) ∧ W.cell? ⟨b', o' + k * 8 + 2, none⟩ = some (.int .i64 rs'[k].t.a) ∧ W.cell? ⟨b', o' + k * 8 + 3, none⟩ = some (.slice rs'[k].A rs'[k].t.ws.length rs'[k].c) ∧ W.cell? ⟨b', o' + k * 8 + 4, none⟩ = some (.slice rs'[k].B rs'[k].t.ns.length rs'[k].d) ∧ W.cell? ⟨b', o' + k * 8 + 5, none⟩ = some (.bool rs'[k].t.sk) ∧ W.cell? ⟨b', o' + k * 8 + 6, none⟩ = some (.bool rs'[k].t.gn) ∧ W.cell? ⟨b', o' + k * 8 + 7, none⟩ = some (.string rs'[k].t.inn)) (first | exact ⟨q42, r42, hc0, hc1, hc2, hc3, hc4, hc5, hc6, hc7, hd0, hd1, hd2, hd3, hd4, hd5, hd6, hd7⟩ | exact ⟨(hb2.cell hwl).trans q42, (hb2.cell hwr).trans r42, (hb2.cell hq).trans hc0, (hb2.cell hq).trans hc1, (hb2.cell hq).trans hc2, (hb2.cell hq).trans hc3, (hb2.cell hq).trans hc4, (hb2.cell hq).trans hc5, (hb2.cell hq).trans hc6, (hb2.cell hq).trans hc7, (hb2.cell hq').trans hd0, (hb2.cell hq').trans hd1, (hb2.cell hq').trans hd2, (hb2.cell hq').trans hd3, (hb2.cell hq').trans hd4, (hb2.cell hq').trans hd5, (hb2.cell hq').trans hd6, (hb2.cell hq').trans hd7⟩)
     (first | (go_at_call 37; refine (specTalkSameO (t := rs[k].t) (t' := rs'[k].t) (HP.out.1.1.next hbd) (HP.out.2.1.next hbd) (HP.out.1.2.next hbd) (HP.out.2.2.next hbd) (by have := HS.out; omega) (by have := HS.out; omega) (by have := HS.out; omega) (by have := HS.out; omega)).mono ?_; rw [HTB.out]; rintro e w' ⟨rfl, hb2⟩))
    go_wp2
    go_roundw
    case rel => exact ⟨k + 1, by omega, by go_num, hb.trans ((Below.drew (Below.refl _ _)).trans (hb2.mono hb.size)), fun j h1 h2 hj => (Nat.lt_succ_iff_lt_or_eq.1 hj).elim (HT.out j h1 h2) (fun e => by subst e; exact HTB.out)⟩
    case measure => simp [intOf]; omega
  ·
   have HN := Lib.hid (show sameH z z' l l' (ofTT rs) (ofTT rs') = true from by
    unfold sameH; rw [HSB.out, sameTs_yes HL.out (fun j h1 h2 => HT.out j h1 h2 (by omega))]; rfl)
   go_wp2
   go_ret
   exact ⟨ret_bool HN.out.symm, below_next hbx hb⟩

set_option maxHeartbeats 4000000 in
theorem equalFuncT (C C' : Option Addr) (m m' : Nat) (rs rs' : List TT) (hs : SmT (ofTT rs)) (hs' : SmT (ofTT rs')) (hn : rs.length ≤ 1048576) (hn' : rs'.length ≤ 1048576) (d1 : RdG w w.heap.size C rs) (d2 : RdG w w.heap.size C' rs') (o3 : ∀ x ∈ rs, OwTT w b1 x) (p3 : ∀ x ∈ rs', OwTT w b2 x) :
  Calls Try.prog 41 #[.slice C rs.length m, .slice C' rs'.length m', .func (.func 42) #[] #[]] w fun e w' => e = .returned (.bool (sameTs (ofTT rs) (ofTT rs'))) ∧ Below w.heap.size w w' := by
 by_cases hlen : rs.length = rs'.length; rotate_left
 ·
  have hne : ((rs.length : Int) != (rs'.length : Int)) = true := by simp; omega
  have HN := Lib.hid (sameTs_len hlen)
  clear hlen
  go_enter Try.func41, Try.ntmps41
  go_wp2
  go_ret
  exact ⟨ret_bool HN.out.symm, Below.refl _ _⟩
 have hne : ((rs.length : Int) != (rs'.length : Int)) = false := by simp [hlen]
 have HL := Lib.hid hlen
 have hle1 : rs.length ≤ rs'.length := by omega
 have hle2 : rs'.length ≤ rs.length := by omega
 clear hlen
 go_enter Try.func41, Try.ntmps41
 go_wp2
 go_loopw [17] (fun i W => ∃ k : Nat, k ≤ rs.length ∧ i = .int .i64 k ∧ Below w.heap.size w W ∧ ∀ j (h : j < rs.length) (h' : j < rs'.length), j < k → sameT rs[j].t rs'[j].t = true) (fun i _ => rs.length - (intOf i).toNat)
 case atStart => exact ⟨0, Nat.zero_le _, rfl, Below.refl _ _, fun j h h' hj => absurd hj (by omega)⟩
 case round =>
  obtain ⟨k, hk, rfl, hb, ht⟩ := hrel
  have HT := Lib.hid ht
  clear ht
  by_cases hkl : k < rs.length
  ·
   have hkl' : k < rs'.length := by omega
   have hkI : decide ((k : Int) < (rs.length : Int)) = true := decide_eq_true (by omega)
   obtain ⟨b, o, rfl, hbB, hc0, hc1, hc2, hc3, hc4, hc5, hc6, hc7⟩ := (d1.below hb).atTT hkl
   obtain ⟨b', o', rfl, hbB', hd0, hd1, hd2, hd3, hd4, hd5, hd6, hd7⟩ := (d2.below hb).atTT hkl'
   have HP := Lib.hid (And.intro ((o3 _ (List.getElem_mem hkl)).next hb) ((p3 _ (List.getElem_mem hkl')).next hb))
   have HS := Lib.hid (And.intro (hs.at_ hkl) (hs'.at_ hkl'))
   have hq : b < wr.heap.size := Nat.lt_of_lt_of_le hbB hb.size
   have hq' : b' < wr.heap.size := Nat.lt_of_lt_of_le hbB' hb.size
   obtain ⟨TB, HTB⟩ : ∃ TB, Hid (sameT rs[k].t rs'[k].t = TB) := ⟨_, Lib.hid rfl⟩
   have hba := below_alloc (Below.refl wr.heap.size wr) (.cells #[.bool rs[k].t.on, .bool rs[k].t.bad, .int .i64 rs[k].t.a, .slice rs[k].A rs[k].t.ws.length rs[k].c, .slice rs[k].B rs[k].t.ns.length rs[k].d, .bool rs[k].t.sk, .bool rs[k].t.gn, .string rs[k].t.inn] 57)
   have hbb := below_next hba (below_alloc (Below.refl _ _) (.cells #[.bool rs'[k].t.on, .bool rs'[k].t.bad, .int .i64 rs'[k].t.a, .slice rs'[k].A rs'[k].t.ws.length rs'[k].c, .slice rs'[k].B rs'[k].t.ns.length rs'[k].d, .bool rs'[k].t.sk, .bool rs'[k].t.gn, .string rs'[k].t.inn] 57))
   have HBB := Lib.hid hbb
   clear hba hbb
   cases TB
   ·
    have HN := Lib.hid (sameTs_no hkl hkl' HTB.out)
    go_wp2_with fail
    refine (implTalkSameO (t := rs[k].t) (t' := rs'[k].t) (HP.out.1.1.next HBB.out) (HP.out.2.1.next HBB.out) (HP.out.1.2.next HBB.out) (HP.out.2.2.next HBB.out) (by have := HS.out; omega) (by have := HS.out; omega) (by have := HS.out; omega) (by have := HS.out; omega)).mono ?_
    rw [HTB.out]
    rintro e w' ⟨rfl, hb2⟩
    go_wp2
    go_ret
    exact ⟨ret_bool HN.out.symm, below_next hb (below_next HBB.out hb2)⟩
   ·
    go_wp2_with fail
    refine (implTalkSameO (t := rs[k].t) (t' := rs'[k].t) (HP.out.1.1.next HBB.out) (HP.out.2.1.next HBB.out) (HP.out.1.2.next HBB.out) (HP.out.2.2.next HBB.out) (by have := HS.out; omega) (by have := HS.out; omega) (by have := HS.out; omega) (by have := HS.out; omega)).mono ?_
    rw [HTB.out]
    rintro e w' ⟨rfl, hb2⟩
    go_wp2
    go_roundw
    case rel => exact ⟨k + 1, by omega, by go_num, below_next hb (below_next HBB.out hb2), fun j h1 h2 hj => (Nat.lt_succ_iff_lt_or_eq.1 hj).elim (HT.out j h1 h2) (fun e => by subst e; exact HTB.out)⟩
    case measure => simp [intOf]; omega
  ·
   have hkI : decide ((k : Int) < (rs.length : Int)) = false := decide_eq_false (by omega)
   have HN := Lib.hid (sameTs_yes HL.out (fun j h1 h2 => HT.out j h1 h2 (by omega)))
   go_wp2
   go_ret
   exact ⟨ret_bool HN.out.symm, hb⟩

set_option maxHeartbeats 4000000 in
theorem implHallSameO (h : OwH w b1 v z l ts) (h' : OwH w b2 v' z' l' ts') (hl : l.length ≤ 1048576) (hl' : l'.length ≤ 1048576) (hs : SmT ts) (hs' : SmT ts') (hn : ts.length ≤ 1048576) (hn' : ts'.length ≤ 1048576) :
  Calls Try.prog 21 #[v, v'] w fun e w' => e = .returned (.bool (sameH z z' l l' ts ts')) ∧ Below w.heap.size w w' := by
 obtain ⟨A, C, c, m, rs, rfl, rfl, o1, o2, o3⟩ := h.rd
 obtain ⟨A', C', c', m', rs', rfl, rfl, p1, p2, p3⟩ := h'.rd
 rw [ofTT_len] at hn hn'
 obtain ⟨W1, e1, hs1, P1, hb1⟩ := al1 w rfl #[.int .i64 z, .slice A l.length c, .slice C rs.length m] 27
 obtain ⟨W2, e2, hs2, R2, hb2⟩ := al1 W1 hs1 #[.int .i64 z', .slice A' l'.length c', .slice C' rs'.length m'] 27
 have hbw := below_next hb1 hb2
 have P2 := P1.next hb2
 have q2 := P2.c3
 have r2 := R2.c3
 clear P1 hb1 hb2
 cases SB : sameB z z' l l'
 ·
  have HN := Lib.hid (show sameH z z' l l' (ofTT rs) (ofTT rs') = false from by unfold sameH; rw [SB]; rfl)
  go_enter Try.func21, Try.ntmps21
  go_wp2_with fail
  refine (implSameO (o1.next hbw) (p1.next hbw) (by omega) (by omega)).mono ?_
  rw [SB]
  rintro e w1 ⟨rfl, hbu⟩
  have q3 := (P2.next hbu).c3
  have r3 := (R2.next hbu).c3
  go_wp2
  go_ret
  exact ⟨ret_bool HN.out.symm, below_next hbw hbu⟩
 have HN := Lib.hid (show sameH z z' l l' (ofTT rs) (ofTT rs') = sameTs (ofTT rs) (ofTT rs') from by unfold sameH; rw [SB]; rfl)
 go_enter Try.func21, Try.ntmps21
 go_wp2_with fail
 refine (implSameO (o1.next hbw) (p1.next hbw) (by omega) (by omega)).mono ?_
 rw [SB]
 rintro e w1 ⟨rfl, hbu⟩
 have hbx := below_next hbw hbu
 have q3 := (P2.next hbu).c3
 have r3 := (R2.next hbu).c3
 go_wp2_with fail
 refine (equalFuncT C C' m m' rs rs' hs hs' hn hn' (o2.next hbx) (p2.next hbx) (fun x hx => (o3 x hx).next hbx) (fun x hx => (p3 x hx).next hbx)).mono ?_
 rintro e w2 ⟨rfl, hbv⟩
 go_wp2
 go_ret
 exact ⟨ret_bool HN.out.symm, below_next hbx hbv⟩
end
end Go.Proofs.Ytheblejlmlfddaa
