/- RowsDiff of the program. -/
import Derived.Test.YtabpepddbkipiaaDiff0
namespace Go.Proofs.Ytabpepddbkipiaa
open Go.RowKit
set_option linter.unusedVariables false

set_option maxRecDepth 100000 in
set_option maxHeartbeats 4000000 in
theorem implDiff (A B : Option Addr) (ca cb : Nat) (la lb : List R) (w : World) (hfa : FitR la) (hfb : FitR lb) (hla : la.length ≤ 1048576) (hlb : lb.length ≤ 1048576) (hrA0 : Rd w w.heap.size A la) (hrB0 : Rd w w.heap.size B lb) :
    Calls Try.prog 41 #[.slice A la.length ca, .slice B lb.length cb] w (RetS w (diffV la lb)) := by
  cases hoa : rowsB la
  · have HV := Lib.hid (show diffV la lb = [] from by unfold diffV; rw [hoa]; rfl)
    rw [HV.out]
    go_enter Try.func41, Try.ntmps41
    go_wp2_with fail
    refine (implRowsOk A ca la w hfa (by omega) hrA0).mono ?_
    rintro e w1 ⟨rfl, hb1⟩
    rw [hoa]
    go_wp2
    go_ret
    exact ⟨_, rfl, OwnS.nil _ _, hb1⟩
  cases hob : rowsB lb
  · have HV := Lib.hid (show diffV la lb = [] from by unfold diffV; rw [hob]; simp)
    rw [HV.out]
    go_enter Try.func41, Try.ntmps41
    go_wp2_with fail
    refine (implRowsOk A ca la w hfa (by omega) hrA0).mono ?_
    rintro e w1 ⟨rfl, hb1⟩
    rw [hoa]
    go_wp2_with fail
    refine (implRowsOk B cb lb w1 hfb (by omega) ((hrB0.below hb1).more hb1.size)).mono ?_
    rintro e w2 ⟨rfl, hb2⟩
    rw [hob]
    go_wp2
    go_ret
    exact ⟨_, rfl, OwnS.nil _ _, below_next hb1 hb2⟩
  have HV := Lib.hid (show diffV la lb = diffL la lb from by unfold diffV; rw [hoa, hob]; rfl)
  rw [HV.out]
  go_enter Try.func41, Try.ntmps41
  go_wp2_with fail
  refine (implRowsOk A ca la w hfa (by omega) hrA0).mono ?_
  rintro e w1 ⟨rfl, hb1⟩
  rw [hoa]
  go_wp2_with fail
  refine (implRowsOk B cb lb w1 hfb (by omega) ((hrB0.below hb1).more hb1.size)).mono ?_
  rintro e w2 ⟨rfl, hb2⟩
  rw [hob]
  have hO0 := OwnS.nil w2 w.heap.size
  have hb0 := below_next hb1 hb2
  have hrA := hrA0
  have hrB := hrB0
  clear hrA0 hrB0 hb1 hb2
  go_wp2
  go_loopw [5, 6, 7] (fun o i j W => ∃ p q : Nat, p ≤ la.length ∧ q ≤ lb.length ∧ i = .int .i64 p ∧ j = .int .i64 q ∧ DiffRel la lb w W o p q) (fun _ i j _ => (la.length - (intOf i).toNat) + (lb.length - (intOf j).toNat))
  case atStart => exact ⟨0, 0, Nat.zero_le _, Nat.zero_le _, rfl, rfl, [], la.length + lb.length, by omega, rfl, by simp; omega, hO0, hb0⟩
  case round =>
    obtain ⟨p, q, hp, hq, rfl, rfl, out, f, hf, heq, hol, hown, hb⟩ := hrel
    have HEQ := Lib.hid heq
    clear heq
    have hra := hrA.below hb
    have hrb := hrB.below hb
    have hbs := hb.size
    clear hrA hrB hO0 hb0
    by_cases hpa : p < la.length
    · obtain ⟨b1, o1, rfl, hbB1, hc1, hc2⟩ := hra.at_ hpa
      have i1 : (p : Int) < (la.length : Int) := by omega
      have i2 : ((p : Int) == (la.length : Int)) = false := beq_eq_false_iff_ne.2 (by omega)
      by_cases hqb : q < lb.length
      · obtain ⟨b2, o2, rfl, hbB2, hd1, hd2⟩ := hrb.at_ hqb
        have j1 : (q : Int) < (lb.length : Int) := by omega
        have j2 : ((q : Int) == (lb.length : Int)) = false := beq_eq_false_iff_ne.2 (by omega)
        have j3 : decide ((lb.length : Int) ≤ (q : Int)) = false := decide_eq_false (by omega)
        have j4 : decide (lb.length ≤ q) = false := decide_eq_false (by omega)
        have i3 : decide ((la.length : Int) ≤ (p : Int)) = false := decide_eq_false (by omega)
        have i4 : decide (la.length ≤ p) = false := decide_eq_false (by omega)
        have i5 : decide (p < la.length) = true := decide_eq_true hpa
        cases hl1 : Op.bytesLess la[p].1.toList lb[q].1.toList
        · cases hl2 : Op.bytesLess lb[q].1.toList la[p].1.toList
          · by_cases hnn : la[p].2 = lb[q].2
            · have HD := Lib.hid (diff_same hpa hqb hl1 hl2 hnn hf)
              have hnb : (la[p].2 != lb[q].2) = false := by simp [hnn]
              clear hnn
              go_wp2
              go_quiet (fail)
              go_wp2
              go_quiet (fail)
              go_wp2
              go_quiet (fail)
              go_wp2
              go_roundw
              case rel => exact ⟨p + 1, q + 1, by omega, by omega, by go_num, by go_num, DiffRel.none (W := wr) (o := .bool true) hf HEQ.out hol hpa hqb HD.out (hown.next (below_drewN (Below.refl _ _) _)) (below_drewN hb _)⟩
              case measure => simp [intOf]; omega
            · have HD := Lib.hid (diff_ne hpa hqb hl1 hl2 hnn hf)
              have hnb : (la[p].2 != lb[q].2) = true := by simp [hnn]
              clear hnn
              go_wp2
              go_quiet (fail)
              go_wp2
              go_quiet (fail)
              go_wp2
              go_quiet (fail)
              go_wp2_with ((at_builtin; refine wpList_appS1 _ rfl _ _ rfl w.heap.size _ out la[p].1 rfl (hown.next (below_drewN (Below.refl _ _) _)) rfl (by omega) (below_drewN hb _).size ?_; intro v5 w5 hown5 hgr5 hat5))
              go_roundw
              case rel => exact ⟨p + 1, q + 1, by omega, by omega, by go_num, by go_num, DiffRel.both (W := wr) (o := .bool true) hf HEQ.out hol hpa hqb HD.out hown5 (belowS (below_drewN hb _) (hown.next (below_drewN (Below.refl _ _) _)) hgr5)⟩
              case measure => simp [intOf]; omega
          · have HD := Lib.hid (diff_gt hpa hqb hl1 hl2 hf)
            go_wp2
            go_quiet (fail)
            go_wp2
            go_quiet (fail)
            go_wp2_with ((at_builtin; refine wpList_appS1 _ rfl _ _ rfl w.heap.size _ out lb[q].1 rfl (hown.next (below_drewN (Below.refl _ _) _)) rfl (by omega) (below_drewN hb _).size ?_; intro v5 w5 hown5 hgr5 hat5))
            go_roundw
            case rel => exact ⟨p, q + 1, by omega, by omega, rfl, by go_num, DiffRel.right (W := wr) (o := .bool true) hf HEQ.out hol hqb HD.out hown5 (belowS (below_drewN hb _) (hown.next (below_drewN (Below.refl _ _) _)) hgr5)⟩
            case measure => simp [intOf]; omega
        · have HD := Lib.hid (diff_lt hpa hqb hl1 hf)
          go_wp2
          go_quiet (fail)
          go_wp2_with ((at_builtin; refine wpList_appS1 _ rfl _ _ rfl w.heap.size _ out la[p].1 rfl (hown.next (below_drewN (Below.refl _ _) _)) rfl (by omega) (below_drewN hb _).size ?_; intro v5 w5 hown5 hgr5 hat5))
          go_roundw
          case rel => exact ⟨p + 1, q, by omega, by omega, by go_num, rfl, DiffRel.left (W := wr) (o := .bool true) hf HEQ.out hol hpa HD.out hown5 (belowS (below_drewN hb _) (hown.next (below_drewN (Below.refl _ _) _)) hgr5)⟩
          case measure => simp [intOf]; omega
      · have j1 : decide ((q : Int) < (lb.length : Int)) = false := decide_eq_false (by omega)
        have j2 : ((q : Int) == (lb.length : Int)) = true := beq_iff_eq.2 (by omega)
        have j3 : decide ((lb.length : Int) ≤ (q : Int)) = true := decide_eq_true (by omega)
        have j4 : decide (lb.length ≤ q) = true := decide_eq_true (by omega)
        have HD := Lib.hid (diff_left hpa (Nat.le_of_not_lt hqb) hf)
        go_wp2
        go_quiet (fail)
        go_wp2_with ((at_builtin; refine wpList_appS1 _ rfl _ _ rfl w.heap.size _ out la[p].1 rfl (hown.next (below_drewN (Below.refl _ _) _)) rfl (by omega) (below_drewN hb _).size ?_; intro v5 w5 hown5 hgr5 hat5))
        go_roundw
        case rel => exact ⟨p + 1, q, by omega, by omega, by go_num, rfl, DiffRel.left (W := wr) (o := .bool true) hf HEQ.out hol hpa HD.out hown5 (belowS (below_drewN hb _) (hown.next (below_drewN (Below.refl _ _) _)) hgr5)⟩
        case measure => simp [intOf]; omega
    · have i1 : decide ((p : Int) < (la.length : Int)) = false := decide_eq_false (by omega)
      have i1' : decide (p < la.length) = false := decide_eq_false (by omega)
      have i2 : ((p : Int) == (la.length : Int)) = true := beq_iff_eq.2 (by omega)
      have i3 : decide ((la.length : Int) ≤ (p : Int)) = true := decide_eq_true (by omega)
      have i4 : decide (la.length ≤ p) = true := decide_eq_true (by omega)
      by_cases hqb : q < lb.length
      · obtain ⟨b2, o2, rfl, hbB2, hd1, hd2⟩ := hrb.at_ hqb
        have j1 : (q : Int) < (lb.length : Int) := by omega
        have j2 : ((q : Int) == (lb.length : Int)) = false := beq_eq_false_iff_ne.2 (by omega)
        have j3 : decide ((lb.length : Int) ≤ (q : Int)) = false := decide_eq_false (by omega)
        have j4 : decide (lb.length ≤ q) = false := decide_eq_false (by omega)
        have HD := Lib.hid (diff_right (Nat.le_of_not_lt hpa) hqb hf)
        go_wp2
        go_quiet (fail)
        go_wp2
        go_quiet (fail)
        go_wp2_with ((at_builtin; refine wpList_appS1 _ rfl _ _ rfl w.heap.size _ out lb[q].1 rfl (hown.next (below_drewN (Below.refl _ _) _)) rfl (by omega) (below_drewN hb _).size ?_; intro v5 w5 hown5 hgr5 hat5))
        go_roundw
        case rel => exact ⟨p, q + 1, by omega, by omega, rfl, by go_num, DiffRel.right (W := wr) (o := .bool true) hf HEQ.out hol hqb HD.out hown5 (belowS (below_drewN hb _) (hown.next (below_drewN (Below.refl _ _) _)) hgr5)⟩
        case measure => simp [intOf]; omega
      · have j1 : decide ((q : Int) < (lb.length : Int)) = false := decide_eq_false (by omega)
        have hfin : out = diffL la lb := by
          have h := HEQ.out
          rw [List.drop_of_length_le (by omega), List.drop_of_length_le (by omega), diffF_nil, List.append_nil] at h
          exact h
        have HF := Lib.hid hfin
        clear hfin
        go_wp2
        go_ret
        exact ⟨_, rfl, by rw [← HF.out]; exact hown, hb⟩

end Go.Proofs.Ytabpepddbkipiaa
