/- The law FnVersAt: for every code that is drawn from, the rows of a time are right and just those that stood then, as in the model, and at no time that there is stands nothing: for every input the call returns true, and the argument reads afterwards as before. No conditions. -/
import Derived.Test.YtbhdgalkedegjaaRows
import Derived.Test.YtbhdgalkedegjaaWhole
import Derived.Test.YtbhdgalkedegjaaA1
import Derived.Test.YtbhdgalkedegjaaDv5
import Derived.Test.YtbhdgalkedegjaaM2d
import Derived.Test.YtbhdgalkedegjaaS2s
import Derived.Test.YtbhdgalkedegjaaA4
import Derived.WalkKit
import Derived.ProofKit
import Derived.OpenShut
import Derived.ShutString
import Derived.ChangeOld
import Derived.Below
namespace Go.Proofs.Ytbhdgalkedegjaa.fnVersAt
open Go.ChangeShapes Go.WideShapes Go.ChangeAt Go.RowKit
open Go.ChangeMaps (open_string shut_string)
set_option linter.unusedVariables false

set_option maxRecDepth 100000 in
set_option maxHeartbeats 1000000 in
theorem walk (A0 : Option Addr) (n0 c0 : Nat) (w : World) (hc0 : n0 ≤ c0) (hm0 : c0 ≤ maxLen) (hr0 : RdB w w.heap.size A0 n0) :
    Calls Try.prog 14 #[.slice A0 n0 c0] w fun e w' => e = .returned (.bool true) ∧ Below w.heap.size w w' := by
  by_cases hn_n0 : (1048576 : Int) < (n0 : Int)
  · go_enter Try.func14, Try.ntmps14
    go_wp2
    go_ret
    exact ⟨rfl, Below.refl _ _⟩
  go_enter Try.func14, Try.ntmps14
  go_wp2_with fail
  refine (drawVersAt A0 n0 c0 w hc0 hm0 hr0).mono ?_
  rintro e w1 ⟨za, Va, la, ta, rfl, a_n, hfa, hza, hla, hta, hb1⟩
  obtain ⟨ada, ca, rfl, ry1_a, ry2_a, ry3_a⟩ := a_n.read
  clear ry1_a ry2_a ry3_a
  have hw_t1 := hb1
  have hs_t1 := hb1.size
  have hb_t3 := below_alloc (Below.refl _ w1) (.cells #[.int .i64 za, .slice ada la.length ca] 29)
  have Ba_t3 := blkA w1 #[.int .i64 za, .slice ada la.length ca] 29
  have hz_t3 : (w1.alloc (.cells #[.int .i64 za, .slice ada la.length ca] 29)).heap.size = w1.heap.size + 1 := World.size_alloc _ _
  have a_t4 := a_n.next hb_t3
  clear a_n
  have hw_t4 := below_next hw_t1 hb_t3
  have hs_t4 := hb_t3.size
  have hal := versAt_length za la ta
  have HRP := Lib.hid (rowsB_iff.2 (versAt_rows za la ta))
  have hfr := fitR_versAt (z := za) hfa ta
  obtain ⟨R1, HR1⟩ : ∃ R1, Hid (versAt za la ta = R1) := ⟨_, Lib.hid rfl⟩
  rw [HR1.out] at hal HRP hfr
  have qBa0 : (w1.alloc (.cells #[.int .i64 za, .slice ada la.length ca] 29)).cell? ⟨w1.heap.size, 0, none⟩ = some (.int .i64 za) := by rw [Ba_t3.cell]; rfl
  have qBa1 : (w1.alloc (.cells #[.int .i64 za, .slice ada la.length ca] 29)).cell? ⟨w1.heap.size, 1, none⟩ = some (.slice ada la.length ca) := by rw [Ba_t3.cell]; rfl
  go_wp2_with fail
  clear qBa0 qBa1
  refine (implVersAtO ta a_t4 hfa (by omega)).mono ?_
  rw [HR1.out]
  rintro e w2 ⟨Vr, rfl, r_n, hb2⟩
  obtain ⟨adr, cr, rfl, ry1_r, ry2_r, ry3_r⟩ := r_n.read
  clear ry1_r ry2_r ry3_r
  have a_t6 := a_t4.next hb2
  clear a_t4
  have Ba_t6 := Ba_t3.next hb2
  clear Ba_t3
  have hw_t6 := below_next hw_t4 hb2
  have hs_t6 := hb2.size
  have qBa0 : w2.cell? ⟨w1.heap.size, 0, none⟩ = some (.int .i64 za) := by rw [Ba_t6.cell]; rfl
  have qBa1 : w2.cell? ⟨w1.heap.size, 1, none⟩ = some (.slice ada la.length ca) := by rw [Ba_t6.cell]; rfl
  go_wp2_with fail
  clear qBa0 qBa1
  refine (specVersAtO ta a_t6 hfa (by omega)).mono ?_
  rw [HR1.out]
  rintro e w3 ⟨Vq, rfl, q_n, hb3⟩
  obtain ⟨adq, cq, rfl, ry1_q, ry2_q, ry3_q⟩ := q_n.read
  clear ry1_q ry2_q ry3_q
  have a_t8 := a_t6.next hb3
  clear a_t6
  have r_t8 := r_n.next hb3
  clear r_n
  have Ba_t8 := Ba_t6.next hb3
  clear Ba_t6
  have hw_t8 := below_next hw_t6 hb3
  have hs_t8 := hb3.size
  have qBa0 : w3.cell? ⟨w1.heap.size, 0, none⟩ = some (.int .i64 za) := by rw [Ba_t8.cell]; rfl
  have qBa1 : w3.cell? ⟨w1.heap.size, 1, none⟩ = some (.slice ada la.length ca) := by rw [Ba_t8.cell]; rfl
  go_wp2_with fail
  clear qBa0 qBa1
  refine (wpO r_t8 q_n (by omega) (by omega)).mono ?_
  rintro e w4 ⟨rfl, hb4⟩
  rw [eqL_yes rfl]
  have a_t10 := a_t8.next hb4
  clear a_t8
  have r_t10 := r_t8.next hb4
  clear r_t8
  have q_t10 := q_n.next hb4
  clear q_n
  have Ba_t10 := Ba_t8.next hb4
  clear Ba_t8
  have hw_t10 := below_next hw_t8 hb4
  have hs_t10 := hb4.size
  clear q_t10
  have qBa0 : w4.cell? ⟨w1.heap.size, 0, none⟩ = some (.int .i64 za) := by rw [Ba_t10.cell]; rfl
  have qBa1 : w4.cell? ⟨w1.heap.size, 1, none⟩ = some (.slice ada la.length ca) := by rw [Ba_t10.cell]; rfl
  go_wp2_with fail
  clear qBa0 qBa1
  refine (implOkO r_t10 hfr (by omega)).mono ?_
  rintro e w5 ⟨rfl, hb5⟩
  rw [HRP.out]
  have a_t12 := a_t10.next hb5
  clear a_t10
  have r_t12 := r_t10.next hb5
  clear r_t10
  have Ba_t12 := Ba_t10.next hb5
  clear Ba_t10
  have hw_t12 := below_next hw_t10 hb5
  have hs_t12 := hb5.size
  cases hc : versB za la
  · have qBa0 : w5.cell? ⟨w1.heap.size, 0, none⟩ = some (.int .i64 za) := by rw [Ba_t12.cell]; rfl
    have qBa1 : w5.cell? ⟨w1.heap.size, 1, none⟩ = some (.slice ada la.length ca) := by rw [Ba_t12.cell]; rfl
    go_wp2_with fail
    clear qBa0 qBa1
    refine (specVersOkO a_t12 hfa).mono ?_
    rintro e w6 ⟨rfl, hb6⟩
    rw [hc]
    have a_t14 := a_t12.next hb6
    clear a_t12
    have r_t14 := r_t12.next hb6
    clear r_t12
    have Ba_t14 := Ba_t12.next hb6
    clear Ba_t12
    have hw_t14 := below_next hw_t12 hb6
    have hs_t14 := hb6.size
    have e : R1 = [] := HR1.out.symm.trans (versAt_no (.inl hc))
    subst e
    have qBa0 : w6.cell? ⟨w1.heap.size, 0, none⟩ = some (.int .i64 za) := by rw [Ba_t14.cell]; rfl
    have qBa1 : w6.cell? ⟨w1.heap.size, 1, none⟩ = some (.slice ada la.length ca) := by rw [Ba_t14.cell]; rfl
    go_wp2
    go_ret
    exact ⟨rfl, hw_t14⟩
  · have qBa0 : w5.cell? ⟨w1.heap.size, 0, none⟩ = some (.int .i64 za) := by rw [Ba_t12.cell]; rfl
    have qBa1 : w5.cell? ⟨w1.heap.size, 1, none⟩ = some (.slice ada la.length ca) := by rw [Ba_t12.cell]; rfl
    go_wp2_with fail
    clear qBa0 qBa1
    refine (specVersOkO a_t12 hfa).mono ?_
    rintro e w6 ⟨rfl, hb6⟩
    rw [hc]
    have a_t14 := a_t12.next hb6
    clear a_t12
    have r_t14 := r_t12.next hb6
    clear r_t12
    have Ba_t14 := Ba_t12.next hb6
    clear Ba_t12
    have hw_t14 := below_next hw_t12 hb6
    have hs_t14 := hb6.size
    by_cases h1 : ta < 0
    · have hd1 : decide (ta < 0) = true := decide_eq_true h1
      have e : R1 = [] := HR1.out.symm.trans (versAt_no (.inr (.inl h1)))
      subst e
      have qBa0 : w6.cell? ⟨w1.heap.size, 0, none⟩ = some (.int .i64 za) := by rw [Ba_t14.cell]; rfl
      have qBa1 : w6.cell? ⟨w1.heap.size, 1, none⟩ = some (.slice ada la.length ca) := by rw [Ba_t14.cell]; rfl
      go_wp2
      go_ret
      exact ⟨rfl, hw_t14⟩
    · have hd1 : decide (ta < 0) = false := decide_eq_false h1
      by_cases h2 : za < ta
      · have hd2 : decide (za < ta) = true := decide_eq_true h2
        have e : R1 = [] := HR1.out.symm.trans (versAt_no (.inr (.inr h2)))
        subst e
        have qBa0 : w6.cell? ⟨w1.heap.size, 0, none⟩ = some (.int .i64 za) := by rw [Ba_t14.cell]; rfl
        have qBa1 : w6.cell? ⟨w1.heap.size, 1, none⟩ = some (.slice ada la.length ca) := by rw [Ba_t14.cell]; rfl
        go_wp2
        go_ret
        exact ⟨rfl, hw_t14⟩
      · have hd2 : decide (za < ta) = false := decide_eq_false h2
        have hP := versB_iff.1 hc
        have HAT : Hid (atL la ta = R1) := Lib.hid ((versAt_ok hc (by omega) (by omega)).symm.trans HR1.out)
        have HGET : Hid (∀ x ∈ la, visB ta x = true → getB R1 x.k = true ∧ getN R1 x.k = x.n) := Lib.hid fun x hx hv => by rw [← HAT.out]; exact get_at hP (by omega) (by omega) hx hv
        have HZ : Hid (ta = 0 → R1 = []) := Lib.hid fun h0 => by
          rw [← HAT.out]; unfold atL; rw [List.filter_eq_nil_iff.2]; rfl
          intro x hx
          have := verB_from (versP_mem hP hx)
          unfold visB; simp; omega
        clear hP
        have qBa0 : w6.cell? ⟨w1.heap.size, 0, none⟩ = some (.int .i64 za) := by rw [Ba_t14.cell]; rfl
        have qBa1 : w6.cell? ⟨w1.heap.size, 1, none⟩ = some (.slice ada la.length ca) := by rw [Ba_t14.cell]; rfl
        go_wp2
        clear qBa0 qBa1
        go_loopw [6, 7] (fun n i W => ∃ k : Nat, k ≤ la.length ∧ i = .int .i64 k ∧ n = .int .i64 ((atL (la.take k) ta).length : Int) ∧ Below w6.heap.size w6 W) (fun _ i _ => la.length - (intOf i).toNat)
        case atStart => exact ⟨0, Nat.zero_le _, rfl, by simp [atL], Below.refl _ _⟩
        case round =>
          obtain ⟨k, hk, rfl, rfl, hbl⟩ := hrel
          have lq0 := hbl
          have a_t16 := a_t14.next hbl
          clear a_t14
          have r_t16 := r_t14.next hbl
          clear r_t14
          have Ba_t16 := Ba_t14.next hbl
          clear Ba_t14
          have hw_t16 := below_next hw_t14 hbl
          have hs_t16 := hbl.size
          have hml := atL_length (la.take k) ta
          rw [List.length_take] at hml
          obtain ⟨m, HM⟩ : ∃ m : Nat, Hid ((atL (la.take k) ta).length = m) := ⟨_, Lib.hid rfl⟩
          rw [HM.out] at hml ⊢
          by_cases hlt : k < la.length
          · obtain ⟨ebE, eoE, rfl, hqE, _⟩ := (a_t16.rd'.2.2.2).atV hlt
            clear hqE
            have hkI := lenI _ _ hlt
            have rBa0 : wr.cell? ⟨w1.heap.size, 0, none⟩ = some (.int .i64 za) := by rw [Ba_t16.cell]; rfl
            have rBa1 : wr.cell? ⟨w1.heap.size, 1, none⟩ = some (.slice (some ⟨ebE, eoE, none⟩) la.length ca) := by rw [Ba_t16.cell]; rfl
            have rE0 : wr.cell? ⟨ebE, eoE + k * 4, none⟩ = some (.string la[k].k) := ((a_t16.rd'.2.2.2).fixV rfl hlt).1
            have rE1 : wr.cell? ⟨ebE, eoE + k * 4 + 1, none⟩ = some (.int .i64 la[k].n) := ((a_t16.rd'.2.2.2).fixV rfl hlt).2.1
            have rE2 : wr.cell? ⟨ebE, eoE + k * 4 + 2, none⟩ = some (.int .i64 la[k].f) := ((a_t16.rd'.2.2.2).fixV rfl hlt).2.2.1
            have rE3 : wr.cell? ⟨ebE, eoE + k * 4 + 3, none⟩ = some (.int .i64 la[k].t) := ((a_t16.rd'.2.2.2).fixV rfl hlt).2.2.2
            have hb_t18 := below_alloc (Below.refl _ wr) (.cells #[.string la[k].k, .int .i64 la[k].n, .int .i64 la[k].f, .int .i64 la[k].t] 68)
            have Bv_t18 := blkA wr #[.string la[k].k, .int .i64 la[k].n, .int .i64 la[k].f, .int .i64 la[k].t] 68
            have hz_t18 : (wr.alloc (.cells #[.string la[k].k, .int .i64 la[k].n, .int .i64 la[k].f, .int .i64 la[k].t] 68)).heap.size = wr.heap.size + 1 := World.size_alloc _ _
            have a_t19 := a_t16.next hb_t18
            clear a_t16
            have r_t19 := r_t16.next hb_t18
            clear r_t16
            have Ba_t19 := Ba_t16.next hb_t18
            clear Ba_t16
            have hw_t19 := below_next hw_t16 hb_t18
            have hs_t19 := hb_t18.size
            have lw0_t20 := below_next lq0 hb_t18
            cases hv : visB ta la[k]
            · have HE := Lib.hid (atL_no hlt hv)
              have hd3 : decide (la[k].f ≤ ta) = false ∨ (decide (la[k].f ≤ ta) = true ∧ (la[k].t == 0) = false ∧ decide (ta < la[k].t) = false) := by unfold visB at hv; simp at hv ⊢; omega
              clear hv
              rcases hd3 with hd3 | ⟨hd3, hd4, hd5⟩
              · have qBa0 : (wr.alloc (.cells #[.string la[k].k, .int .i64 la[k].n, .int .i64 la[k].f, .int .i64 la[k].t] 68)).cell? ⟨w1.heap.size, 0, none⟩ = some (.int .i64 za) := by rw [Ba_t19.cell]; rfl
                have qBa1 : (wr.alloc (.cells #[.string la[k].k, .int .i64 la[k].n, .int .i64 la[k].f, .int .i64 la[k].t] 68)).cell? ⟨w1.heap.size, 1, none⟩ = some (.slice (some ⟨ebE, eoE, none⟩) la.length ca) := by rw [Ba_t19.cell]; rfl
                have qBv0 : (wr.alloc (.cells #[.string la[k].k, .int .i64 la[k].n, .int .i64 la[k].f, .int .i64 la[k].t] 68)).cell? ⟨wr.heap.size, 0, none⟩ = some (.string la[k].k) := by rw [Bv_t18.cell]; rfl
                have qBv1 : (wr.alloc (.cells #[.string la[k].k, .int .i64 la[k].n, .int .i64 la[k].f, .int .i64 la[k].t] 68)).cell? ⟨wr.heap.size, 1, none⟩ = some (.int .i64 la[k].n) := by rw [Bv_t18.cell]; rfl
                have qBv2 : (wr.alloc (.cells #[.string la[k].k, .int .i64 la[k].n, .int .i64 la[k].f, .int .i64 la[k].t] 68)).cell? ⟨wr.heap.size, 2, none⟩ = some (.int .i64 la[k].f) := by rw [Bv_t18.cell]; rfl
                have qBv3 : (wr.alloc (.cells #[.string la[k].k, .int .i64 la[k].n, .int .i64 la[k].f, .int .i64 la[k].t] 68)).cell? ⟨wr.heap.size, 3, none⟩ = some (.int .i64 la[k].t) := by rw [Bv_t18.cell]; rfl
                have qE0 : (wr.alloc (.cells #[.string la[k].k, .int .i64 la[k].n, .int .i64 la[k].f, .int .i64 la[k].t] 68)).cell? ⟨ebE, eoE + k * 4, none⟩ = some (.string la[k].k) := ((a_t19.rd'.2.2.2).fixV rfl hlt).1
                have qE1 : (wr.alloc (.cells #[.string la[k].k, .int .i64 la[k].n, .int .i64 la[k].f, .int .i64 la[k].t] 68)).cell? ⟨ebE, eoE + k * 4 + 1, none⟩ = some (.int .i64 la[k].n) := ((a_t19.rd'.2.2.2).fixV rfl hlt).2.1
                have qE2 : (wr.alloc (.cells #[.string la[k].k, .int .i64 la[k].n, .int .i64 la[k].f, .int .i64 la[k].t] 68)).cell? ⟨ebE, eoE + k * 4 + 2, none⟩ = some (.int .i64 la[k].f) := ((a_t19.rd'.2.2.2).fixV rfl hlt).2.2.1
                have qE3 : (wr.alloc (.cells #[.string la[k].k, .int .i64 la[k].n, .int .i64 la[k].f, .int .i64 la[k].t] 68)).cell? ⟨ebE, eoE + k * 4 + 3, none⟩ = some (.int .i64 la[k].t) := ((a_t19.rd'.2.2.2).fixV rfl hlt).2.2.2
                go_wp2
                go_roundw
                case rel => exact ⟨k + 1, by omega, by go_num, by rw [HE.out, HM.out], lw0_t20⟩
                case measure => simp [intOf]; omega
              · have qBa0 : (wr.alloc (.cells #[.string la[k].k, .int .i64 la[k].n, .int .i64 la[k].f, .int .i64 la[k].t] 68)).cell? ⟨w1.heap.size, 0, none⟩ = some (.int .i64 za) := by rw [Ba_t19.cell]; rfl
                have qBa1 : (wr.alloc (.cells #[.string la[k].k, .int .i64 la[k].n, .int .i64 la[k].f, .int .i64 la[k].t] 68)).cell? ⟨w1.heap.size, 1, none⟩ = some (.slice (some ⟨ebE, eoE, none⟩) la.length ca) := by rw [Ba_t19.cell]; rfl
                have qBv0 : (wr.alloc (.cells #[.string la[k].k, .int .i64 la[k].n, .int .i64 la[k].f, .int .i64 la[k].t] 68)).cell? ⟨wr.heap.size, 0, none⟩ = some (.string la[k].k) := by rw [Bv_t18.cell]; rfl
                have qBv1 : (wr.alloc (.cells #[.string la[k].k, .int .i64 la[k].n, .int .i64 la[k].f, .int .i64 la[k].t] 68)).cell? ⟨wr.heap.size, 1, none⟩ = some (.int .i64 la[k].n) := by rw [Bv_t18.cell]; rfl
                have qBv2 : (wr.alloc (.cells #[.string la[k].k, .int .i64 la[k].n, .int .i64 la[k].f, .int .i64 la[k].t] 68)).cell? ⟨wr.heap.size, 2, none⟩ = some (.int .i64 la[k].f) := by rw [Bv_t18.cell]; rfl
                have qBv3 : (wr.alloc (.cells #[.string la[k].k, .int .i64 la[k].n, .int .i64 la[k].f, .int .i64 la[k].t] 68)).cell? ⟨wr.heap.size, 3, none⟩ = some (.int .i64 la[k].t) := by rw [Bv_t18.cell]; rfl
                have qE0 : (wr.alloc (.cells #[.string la[k].k, .int .i64 la[k].n, .int .i64 la[k].f, .int .i64 la[k].t] 68)).cell? ⟨ebE, eoE + k * 4, none⟩ = some (.string la[k].k) := ((a_t19.rd'.2.2.2).fixV rfl hlt).1
                have qE1 : (wr.alloc (.cells #[.string la[k].k, .int .i64 la[k].n, .int .i64 la[k].f, .int .i64 la[k].t] 68)).cell? ⟨ebE, eoE + k * 4 + 1, none⟩ = some (.int .i64 la[k].n) := ((a_t19.rd'.2.2.2).fixV rfl hlt).2.1
                have qE2 : (wr.alloc (.cells #[.string la[k].k, .int .i64 la[k].n, .int .i64 la[k].f, .int .i64 la[k].t] 68)).cell? ⟨ebE, eoE + k * 4 + 2, none⟩ = some (.int .i64 la[k].f) := ((a_t19.rd'.2.2.2).fixV rfl hlt).2.2.1
                have qE3 : (wr.alloc (.cells #[.string la[k].k, .int .i64 la[k].n, .int .i64 la[k].f, .int .i64 la[k].t] 68)).cell? ⟨ebE, eoE + k * 4 + 3, none⟩ = some (.int .i64 la[k].t) := ((a_t19.rd'.2.2.2).fixV rfl hlt).2.2.2
                go_wp2
                go_roundw
                case rel => exact ⟨k + 1, by omega, by go_num, by rw [HE.out, HM.out], lw0_t20⟩
                case measure => simp [intOf]; omega
            · have HE := Lib.hid (atL_yes hlt hv)
              have HG := Lib.hid (HGET.out la[k] (List.getElem_mem hlt) hv)
              have hd3 : decide (la[k].f ≤ ta) = true ∧ ((la[k].t == 0) = true ∨ ((la[k].t == 0) = false ∧ decide (ta < la[k].t) = true)) := by unfold visB at hv; simp at hv ⊢; omega
              clear hv
              obtain ⟨hd3, hd4⟩ := hd3
              have hwm : IntKind.i64.wrap ((m : Int) + 1) = (m : Int) + 1 := IntWalk.i64_in _ (by omega)
              rcases hd4 with hd4 | ⟨hd4, hd5⟩
              · have qBa0 : (wr.alloc (.cells #[.string la[k].k, .int .i64 la[k].n, .int .i64 la[k].f, .int .i64 la[k].t] 68)).cell? ⟨w1.heap.size, 0, none⟩ = some (.int .i64 za) := by rw [Ba_t19.cell]; rfl
                have qBa1 : (wr.alloc (.cells #[.string la[k].k, .int .i64 la[k].n, .int .i64 la[k].f, .int .i64 la[k].t] 68)).cell? ⟨w1.heap.size, 1, none⟩ = some (.slice (some ⟨ebE, eoE, none⟩) la.length ca) := by rw [Ba_t19.cell]; rfl
                have qBv0 : (wr.alloc (.cells #[.string la[k].k, .int .i64 la[k].n, .int .i64 la[k].f, .int .i64 la[k].t] 68)).cell? ⟨wr.heap.size, 0, none⟩ = some (.string la[k].k) := by rw [Bv_t18.cell]; rfl
                have qBv1 : (wr.alloc (.cells #[.string la[k].k, .int .i64 la[k].n, .int .i64 la[k].f, .int .i64 la[k].t] 68)).cell? ⟨wr.heap.size, 1, none⟩ = some (.int .i64 la[k].n) := by rw [Bv_t18.cell]; rfl
                have qBv2 : (wr.alloc (.cells #[.string la[k].k, .int .i64 la[k].n, .int .i64 la[k].f, .int .i64 la[k].t] 68)).cell? ⟨wr.heap.size, 2, none⟩ = some (.int .i64 la[k].f) := by rw [Bv_t18.cell]; rfl
                have qBv3 : (wr.alloc (.cells #[.string la[k].k, .int .i64 la[k].n, .int .i64 la[k].f, .int .i64 la[k].t] 68)).cell? ⟨wr.heap.size, 3, none⟩ = some (.int .i64 la[k].t) := by rw [Bv_t18.cell]; rfl
                have qE0 : (wr.alloc (.cells #[.string la[k].k, .int .i64 la[k].n, .int .i64 la[k].f, .int .i64 la[k].t] 68)).cell? ⟨ebE, eoE + k * 4, none⟩ = some (.string la[k].k) := ((a_t19.rd'.2.2.2).fixV rfl hlt).1
                have qE1 : (wr.alloc (.cells #[.string la[k].k, .int .i64 la[k].n, .int .i64 la[k].f, .int .i64 la[k].t] 68)).cell? ⟨ebE, eoE + k * 4 + 1, none⟩ = some (.int .i64 la[k].n) := ((a_t19.rd'.2.2.2).fixV rfl hlt).2.1
                have qE2 : (wr.alloc (.cells #[.string la[k].k, .int .i64 la[k].n, .int .i64 la[k].f, .int .i64 la[k].t] 68)).cell? ⟨ebE, eoE + k * 4 + 2, none⟩ = some (.int .i64 la[k].f) := ((a_t19.rd'.2.2.2).fixV rfl hlt).2.2.1
                have qE3 : (wr.alloc (.cells #[.string la[k].k, .int .i64 la[k].n, .int .i64 la[k].f, .int .i64 la[k].t] 68)).cell? ⟨ebE, eoE + k * 4 + 3, none⟩ = some (.int .i64 la[k].t) := ((a_t19.rd'.2.2.2).fixV rfl hlt).2.2.2
                go_wp2_with fail
                clear qBa0 qBa1 qBv0 qBv1 qBv2 qBv3
                clear qE0 qE1 qE2 qE3
                refine (implGetO la[k].k r_t19 hfr (by omega)).mono ?_
                rintro e w7 ⟨rfl, hb7⟩
                rw [HG.out.1, HG.out.2]
                have a_t21 := a_t19.next hb7
                clear a_t19
                have r_t21 := r_t19.next hb7
                clear r_t19
                have Ba_t21 := Ba_t19.next hb7
                clear Ba_t19
                have Bv_t21 := Bv_t18.next hb7
                clear Bv_t18
                have hw_t21 := below_next hw_t19 hb7
                have hs_t21 := hb7.size
                have lw0_t22 := below_next lw0_t20 hb7
                have qBa0 : w7.cell? ⟨w1.heap.size, 0, none⟩ = some (.int .i64 za) := by rw [Ba_t21.cell]; rfl
                have qBa1 : w7.cell? ⟨w1.heap.size, 1, none⟩ = some (.slice (some ⟨ebE, eoE, none⟩) la.length ca) := by rw [Ba_t21.cell]; rfl
                have qBv0 : w7.cell? ⟨wr.heap.size, 0, none⟩ = some (.string la[k].k) := by rw [Bv_t21.cell]; rfl
                have qBv1 : w7.cell? ⟨wr.heap.size, 1, none⟩ = some (.int .i64 la[k].n) := by rw [Bv_t21.cell]; rfl
                have qBv2 : w7.cell? ⟨wr.heap.size, 2, none⟩ = some (.int .i64 la[k].f) := by rw [Bv_t21.cell]; rfl
                have qBv3 : w7.cell? ⟨wr.heap.size, 3, none⟩ = some (.int .i64 la[k].t) := by rw [Bv_t21.cell]; rfl
                have qE0 : w7.cell? ⟨ebE, eoE + k * 4, none⟩ = some (.string la[k].k) := ((a_t21.rd'.2.2.2).fixV rfl hlt).1
                have qE1 : w7.cell? ⟨ebE, eoE + k * 4 + 1, none⟩ = some (.int .i64 la[k].n) := ((a_t21.rd'.2.2.2).fixV rfl hlt).2.1
                have qE2 : w7.cell? ⟨ebE, eoE + k * 4 + 2, none⟩ = some (.int .i64 la[k].f) := ((a_t21.rd'.2.2.2).fixV rfl hlt).2.2.1
                have qE3 : w7.cell? ⟨ebE, eoE + k * 4 + 3, none⟩ = some (.int .i64 la[k].t) := ((a_t21.rd'.2.2.2).fixV rfl hlt).2.2.2
                go_wp2
                go_roundw
                case rel => exact ⟨k + 1, by omega, by go_num, by rw [HE.out, List.length_append, HM.out]; simp, lw0_t22⟩
                case measure => simp [intOf]; omega
              · have qBa0 : (wr.alloc (.cells #[.string la[k].k, .int .i64 la[k].n, .int .i64 la[k].f, .int .i64 la[k].t] 68)).cell? ⟨w1.heap.size, 0, none⟩ = some (.int .i64 za) := by rw [Ba_t19.cell]; rfl
                have qBa1 : (wr.alloc (.cells #[.string la[k].k, .int .i64 la[k].n, .int .i64 la[k].f, .int .i64 la[k].t] 68)).cell? ⟨w1.heap.size, 1, none⟩ = some (.slice (some ⟨ebE, eoE, none⟩) la.length ca) := by rw [Ba_t19.cell]; rfl
                have qBv0 : (wr.alloc (.cells #[.string la[k].k, .int .i64 la[k].n, .int .i64 la[k].f, .int .i64 la[k].t] 68)).cell? ⟨wr.heap.size, 0, none⟩ = some (.string la[k].k) := by rw [Bv_t18.cell]; rfl
                have qBv1 : (wr.alloc (.cells #[.string la[k].k, .int .i64 la[k].n, .int .i64 la[k].f, .int .i64 la[k].t] 68)).cell? ⟨wr.heap.size, 1, none⟩ = some (.int .i64 la[k].n) := by rw [Bv_t18.cell]; rfl
                have qBv2 : (wr.alloc (.cells #[.string la[k].k, .int .i64 la[k].n, .int .i64 la[k].f, .int .i64 la[k].t] 68)).cell? ⟨wr.heap.size, 2, none⟩ = some (.int .i64 la[k].f) := by rw [Bv_t18.cell]; rfl
                have qBv3 : (wr.alloc (.cells #[.string la[k].k, .int .i64 la[k].n, .int .i64 la[k].f, .int .i64 la[k].t] 68)).cell? ⟨wr.heap.size, 3, none⟩ = some (.int .i64 la[k].t) := by rw [Bv_t18.cell]; rfl
                have qE0 : (wr.alloc (.cells #[.string la[k].k, .int .i64 la[k].n, .int .i64 la[k].f, .int .i64 la[k].t] 68)).cell? ⟨ebE, eoE + k * 4, none⟩ = some (.string la[k].k) := ((a_t19.rd'.2.2.2).fixV rfl hlt).1
                have qE1 : (wr.alloc (.cells #[.string la[k].k, .int .i64 la[k].n, .int .i64 la[k].f, .int .i64 la[k].t] 68)).cell? ⟨ebE, eoE + k * 4 + 1, none⟩ = some (.int .i64 la[k].n) := ((a_t19.rd'.2.2.2).fixV rfl hlt).2.1
                have qE2 : (wr.alloc (.cells #[.string la[k].k, .int .i64 la[k].n, .int .i64 la[k].f, .int .i64 la[k].t] 68)).cell? ⟨ebE, eoE + k * 4 + 2, none⟩ = some (.int .i64 la[k].f) := ((a_t19.rd'.2.2.2).fixV rfl hlt).2.2.1
                have qE3 : (wr.alloc (.cells #[.string la[k].k, .int .i64 la[k].n, .int .i64 la[k].f, .int .i64 la[k].t] 68)).cell? ⟨ebE, eoE + k * 4 + 3, none⟩ = some (.int .i64 la[k].t) := ((a_t19.rd'.2.2.2).fixV rfl hlt).2.2.2
                go_wp2_with fail
                clear qBa0 qBa1 qBv0 qBv1 qBv2 qBv3
                clear qE0 qE1 qE2 qE3
                refine (implGetO la[k].k r_t19 hfr (by omega)).mono ?_
                rintro e w7 ⟨rfl, hb7⟩
                rw [HG.out.1, HG.out.2]
                have a_t21 := a_t19.next hb7
                clear a_t19
                have r_t21 := r_t19.next hb7
                clear r_t19
                have Ba_t21 := Ba_t19.next hb7
                clear Ba_t19
                have Bv_t21 := Bv_t18.next hb7
                clear Bv_t18
                have hw_t21 := below_next hw_t19 hb7
                have hs_t21 := hb7.size
                have lw0_t22 := below_next lw0_t20 hb7
                have qBa0 : w7.cell? ⟨w1.heap.size, 0, none⟩ = some (.int .i64 za) := by rw [Ba_t21.cell]; rfl
                have qBa1 : w7.cell? ⟨w1.heap.size, 1, none⟩ = some (.slice (some ⟨ebE, eoE, none⟩) la.length ca) := by rw [Ba_t21.cell]; rfl
                have qBv0 : w7.cell? ⟨wr.heap.size, 0, none⟩ = some (.string la[k].k) := by rw [Bv_t21.cell]; rfl
                have qBv1 : w7.cell? ⟨wr.heap.size, 1, none⟩ = some (.int .i64 la[k].n) := by rw [Bv_t21.cell]; rfl
                have qBv2 : w7.cell? ⟨wr.heap.size, 2, none⟩ = some (.int .i64 la[k].f) := by rw [Bv_t21.cell]; rfl
                have qBv3 : w7.cell? ⟨wr.heap.size, 3, none⟩ = some (.int .i64 la[k].t) := by rw [Bv_t21.cell]; rfl
                have qE0 : w7.cell? ⟨ebE, eoE + k * 4, none⟩ = some (.string la[k].k) := ((a_t21.rd'.2.2.2).fixV rfl hlt).1
                have qE1 : w7.cell? ⟨ebE, eoE + k * 4 + 1, none⟩ = some (.int .i64 la[k].n) := ((a_t21.rd'.2.2.2).fixV rfl hlt).2.1
                have qE2 : w7.cell? ⟨ebE, eoE + k * 4 + 2, none⟩ = some (.int .i64 la[k].f) := ((a_t21.rd'.2.2.2).fixV rfl hlt).2.2.1
                have qE3 : w7.cell? ⟨ebE, eoE + k * 4 + 3, none⟩ = some (.int .i64 la[k].t) := ((a_t21.rd'.2.2.2).fixV rfl hlt).2.2.2
                go_wp2
                go_roundw
                case rel => exact ⟨k + 1, by omega, by go_num, by rw [HE.out, List.length_append, HM.out]; simp, lw0_t22⟩
                case measure => simp [intOf]; omega
          · have hkI : decide ((k : Int) < (la.length : Int)) = false := decide_eq_false (by omega)
            have em : m = R1.length := by have h := HM.out; rw [show k = la.length from by omega, List.take_length, HAT.out] at h; exact h.symm
            subst em
            by_cases h3 : 0 < ta
            · have hd3 : decide (0 < ta) = true := decide_eq_true h3
              have qBa0 : wr.cell? ⟨w1.heap.size, 0, none⟩ = some (.int .i64 za) := by rw [Ba_t16.cell]; rfl
              have qBa1 : wr.cell? ⟨w1.heap.size, 1, none⟩ = some (.slice ada la.length ca) := by rw [Ba_t16.cell]; rfl
              go_wp2
              go_ret
              exact ⟨rfl, hw_t16⟩
            · have hd3 : decide (0 < ta) = false := decide_eq_false h3
              have e := HZ.out (by omega)
              subst e
              have qBa0 : wr.cell? ⟨w1.heap.size, 0, none⟩ = some (.int .i64 za) := by rw [Ba_t16.cell]; rfl
              have qBa1 : wr.cell? ⟨w1.heap.size, 1, none⟩ = some (.slice ada la.length ca) := by rw [Ba_t16.cell]; rfl
              go_wp2
              go_ret
              exact ⟨rfl, hw_t16⟩

set_option maxRecDepth 100000 in
theorem lifted (os : Os) (started : os.Started) (H : Type) (enc : TypeId × Value → H) :
    ReturnsInHanded {} Try.checked os 14 .any (Rows.fnVersAtSpec.pre6 enc Try.prog Try.f14 Rows.fnVersAtRow.domain false) (Rows.fnVersAtSpec.post enc Try.prog Try.f14 false true false false) := by
  refine returnsInHanded_of_change (C := Try.checked) Whole.own started (by kernel_rfl) Try.func14
    (ChangeSpec.witness6 (enc := enc) (C := Try.checked) false ⟨#[], #[.slice none 0 0], []⟩ 8 (by kernel_rfl) (by kernel_rfl) (by kernel_rfl) (by kernel_rfl)) ?_
  intro W base args ds gs before hval0 hW hcnd _
  have hval : ∀ (j : Nat) t v, Try.f14.params[j]? = some t → args[j]? = some v → Value.okWide Try.prog W .any base t v := hval0
  have hW' := hW
  obtain ⟨p, q, hA0, hV, rfl, hfz, hnd⟩ := hW
  have hA : DataW.TrodAll enc Try.prog W 0 (fun _ => true) true Try.f14.params.toList args.toList ds p := hA0
  rw [Try.params14] at hA hval
  obtain ⟨v0, vs0, d0, ds0, p0, q0, hargs, rfl, rfl, h0, r0⟩ := trodAll_cons hA
  obtain ⟨rfl, rfl, rfl⟩ := trodAll_nil r0
  obtain rfl : args = #[v0] := by cases args; simp_all
  obtain ⟨rfl, rfl⟩ := trodVars_none hV
  have k0 := h0
  have lt0 : ∀ x ∈ p0, x.block < W.heap.size := by obtain ⟨m, hm⟩ := k0; exact DataW.trod_lt m _ _ _ hm
  obtain ⟨A0, n0, c0, rfl, hc0, hm0, hr0⟩ := openBytes (hval 0 54 v0 rfl rfl) h0
  clear hA0 hval0
  refine (walk A0 n0 c0 W hc0 hm0 hr0).mono fun e W' ⟨he, bel⟩ => ?_
  subst he
  exact ⟨_, rfl, _, _, _, [], _, [], hW', trodAll_mk1 (shut_bool Try.underlying4 _), (trodAll_cons_mk (Below.trod Whole.laidOut (by kernel_rfl) (of_decide_eq_true (by kernel_rfl)) k0 bel lt0) trodAll_mk0), rfl, bel.frame _, fun h => by cases h⟩

theorem named : Try.prog.funcNamed Rows.fnVersAtRow.func = some 14 := by kernel_rfl
theorem closed : Whole.lawFacts Try.prog 14 Try.f14 Rows.fnVersAtSpec Rows.fnVersAtRow = true := by kernel_rfl
theorem inst : Try.f14.isInstance Try.prog Rows.fnVersAtRow.origin Rows.fnVersAtRow.targs := of_decide_eq_true (by kernel_rfl)
theorem wrap : Try.f14.isWrapper Try.prog Rows.fnVersAtRow.wrapper Rows.fnVersAtRow.mainSum := by
  unfold Func.isWrapper; first | (rw [if_pos (by decide +kernel)]; kernel_rfl) | (rw [if_neg (by decide +kernel)]; exact ⟨rfl, rfl⟩)
theorem over : Rows.fnVersAtRow.holds Try.pinned (OpenSpec.ofChange Rows.fnVersAtSpec) :=
  OpenClaim.holds_of_wide 14 Try.f14 rfl rfl rfl rfl rfl rfl rfl ⟨rfl, rfl, rfl, rfl, rfl⟩ rfl rfl rfl rfl rfl named Try.func14 (Whole.facts_of closed)
    inst wrap (fun os started H enc _ => lifted os started H enc)

theorem proved : Rows.FnVersAtSaid := over
#print axioms proved
end Go.Proofs.Ytbhdgalkedegjaa.fnVersAt
