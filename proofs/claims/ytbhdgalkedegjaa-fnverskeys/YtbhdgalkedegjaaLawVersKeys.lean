/- The law FnVersKeys: for every code that is drawn from, of a key two never stand at one time, and what stands longest is what was done last, as in the model: for every input the call returns true, and the argument reads afterwards as before. No conditions. -/
import Derived.Test.YtbhdgalkedegjaaRows
import Derived.Test.YtbhdgalkedegjaaWhole
import Derived.Test.YtbhdgalkedegjaaA1
import Derived.Test.YtbhdgalkedegjaaDv5
import Derived.Test.YtbhdgalkedegjaaM2d
import Derived.Test.YtbhdgalkedegjaaS2s
import Derived.Test.YtbhdgalkedegjaaA4
import Derived.WalkKit
import Derived.ProofKit
import Derived.OpenShut
import Derived.ShutString
import Derived.ChangeOld
import Derived.Below
namespace Go.Proofs.Ytbhdgalkedegjaa.fnVersKeys
open Go.ChangeShapes Go.WideShapes Go.ChangeAt Go.RowKit
open Go.ChangeMaps (open_string shut_string)
set_option linter.unusedVariables false

set_option maxRecDepth 100000 in
set_option maxHeartbeats 1000000 in
theorem walk (A0 : Option Addr) (n0 c0 : Nat) (w : World) (hc0 : n0 ≤ c0) (hm0 : c0 ≤ maxLen) (hr0 : RdB w w.heap.size A0 n0) :
    Calls Try.prog 19 #[.slice A0 n0 c0] w fun e w' => e = .returned (.bool true) ∧ Below w.heap.size w w' := by
  by_cases hn_n0 : (1048576 : Int) < (n0 : Int)
  · go_enter Try.func19, Try.ntmps19
    go_wp2
    go_ret
    exact ⟨rfl, Below.refl _ _⟩
  go_enter Try.func19, Try.ntmps19
  go_wp2_with fail
  refine (drawVersOk A0 n0 c0 w hc0 hm0 hr0).mono ?_
  rintro e w1 ⟨za, Va, la, rfl, a_n, hfa, hza, hla, hb1⟩
  obtain ⟨ada, ca, rfl, ry1_a, ry2_a, ry3_a⟩ := a_n.read
  clear ry1_a ry2_a ry3_a
  have hw_t1 := hb1
  have hs_t1 := hb1.size
  have hb_t3 := below_alloc (Below.refl _ w1) (.cells #[.int .i64 za, .slice ada la.length ca] 29)
  have Ba_t3 := blkA w1 #[.int .i64 za, .slice ada la.length ca] 29
  have hz_t3 : (w1.alloc (.cells #[.int .i64 za, .slice ada la.length ca] 29)).heap.size = w1.heap.size + 1 := World.size_alloc _ _
  have a_t4 := a_n.next hb_t3
  clear a_n
  have hw_t4 := below_next hw_t1 hb_t3
  have hs_t4 := hb_t3.size
  cases hc : versB za la
  · have qBa0 : (w1.alloc (.cells #[.int .i64 za, .slice ada la.length ca] 29)).cell? ⟨w1.heap.size, 0, none⟩ = some (.int .i64 za) := by rw [Ba_t3.cell]; rfl
    have qBa1 : (w1.alloc (.cells #[.int .i64 za, .slice ada la.length ca] 29)).cell? ⟨w1.heap.size, 1, none⟩ = some (.slice ada la.length ca) := by rw [Ba_t3.cell]; rfl
    go_wp2_with fail
    clear qBa0 qBa1
    refine (implVersOkO a_t4 hfa).mono ?_
    rintro e w2 ⟨rfl, hb2⟩
    rw [hc]
    have a_t6 := a_t4.next hb2
    clear a_t4
    have Ba_t6 := Ba_t3.next hb2
    clear Ba_t3
    have hw_t6 := below_next hw_t4 hb2
    have hs_t6 := hb2.size
    have qBa0 : w2.cell? ⟨w1.heap.size, 0, none⟩ = some (.int .i64 za) := by rw [Ba_t6.cell]; rfl
    have qBa1 : w2.cell? ⟨w1.heap.size, 1, none⟩ = some (.slice ada la.length ca) := by rw [Ba_t6.cell]; rfl
    go_wp2_with fail
    clear qBa0 qBa1
    refine (specVersOkO a_t6 hfa).mono ?_
    rintro e w3 ⟨rfl, hb3⟩
    rw [hc]
    have a_t8 := a_t6.next hb3
    clear a_t6
    have Ba_t8 := Ba_t6.next hb3
    clear Ba_t6
    have hw_t8 := below_next hw_t6 hb3
    have hs_t8 := hb3.size
    have qBa0 : w3.cell? ⟨w1.heap.size, 0, none⟩ = some (.int .i64 za) := by rw [Ba_t8.cell]; rfl
    have qBa1 : w3.cell? ⟨w1.heap.size, 1, none⟩ = some (.slice ada la.length ca) := by rw [Ba_t8.cell]; rfl
    go_wp2_with fail
    clear qBa0 qBa1
    refine (specVersOkO a_t8 hfa).mono ?_
    rintro e w4 ⟨rfl, hb4⟩
    rw [hc]
    have a_t10 := a_t8.next hb4
    clear a_t8
    have Ba_t10 := Ba_t8.next hb4
    clear Ba_t8
    have hw_t10 := below_next hw_t8 hb4
    have hs_t10 := hb4.size
    have qBa0 : w4.cell? ⟨w1.heap.size, 0, none⟩ = some (.int .i64 za) := by rw [Ba_t10.cell]; rfl
    have qBa1 : w4.cell? ⟨w1.heap.size, 1, none⟩ = some (.slice ada la.length ca) := by rw [Ba_t10.cell]; rfl
    go_wp2
    go_ret
    exact ⟨rfl, hw_t10⟩
  · have qBa0 : (w1.alloc (.cells #[.int .i64 za, .slice ada la.length ca] 29)).cell? ⟨w1.heap.size, 0, none⟩ = some (.int .i64 za) := by rw [Ba_t3.cell]; rfl
    have qBa1 : (w1.alloc (.cells #[.int .i64 za, .slice ada la.length ca] 29)).cell? ⟨w1.heap.size, 1, none⟩ = some (.slice ada la.length ca) := by rw [Ba_t3.cell]; rfl
    go_wp2_with fail
    clear qBa0 qBa1
    refine (implVersOkO a_t4 hfa).mono ?_
    rintro e w2 ⟨rfl, hb2⟩
    rw [hc]
    have a_t6 := a_t4.next hb2
    clear a_t4
    have Ba_t6 := Ba_t3.next hb2
    clear Ba_t3
    have hw_t6 := below_next hw_t4 hb2
    have hs_t6 := hb2.size
    have qBa0 : w2.cell? ⟨w1.heap.size, 0, none⟩ = some (.int .i64 za) := by rw [Ba_t6.cell]; rfl
    have qBa1 : w2.cell? ⟨w1.heap.size, 1, none⟩ = some (.slice ada la.length ca) := by rw [Ba_t6.cell]; rfl
    go_wp2_with fail
    clear qBa0 qBa1
    refine (specVersOkO a_t6 hfa).mono ?_
    rintro e w3 ⟨rfl, hb3⟩
    rw [hc]
    have a_t8 := a_t6.next hb3
    clear a_t6
    have Ba_t8 := Ba_t6.next hb3
    clear Ba_t6
    have hw_t8 := below_next hw_t6 hb3
    have hs_t8 := hb3.size
    have hP := versB_iff.1 hc
    have HORD : Hid (Ord2 la) := Lib.hid hP.ord2
    have HOP : Hid (VersP za la) := Lib.hid hP
    clear hP
    have hal := versAt_length za la za
    have hfr := fitR_versAt (z := za) hfa za
    obtain ⟨R1, HR1⟩ : ∃ R1, Hid (versAt za la za = R1) := ⟨_, Lib.hid rfl⟩
    rw [HR1.out] at hal hfr
    have qBa0 : w3.cell? ⟨w1.heap.size, 0, none⟩ = some (.int .i64 za) := by rw [Ba_t8.cell]; rfl
    have qBa1 : w3.cell? ⟨w1.heap.size, 1, none⟩ = some (.slice ada la.length ca) := by rw [Ba_t8.cell]; rfl
    go_wp2
    clear qBa0 qBa1
    go_loopw [5] (fun i W => ∃ k : Nat, k ≤ la.length ∧ i = .int .i64 k ∧ Below w3.heap.size w3 W) (fun i _ => la.length - (intOf i).toNat)
    case atStart => exact ⟨0, Nat.zero_le _, rfl, Below.refl _ _⟩
    case round =>
      obtain ⟨k, hk, rfl, hbl⟩ := hrel
      have lq0 := hbl
      have a_t10 := a_t8.next hbl
      clear a_t8
      have Ba_t10 := Ba_t8.next hbl
      clear Ba_t8
      have hw_t10 := below_next hw_t8 hbl
      have hs_t10 := hbl.size
      by_cases hlt : k < la.length
      · obtain ⟨ebE, eoE, rfl, hqE, _⟩ := (a_t10.rd'.2.2.2).atV hlt
        clear hqE
        have hkI := lenI _ _ hlt
        have qBa0 : wr.cell? ⟨w1.heap.size, 0, none⟩ = some (.int .i64 za) := by rw [Ba_t10.cell]; rfl
        have qBa1 : wr.cell? ⟨w1.heap.size, 1, none⟩ = some (.slice (some ⟨ebE, eoE, none⟩) la.length ca) := by rw [Ba_t10.cell]; rfl
        have qE0 : wr.cell? ⟨ebE, eoE + k * 4, none⟩ = some (.string la[k].k) := ((a_t10.rd'.2.2.2).fixV rfl hlt).1
        have qE1 : wr.cell? ⟨ebE, eoE + k * 4 + 1, none⟩ = some (.int .i64 la[k].n) := ((a_t10.rd'.2.2.2).fixV rfl hlt).2.1
        have qE2 : wr.cell? ⟨ebE, eoE + k * 4 + 2, none⟩ = some (.int .i64 la[k].f) := ((a_t10.rd'.2.2.2).fixV rfl hlt).2.2.1
        have qE3 : wr.cell? ⟨ebE, eoE + k * 4 + 3, none⟩ = some (.int .i64 la[k].t) := ((a_t10.rd'.2.2.2).fixV rfl hlt).2.2.2
        go_wp2
        clear qBa0 qBa1
        clear qE0 qE1 qE2 qE3
        go_loopw [6] (fun i W => ∃ j : Nat, j ≤ k ∧ i = .int .i64 j ∧ Below wr.heap.size wr W) (fun i _ => k - (intOf i).toNat)
        case atStart => exact ⟨0, Nat.zero_le _, rfl, Below.refl _ _⟩
        case round =>
          obtain ⟨j, hj, rfl, hbm⟩ := hrel
          have lq1 := hbm
          have a_t12 := a_t10.next hbm
          clear a_t10
          have Ba_t12 := Ba_t10.next hbm
          clear Ba_t10
          have hw_t12 := below_next hw_t10 hbm
          have hs_t12 := hbm.size
          have lw0_t13 := below_next lq0 hbm
          by_cases hjt : j < k
          · have hjl : j < la.length := by omega
            have hjI := lenI _ _ hjt
            have hjI2 := lenI _ _ hjl
            have rBa0 : wr.cell? ⟨w1.heap.size, 0, none⟩ = some (.int .i64 za) := by rw [Ba_t12.cell]; rfl
            have rBa1 : wr.cell? ⟨w1.heap.size, 1, none⟩ = some (.slice (some ⟨ebE, eoE, none⟩) la.length ca) := by rw [Ba_t12.cell]; rfl
            have rE0 : wr.cell? ⟨ebE, eoE + k * 4, none⟩ = some (.string la[k].k) := ((a_t12.rd'.2.2.2).fixV rfl hlt).1
            have rE1 : wr.cell? ⟨ebE, eoE + k * 4 + 1, none⟩ = some (.int .i64 la[k].n) := ((a_t12.rd'.2.2.2).fixV rfl hlt).2.1
            have rE2 : wr.cell? ⟨ebE, eoE + k * 4 + 2, none⟩ = some (.int .i64 la[k].f) := ((a_t12.rd'.2.2.2).fixV rfl hlt).2.2.1
            have rE3 : wr.cell? ⟨ebE, eoE + k * 4 + 3, none⟩ = some (.int .i64 la[k].t) := ((a_t12.rd'.2.2.2).fixV rfl hlt).2.2.2
            have rF0 : wr.cell? ⟨ebE, eoE + j * 4, none⟩ = some (.string la[j].k) := ((a_t12.rd'.2.2.2).fixV rfl hjl).1
            have rF1 : wr.cell? ⟨ebE, eoE + j * 4 + 1, none⟩ = some (.int .i64 la[j].n) := ((a_t12.rd'.2.2.2).fixV rfl hjl).2.1
            have rF2 : wr.cell? ⟨ebE, eoE + j * 4 + 2, none⟩ = some (.int .i64 la[j].f) := ((a_t12.rd'.2.2.2).fixV rfl hjl).2.2.1
            have rF3 : wr.cell? ⟨ebE, eoE + j * 4 + 3, none⟩ = some (.int .i64 la[j].t) := ((a_t12.rd'.2.2.2).fixV rfl hjl).2.2.2
            have hb_t14 := below_alloc (Below.refl _ wr) (.cells #[.string la[j].k, .int .i64 la[j].n, .int .i64 la[j].f, .int .i64 la[j].t] 68)
            have Bf_t14 := blkA wr #[.string la[j].k, .int .i64 la[j].n, .int .i64 la[j].f, .int .i64 la[j].t] 68
            have hz_t14 : (wr.alloc (.cells #[.string la[j].k, .int .i64 la[j].n, .int .i64 la[j].f, .int .i64 la[j].t] 68)).heap.size = wr.heap.size + 1 := World.size_alloc _ _
            have a_t15 := a_t12.next hb_t14
            clear a_t12
            have Ba_t15 := Ba_t12.next hb_t14
            clear Ba_t12
            have hw_t15 := below_next hw_t12 hb_t14
            have hs_t15 := hb_t14.size
            have lw0_t16 := below_next lw0_t13 hb_t14
            have lw1_t16 := below_next lq1 hb_t14
            have sE0 : (wr.alloc (.cells #[.string la[j].k, .int .i64 la[j].n, .int .i64 la[j].f, .int .i64 la[j].t] 68)).cell? ⟨ebE, eoE + k * 4, none⟩ = some (.string la[k].k) := ((a_t15.rd'.2.2.2).fixV rfl hlt).1
            have sE1 : (wr.alloc (.cells #[.string la[j].k, .int .i64 la[j].n, .int .i64 la[j].f, .int .i64 la[j].t] 68)).cell? ⟨ebE, eoE + k * 4 + 1, none⟩ = some (.int .i64 la[k].n) := ((a_t15.rd'.2.2.2).fixV rfl hlt).2.1
            have sE2 : (wr.alloc (.cells #[.string la[j].k, .int .i64 la[j].n, .int .i64 la[j].f, .int .i64 la[j].t] 68)).cell? ⟨ebE, eoE + k * 4 + 2, none⟩ = some (.int .i64 la[k].f) := ((a_t15.rd'.2.2.2).fixV rfl hlt).2.2.1
            have sE3 : (wr.alloc (.cells #[.string la[j].k, .int .i64 la[j].n, .int .i64 la[j].f, .int .i64 la[j].t] 68)).cell? ⟨ebE, eoE + k * 4 + 3, none⟩ = some (.int .i64 la[k].t) := ((a_t15.rd'.2.2.2).fixV rfl hlt).2.2.2
            have sF0 : (wr.alloc (.cells #[.string la[j].k, .int .i64 la[j].n, .int .i64 la[j].f, .int .i64 la[j].t] 68)).cell? ⟨ebE, eoE + j * 4, none⟩ = some (.string la[j].k) := ((a_t15.rd'.2.2.2).fixV rfl hjl).1
            have sF1 : (wr.alloc (.cells #[.string la[j].k, .int .i64 la[j].n, .int .i64 la[j].f, .int .i64 la[j].t] 68)).cell? ⟨ebE, eoE + j * 4 + 1, none⟩ = some (.int .i64 la[j].n) := ((a_t15.rd'.2.2.2).fixV rfl hjl).2.1
            have sF2 : (wr.alloc (.cells #[.string la[j].k, .int .i64 la[j].n, .int .i64 la[j].f, .int .i64 la[j].t] 68)).cell? ⟨ebE, eoE + j * 4 + 2, none⟩ = some (.int .i64 la[j].f) := ((a_t15.rd'.2.2.2).fixV rfl hjl).2.2.1
            have sF3 : (wr.alloc (.cells #[.string la[j].k, .int .i64 la[j].n, .int .i64 la[j].f, .int .i64 la[j].t] 68)).cell? ⟨ebE, eoE + j * 4 + 3, none⟩ = some (.int .i64 la[j].t) := ((a_t15.rd'.2.2.2).fixV rfl hjl).2.2.2
            have sBa0 : (wr.alloc (.cells #[.string la[j].k, .int .i64 la[j].n, .int .i64 la[j].f, .int .i64 la[j].t] 68)).cell? ⟨w1.heap.size, 0, none⟩ = some (.int .i64 za) := by rw [Ba_t15.cell]; rfl
            have sBa1 : (wr.alloc (.cells #[.string la[j].k, .int .i64 la[j].n, .int .i64 la[j].f, .int .i64 la[j].t] 68)).cell? ⟨w1.heap.size, 1, none⟩ = some (.slice (some ⟨ebE, eoE, none⟩) la.length ca) := by rw [Ba_t15.cell]; rfl
            have sBf0 : (wr.alloc (.cells #[.string la[j].k, .int .i64 la[j].n, .int .i64 la[j].f, .int .i64 la[j].t] 68)).cell? ⟨wr.heap.size, 0, none⟩ = some (.string la[j].k) := by rw [Bf_t14.cell]; rfl
            have sBf1 : (wr.alloc (.cells #[.string la[j].k, .int .i64 la[j].n, .int .i64 la[j].f, .int .i64 la[j].t] 68)).cell? ⟨wr.heap.size, 1, none⟩ = some (.int .i64 la[j].n) := by rw [Bf_t14.cell]; rfl
            have sBf2 : (wr.alloc (.cells #[.string la[j].k, .int .i64 la[j].n, .int .i64 la[j].f, .int .i64 la[j].t] 68)).cell? ⟨wr.heap.size, 2, none⟩ = some (.int .i64 la[j].f) := by rw [Bf_t14.cell]; rfl
            have sBf3 : (wr.alloc (.cells #[.string la[j].k, .int .i64 la[j].n, .int .i64 la[j].f, .int .i64 la[j].t] 68)).cell? ⟨wr.heap.size, 3, none⟩ = some (.int .i64 la[j].t) := by rw [Bf_t14.cell]; rfl
            have hb_t17 := below_alloc (Below.refl _ (wr.alloc (.cells #[.string la[j].k, .int .i64 la[j].n, .int .i64 la[j].f, .int .i64 la[j].t] 68))) (.cells #[.string la[k].k, .int .i64 la[k].n, .int .i64 la[k].f, .int .i64 la[k].t] 68)
            have Be_t17 := blkA (wr.alloc (.cells #[.string la[j].k, .int .i64 la[j].n, .int .i64 la[j].f, .int .i64 la[j].t] 68)) #[.string la[k].k, .int .i64 la[k].n, .int .i64 la[k].f, .int .i64 la[k].t] 68
            simp only [World.size_alloc] at Be_t17
            have hz_t17 : ((wr.alloc (.cells #[.string la[j].k, .int .i64 la[j].n, .int .i64 la[j].f, .int .i64 la[j].t] 68)).alloc (.cells #[.string la[k].k, .int .i64 la[k].n, .int .i64 la[k].f, .int .i64 la[k].t] 68)).heap.size = (wr.alloc (.cells #[.string la[j].k, .int .i64 la[j].n, .int .i64 la[j].f, .int .i64 la[j].t] 68)).heap.size + 1 := World.size_alloc _ _
            have a_t18 := a_t15.next hb_t17
            clear a_t15
            have Ba_t18 := Ba_t15.next hb_t17
            clear Ba_t15
            have Bf_t18 := Bf_t14.next hb_t17
            clear Bf_t14
            have hw_t18 := below_next hw_t15 hb_t17
            have hs_t18 := hb_t17.size
            have lw0_t19 := below_next lw0_t16 hb_t17
            have lw1_t19 := below_next lw1_t16 hb_t17
            cases he : la[j].k.toList == la[k].k.toList
            · have qBa0 : ((wr.alloc (.cells #[.string la[j].k, .int .i64 la[j].n, .int .i64 la[j].f, .int .i64 la[j].t] 68)).alloc (.cells #[.string la[k].k, .int .i64 la[k].n, .int .i64 la[k].f, .int .i64 la[k].t] 68)).cell? ⟨w1.heap.size, 0, none⟩ = some (.int .i64 za) := by rw [Ba_t18.cell]; rfl
              have qBa1 : ((wr.alloc (.cells #[.string la[j].k, .int .i64 la[j].n, .int .i64 la[j].f, .int .i64 la[j].t] 68)).alloc (.cells #[.string la[k].k, .int .i64 la[k].n, .int .i64 la[k].f, .int .i64 la[k].t] 68)).cell? ⟨w1.heap.size, 1, none⟩ = some (.slice (some ⟨ebE, eoE, none⟩) la.length ca) := by rw [Ba_t18.cell]; rfl
              have qBf0 : ((wr.alloc (.cells #[.string la[j].k, .int .i64 la[j].n, .int .i64 la[j].f, .int .i64 la[j].t] 68)).alloc (.cells #[.string la[k].k, .int .i64 la[k].n, .int .i64 la[k].f, .int .i64 la[k].t] 68)).cell? ⟨wr.heap.size, 0, none⟩ = some (.string la[j].k) := by rw [Bf_t18.cell]; rfl
              have qBf1 : ((wr.alloc (.cells #[.string la[j].k, .int .i64 la[j].n, .int .i64 la[j].f, .int .i64 la[j].t] 68)).alloc (.cells #[.string la[k].k, .int .i64 la[k].n, .int .i64 la[k].f, .int .i64 la[k].t] 68)).cell? ⟨wr.heap.size, 1, none⟩ = some (.int .i64 la[j].n) := by rw [Bf_t18.cell]; rfl
              have qBf2 : ((wr.alloc (.cells #[.string la[j].k, .int .i64 la[j].n, .int .i64 la[j].f, .int .i64 la[j].t] 68)).alloc (.cells #[.string la[k].k, .int .i64 la[k].n, .int .i64 la[k].f, .int .i64 la[k].t] 68)).cell? ⟨wr.heap.size, 2, none⟩ = some (.int .i64 la[j].f) := by rw [Bf_t18.cell]; rfl
              have qBf3 : ((wr.alloc (.cells #[.string la[j].k, .int .i64 la[j].n, .int .i64 la[j].f, .int .i64 la[j].t] 68)).alloc (.cells #[.string la[k].k, .int .i64 la[k].n, .int .i64 la[k].f, .int .i64 la[k].t] 68)).cell? ⟨wr.heap.size, 3, none⟩ = some (.int .i64 la[j].t) := by rw [Bf_t18.cell]; rfl
              have qBe0 : ((wr.alloc (.cells #[.string la[j].k, .int .i64 la[j].n, .int .i64 la[j].f, .int .i64 la[j].t] 68)).alloc (.cells #[.string la[k].k, .int .i64 la[k].n, .int .i64 la[k].f, .int .i64 la[k].t] 68)).cell? ⟨wr.heap.size + 1, 0, none⟩ = some (.string la[k].k) := by rw [Be_t17.cell]; rfl
              have qBe1 : ((wr.alloc (.cells #[.string la[j].k, .int .i64 la[j].n, .int .i64 la[j].f, .int .i64 la[j].t] 68)).alloc (.cells #[.string la[k].k, .int .i64 la[k].n, .int .i64 la[k].f, .int .i64 la[k].t] 68)).cell? ⟨wr.heap.size + 1, 1, none⟩ = some (.int .i64 la[k].n) := by rw [Be_t17.cell]; rfl
              have qBe2 : ((wr.alloc (.cells #[.string la[j].k, .int .i64 la[j].n, .int .i64 la[j].f, .int .i64 la[j].t] 68)).alloc (.cells #[.string la[k].k, .int .i64 la[k].n, .int .i64 la[k].f, .int .i64 la[k].t] 68)).cell? ⟨wr.heap.size + 1, 2, none⟩ = some (.int .i64 la[k].f) := by rw [Be_t17.cell]; rfl
              have qBe3 : ((wr.alloc (.cells #[.string la[j].k, .int .i64 la[j].n, .int .i64 la[j].f, .int .i64 la[j].t] 68)).alloc (.cells #[.string la[k].k, .int .i64 la[k].n, .int .i64 la[k].f, .int .i64 la[k].t] 68)).cell? ⟨wr.heap.size + 1, 3, none⟩ = some (.int .i64 la[k].t) := by rw [Be_t17.cell]; rfl
              have qE0 : ((wr.alloc (.cells #[.string la[j].k, .int .i64 la[j].n, .int .i64 la[j].f, .int .i64 la[j].t] 68)).alloc (.cells #[.string la[k].k, .int .i64 la[k].n, .int .i64 la[k].f, .int .i64 la[k].t] 68)).cell? ⟨ebE, eoE + k * 4, none⟩ = some (.string la[k].k) := ((a_t18.rd'.2.2.2).fixV rfl hlt).1
              have qE1 : ((wr.alloc (.cells #[.string la[j].k, .int .i64 la[j].n, .int .i64 la[j].f, .int .i64 la[j].t] 68)).alloc (.cells #[.string la[k].k, .int .i64 la[k].n, .int .i64 la[k].f, .int .i64 la[k].t] 68)).cell? ⟨ebE, eoE + k * 4 + 1, none⟩ = some (.int .i64 la[k].n) := ((a_t18.rd'.2.2.2).fixV rfl hlt).2.1
              have qE2 : ((wr.alloc (.cells #[.string la[j].k, .int .i64 la[j].n, .int .i64 la[j].f, .int .i64 la[j].t] 68)).alloc (.cells #[.string la[k].k, .int .i64 la[k].n, .int .i64 la[k].f, .int .i64 la[k].t] 68)).cell? ⟨ebE, eoE + k * 4 + 2, none⟩ = some (.int .i64 la[k].f) := ((a_t18.rd'.2.2.2).fixV rfl hlt).2.2.1
              have qE3 : ((wr.alloc (.cells #[.string la[j].k, .int .i64 la[j].n, .int .i64 la[j].f, .int .i64 la[j].t] 68)).alloc (.cells #[.string la[k].k, .int .i64 la[k].n, .int .i64 la[k].f, .int .i64 la[k].t] 68)).cell? ⟨ebE, eoE + k * 4 + 3, none⟩ = some (.int .i64 la[k].t) := ((a_t18.rd'.2.2.2).fixV rfl hlt).2.2.2
              have qF0 : ((wr.alloc (.cells #[.string la[j].k, .int .i64 la[j].n, .int .i64 la[j].f, .int .i64 la[j].t] 68)).alloc (.cells #[.string la[k].k, .int .i64 la[k].n, .int .i64 la[k].f, .int .i64 la[k].t] 68)).cell? ⟨ebE, eoE + j * 4, none⟩ = some (.string la[j].k) := ((a_t18.rd'.2.2.2).fixV rfl hjl).1
              have qF1 : ((wr.alloc (.cells #[.string la[j].k, .int .i64 la[j].n, .int .i64 la[j].f, .int .i64 la[j].t] 68)).alloc (.cells #[.string la[k].k, .int .i64 la[k].n, .int .i64 la[k].f, .int .i64 la[k].t] 68)).cell? ⟨ebE, eoE + j * 4 + 1, none⟩ = some (.int .i64 la[j].n) := ((a_t18.rd'.2.2.2).fixV rfl hjl).2.1
              have qF2 : ((wr.alloc (.cells #[.string la[j].k, .int .i64 la[j].n, .int .i64 la[j].f, .int .i64 la[j].t] 68)).alloc (.cells #[.string la[k].k, .int .i64 la[k].n, .int .i64 la[k].f, .int .i64 la[k].t] 68)).cell? ⟨ebE, eoE + j * 4 + 2, none⟩ = some (.int .i64 la[j].f) := ((a_t18.rd'.2.2.2).fixV rfl hjl).2.2.1
              have qF3 : ((wr.alloc (.cells #[.string la[j].k, .int .i64 la[j].n, .int .i64 la[j].f, .int .i64 la[j].t] 68)).alloc (.cells #[.string la[k].k, .int .i64 la[k].n, .int .i64 la[k].f, .int .i64 la[k].t] 68)).cell? ⟨ebE, eoE + j * 4 + 3, none⟩ = some (.int .i64 la[j].t) := ((a_t18.rd'.2.2.2).fixV rfl hjl).2.2.2
              go_wp2
              go_roundw
              case rel => exact ⟨j + 1, by omega, by go_num, lw1_t19⟩
              case measure => simp [intOf]; omega
            · have HO := ord_same HORD.out hjt hlt (str_eq he)
              have hd1 : (la[j].t == 0) = false := by simp; omega
              have hd2 : decide (la[k].f < la[j].t) = false := decide_eq_false (by omega)
              clear HO
              have qBa0 : ((wr.alloc (.cells #[.string la[j].k, .int .i64 la[j].n, .int .i64 la[j].f, .int .i64 la[j].t] 68)).alloc (.cells #[.string la[k].k, .int .i64 la[k].n, .int .i64 la[k].f, .int .i64 la[k].t] 68)).cell? ⟨w1.heap.size, 0, none⟩ = some (.int .i64 za) := by rw [Ba_t18.cell]; rfl
              have qBa1 : ((wr.alloc (.cells #[.string la[j].k, .int .i64 la[j].n, .int .i64 la[j].f, .int .i64 la[j].t] 68)).alloc (.cells #[.string la[k].k, .int .i64 la[k].n, .int .i64 la[k].f, .int .i64 la[k].t] 68)).cell? ⟨w1.heap.size, 1, none⟩ = some (.slice (some ⟨ebE, eoE, none⟩) la.length ca) := by rw [Ba_t18.cell]; rfl
              have qBf0 : ((wr.alloc (.cells #[.string la[j].k, .int .i64 la[j].n, .int .i64 la[j].f, .int .i64 la[j].t] 68)).alloc (.cells #[.string la[k].k, .int .i64 la[k].n, .int .i64 la[k].f, .int .i64 la[k].t] 68)).cell? ⟨wr.heap.size, 0, none⟩ = some (.string la[j].k) := by rw [Bf_t18.cell]; rfl
              have qBf1 : ((wr.alloc (.cells #[.string la[j].k, .int .i64 la[j].n, .int .i64 la[j].f, .int .i64 la[j].t] 68)).alloc (.cells #[.string la[k].k, .int .i64 la[k].n, .int .i64 la[k].f, .int .i64 la[k].t] 68)).cell? ⟨wr.heap.size, 1, none⟩ = some (.int .i64 la[j].n) := by rw [Bf_t18.cell]; rfl
              have qBf2 : ((wr.alloc (.cells #[.string la[j].k, .int .i64 la[j].n, .int .i64 la[j].f, .int .i64 la[j].t] 68)).alloc (.cells #[.string la[k].k, .int .i64 la[k].n, .int .i64 la[k].f, .int .i64 la[k].t] 68)).cell? ⟨wr.heap.size, 2, none⟩ = some (.int .i64 la[j].f) := by rw [Bf_t18.cell]; rfl
              have qBf3 : ((wr.alloc (.cells #[.string la[j].k, .int .i64 la[j].n, .int .i64 la[j].f, .int .i64 la[j].t] 68)).alloc (.cells #[.string la[k].k, .int .i64 la[k].n, .int .i64 la[k].f, .int .i64 la[k].t] 68)).cell? ⟨wr.heap.size, 3, none⟩ = some (.int .i64 la[j].t) := by rw [Bf_t18.cell]; rfl
              have qBe0 : ((wr.alloc (.cells #[.string la[j].k, .int .i64 la[j].n, .int .i64 la[j].f, .int .i64 la[j].t] 68)).alloc (.cells #[.string la[k].k, .int .i64 la[k].n, .int .i64 la[k].f, .int .i64 la[k].t] 68)).cell? ⟨wr.heap.size + 1, 0, none⟩ = some (.string la[k].k) := by rw [Be_t17.cell]; rfl
              have qBe1 : ((wr.alloc (.cells #[.string la[j].k, .int .i64 la[j].n, .int .i64 la[j].f, .int .i64 la[j].t] 68)).alloc (.cells #[.string la[k].k, .int .i64 la[k].n, .int .i64 la[k].f, .int .i64 la[k].t] 68)).cell? ⟨wr.heap.size + 1, 1, none⟩ = some (.int .i64 la[k].n) := by rw [Be_t17.cell]; rfl
              have qBe2 : ((wr.alloc (.cells #[.string la[j].k, .int .i64 la[j].n, .int .i64 la[j].f, .int .i64 la[j].t] 68)).alloc (.cells #[.string la[k].k, .int .i64 la[k].n, .int .i64 la[k].f, .int .i64 la[k].t] 68)).cell? ⟨wr.heap.size + 1, 2, none⟩ = some (.int .i64 la[k].f) := by rw [Be_t17.cell]; rfl
              have qBe3 : ((wr.alloc (.cells #[.string la[j].k, .int .i64 la[j].n, .int .i64 la[j].f, .int .i64 la[j].t] 68)).alloc (.cells #[.string la[k].k, .int .i64 la[k].n, .int .i64 la[k].f, .int .i64 la[k].t] 68)).cell? ⟨wr.heap.size + 1, 3, none⟩ = some (.int .i64 la[k].t) := by rw [Be_t17.cell]; rfl
              have qE0 : ((wr.alloc (.cells #[.string la[j].k, .int .i64 la[j].n, .int .i64 la[j].f, .int .i64 la[j].t] 68)).alloc (.cells #[.string la[k].k, .int .i64 la[k].n, .int .i64 la[k].f, .int .i64 la[k].t] 68)).cell? ⟨ebE, eoE + k * 4, none⟩ = some (.string la[k].k) := ((a_t18.rd'.2.2.2).fixV rfl hlt).1
              have qE1 : ((wr.alloc (.cells #[.string la[j].k, .int .i64 la[j].n, .int .i64 la[j].f, .int .i64 la[j].t] 68)).alloc (.cells #[.string la[k].k, .int .i64 la[k].n, .int .i64 la[k].f, .int .i64 la[k].t] 68)).cell? ⟨ebE, eoE + k * 4 + 1, none⟩ = some (.int .i64 la[k].n) := ((a_t18.rd'.2.2.2).fixV rfl hlt).2.1
              have qE2 : ((wr.alloc (.cells #[.string la[j].k, .int .i64 la[j].n, .int .i64 la[j].f, .int .i64 la[j].t] 68)).alloc (.cells #[.string la[k].k, .int .i64 la[k].n, .int .i64 la[k].f, .int .i64 la[k].t] 68)).cell? ⟨ebE, eoE + k * 4 + 2, none⟩ = some (.int .i64 la[k].f) := ((a_t18.rd'.2.2.2).fixV rfl hlt).2.2.1
              have qE3 : ((wr.alloc (.cells #[.string la[j].k, .int .i64 la[j].n, .int .i64 la[j].f, .int .i64 la[j].t] 68)).alloc (.cells #[.string la[k].k, .int .i64 la[k].n, .int .i64 la[k].f, .int .i64 la[k].t] 68)).cell? ⟨ebE, eoE + k * 4 + 3, none⟩ = some (.int .i64 la[k].t) := ((a_t18.rd'.2.2.2).fixV rfl hlt).2.2.2
              have qF0 : ((wr.alloc (.cells #[.string la[j].k, .int .i64 la[j].n, .int .i64 la[j].f, .int .i64 la[j].t] 68)).alloc (.cells #[.string la[k].k, .int .i64 la[k].n, .int .i64 la[k].f, .int .i64 la[k].t] 68)).cell? ⟨ebE, eoE + j * 4, none⟩ = some (.string la[j].k) := ((a_t18.rd'.2.2.2).fixV rfl hjl).1
              have qF1 : ((wr.alloc (.cells #[.string la[j].k, .int .i64 la[j].n, .int .i64 la[j].f, .int .i64 la[j].t] 68)).alloc (.cells #[.string la[k].k, .int .i64 la[k].n, .int .i64 la[k].f, .int .i64 la[k].t] 68)).cell? ⟨ebE, eoE + j * 4 + 1, none⟩ = some (.int .i64 la[j].n) := ((a_t18.rd'.2.2.2).fixV rfl hjl).2.1
              have qF2 : ((wr.alloc (.cells #[.string la[j].k, .int .i64 la[j].n, .int .i64 la[j].f, .int .i64 la[j].t] 68)).alloc (.cells #[.string la[k].k, .int .i64 la[k].n, .int .i64 la[k].f, .int .i64 la[k].t] 68)).cell? ⟨ebE, eoE + j * 4 + 2, none⟩ = some (.int .i64 la[j].f) := ((a_t18.rd'.2.2.2).fixV rfl hjl).2.2.1
              have qF3 : ((wr.alloc (.cells #[.string la[j].k, .int .i64 la[j].n, .int .i64 la[j].f, .int .i64 la[j].t] 68)).alloc (.cells #[.string la[k].k, .int .i64 la[k].n, .int .i64 la[k].f, .int .i64 la[k].t] 68)).cell? ⟨ebE, eoE + j * 4 + 3, none⟩ = some (.int .i64 la[j].t) := ((a_t18.rd'.2.2.2).fixV rfl hjl).2.2.2
              go_wp2
              go_roundw
              case rel => exact ⟨j + 1, by omega, by go_num, lw1_t19⟩
              case measure => simp [intOf]; omega
          · have hjI : decide ((j : Int) < (k : Int)) = false := decide_eq_false (by omega)
            by_cases h0 : la[k].t = 0
            · have hd1 : (la[k].t == 0) = true := by simp; exact h0
              have HG := Lib.hid (open_last HOP.out hlt h0)
              rw [HR1.out] at HG
              clear h0
              have qBa0 : wr.cell? ⟨w1.heap.size, 0, none⟩ = some (.int .i64 za) := by rw [Ba_t12.cell]; rfl
              have qBa1 : wr.cell? ⟨w1.heap.size, 1, none⟩ = some (.slice (some ⟨ebE, eoE, none⟩) la.length ca) := by rw [Ba_t12.cell]; rfl
              have qE0 : wr.cell? ⟨ebE, eoE + k * 4, none⟩ = some (.string la[k].k) := ((a_t12.rd'.2.2.2).fixV rfl hlt).1
              have qE1 : wr.cell? ⟨ebE, eoE + k * 4 + 1, none⟩ = some (.int .i64 la[k].n) := ((a_t12.rd'.2.2.2).fixV rfl hlt).2.1
              have qE2 : wr.cell? ⟨ebE, eoE + k * 4 + 2, none⟩ = some (.int .i64 la[k].f) := ((a_t12.rd'.2.2.2).fixV rfl hlt).2.2.1
              have qE3 : wr.cell? ⟨ebE, eoE + k * 4 + 3, none⟩ = some (.int .i64 la[k].t) := ((a_t12.rd'.2.2.2).fixV rfl hlt).2.2.2
              go_wp2
              clear qBa0 qBa1
              clear qE0 qE1 qE2 qE3
              have hb_t14 : Below wr.heap.size wr wr.drew := (Below.refl _ _).drew
              have a_t15 := a_t12.next hb_t14
              clear a_t12
              have Ba_t15 := Ba_t12.next hb_t14
              clear Ba_t12
              have hw_t15 := below_next hw_t12 hb_t14
              have hs_t15 := hb_t14.size
              have lw0_t16 := below_next lw0_t13 hb_t14
              have lw1_t16 := below_next lq1 hb_t14
              refine wp_region_held_drew (S := (fun W => W.cell? ⟨w1.heap.size, 0, none⟩ = some (.int .i64 za) ∧ W.cell? ⟨w1.heap.size, 1, none⟩ = some (.slice (some ⟨ebE, eoE, none⟩) la.length ca) ∧ W.cell? ⟨ebE, eoE + k * 4, none⟩ = some (.string la[k].k) ∧ W.cell? ⟨ebE, eoE + k * 4 + 1, none⟩ = some (.int .i64 la[k].n) ∧ W.cell? ⟨ebE, eoE + k * 4 + 2, none⟩ = some (.int .i64 la[k].f) ∧ W.cell? ⟨ebE, eoE + k * 4 + 3, none⟩ = some (.int .i64 la[k].t))) (by kernel_rfl) ?_ (fun hHeld => ?_)
              focus ((try dsimp only); (exact ⟨by rw [Ba_t15.cell]; rfl, by rw [Ba_t15.cell]; rfl, ((a_t15.rd'.2.2.2).fixV rfl hlt).1, ((a_t15.rd'.2.2.2).fixV rfl hlt).2.1, ((a_t15.rd'.2.2.2).fixV rfl hlt).2.2.1, ((a_t15.rd'.2.2.2).fixV rfl hlt).2.2.2⟩))
              (refine tkW (i := 0) (v := ?_) (by (simp only [ga, gc]; rfl)) (by kernel_rfl) (by (intro _ _ _ h; exact h)) (by rfl) ?_ (by assumption) ?_; rotate_left; (focus ((intro w hSw; (try dsimp only at hSw); go_simp) <;> with_reducible rfl)); (try simp only [Act.put, pa, pb, pc]))
              (refine tkW (i := 1) (v := ?_) (by (simp only [ga, gb, gc]; rfl)) (by kernel_rfl) (by (intro _ _ _ h; exact h)) (by rfl) ?_ (by assumption) ?_; rotate_left; (focus ((intro w hSw; (try dsimp only at hSw); go_simp) <;> with_reducible rfl)); (try simp only [Act.put, pa, pb, pc]))
              (refine tkW (i := 2) (v := ?_) (by (simp only [ga, gb, gc]; rfl)) (by kernel_rfl) (by (intro _ _ _ h; exact h)) (by rfl) ?_ (by assumption) ?_; rotate_left; (focus ((intro w hSw; (try dsimp only at hSw); go_simp) <;> with_reducible rfl)); (try simp only [Act.put, pa, pb, pc]))
              (refine tkW (i := 4) (v := ?_) (by (simp only [ga, gb, gc]; rfl)) (by kernel_rfl) (by (intro _ _ _ h; exact h)) (by rfl) ?_ (by assumption) ?_; rotate_left; (focus ((intro w hSw; (try dsimp only at hSw); go_simp) <;> with_reducible rfl)); (try simp only [Act.put, pa, pb, pc]))
              (refine tkW (i := 5) (v := ?_) (by (simp only [ga, gb, gc]; rfl)) (by kernel_rfl) (by (intro _ _ _ h; exact h)) (by rfl) ?_ (by assumption) ?_; rotate_left; (focus ((intro w hSw; (try dsimp only at hSw); go_simp) <;> with_reducible rfl)); (try simp only [Act.put, pa, pb, pc]))
              (refine tkW (i := 6) (v := ?_) (by (simp only [ga, gb, gc]; rfl)) (by kernel_rfl) (by (intro _ _ _ h; exact h)) (by rfl) ?_ (by assumption) ?_; rotate_left; (focus ((intro w hSw; (try dsimp only at hSw); go_simp) <;> with_reducible rfl)); (try simp only [Act.put, pa, pb, pc]))
              (refine tkW (i := 7) (v := ?_) (by (simp only [ga, gb, gc]; rfl)) (by kernel_rfl) (by (intro _ _ _ h; exact h)) (by rfl) ?_ (by assumption) ?_; rotate_left; (focus ((intro w hSw; (try dsimp only at hSw); go_simp) <;> with_reducible rfl)); (try simp only [Act.put, pa, pb, pc]))
              (refine tkW (i := 8) (v := ?_) (by (simp only [ga, gb, gc]; rfl)) (by kernel_rfl) (by (intro _ _ _ h; exact h)) (by rfl) ?_ (by assumption) ?_; rotate_left; (focus ((intro w hSw; (try dsimp only at hSw); go_simp) <;> with_reducible rfl)); (try simp only [Act.put, pa, pb, pc]))
              (refine tkW (i := 9) (v := ?_) (by (simp only [ga, gb, gc]; rfl)) (by kernel_rfl) (by (intro _ _ _ h; exact h)) (by rfl) ?_ (by assumption) ?_; rotate_left; (focus ((intro w hSw; (try dsimp only at hSw); go_simp) <;> with_reducible rfl)); (try simp only [Act.put, pa, pb, pc]))
              (refine wpAnyH_ready (rs := [3]) (by kernel_rfl) (by simp) ?_; refine AllReadyH.cons (by (simp only [ga, gb, gc]; rfl)) (fun K hK => ?_) AllReadyH.nil; go_simp; (go_at_call 26; refine (implVersAtO za a_t15 hfa (by omega)).mono ?_; rw [HR1.out]; rintro e w4 ⟨Vr, rfl, r_n, hb4⟩; obtain ⟨adr, cr, rfl, ry1_r, ry2_r, ry3_r⟩ := r_n.read; clear ry1_r ry2_r ry3_r; have a_t17 := a_t15.next hb4; clear a_t15; have Ba_t17 := Ba_t15.next hb4; clear Ba_t15; have hw_t17 := below_next hw_t15 hb4; have hs_t17 := hb4.size; have lw0_t18 := below_next lw0_t16 hb4; have lw1_t18 := below_next lw1_t16 hb4); go_wp2_with fail; refine hK.out _ _ ?_ (fun hHeld => ?_); (focus ((try dsimp only); (exact ⟨by rw [Ba_t17.cell]; rfl, by rw [Ba_t17.cell]; rfl, ((a_t17.rd'.2.2.2).fixV rfl hlt).1, ((a_t17.rd'.2.2.2).fixV rfl hlt).2.1, ((a_t17.rd'.2.2.2).fixV rfl hlt).2.2.1, ((a_t17.rd'.2.2.2).fixV rfl hlt).2.2.2⟩))); clear hK K; (try simp only [Act.put, pa, pb, pc]))
              (refine wpAnyH_ready (rs := [10]) (by kernel_rfl) (by simp) ?_; refine AllReadyH.cons (by (simp only [ga, gb, gc]; rfl)) (fun K hK => ?_) AllReadyH.nil; go_simp; (go_at_call 51; refine (implGetO la[k].k r_n hfr (by omega)).mono ?_; rintro e w5 ⟨rfl, hb5⟩; rw [HG.out.1, HG.out.2.1]; have a_t19 := a_t17.next hb5; clear a_t17; have r_t19 := r_n.next hb5; clear r_n; have Ba_t19 := Ba_t17.next hb5; clear Ba_t17; have hw_t19 := below_next hw_t17 hb5; have hs_t19 := hb5.size; have lw0_t20 := below_next lw0_t18 hb5; have lw1_t20 := below_next lw1_t18 hb5); go_wp2_with fail; refine hK.out _ _ ?_ (fun hHeld => ?_); (focus ((try dsimp only); (exact ⟨by rw [Ba_t19.cell]; rfl, by rw [Ba_t19.cell]; rfl, ((a_t19.rd'.2.2.2).fixV rfl hlt).1, ((a_t19.rd'.2.2.2).fixV rfl hlt).2.1, ((a_t19.rd'.2.2.2).fixV rfl hlt).2.2.1, ((a_t19.rd'.2.2.2).fixV rfl hlt).2.2.2⟩))); clear hK K; (try simp only [Act.put, pa, pb, pc]))
              (refine tkW (i := 11) (v := ?_) (by (simp only [ga, gb, gc]; rfl)) (by kernel_rfl) (by (intro _ _ _ h; exact h)) (by rfl) ?_ (by assumption) ?_; rotate_left; (focus ((intro w hSw; (try dsimp only at hSw); go_simp) <;> with_reducible rfl)); (try simp only [Act.put, pa, pb, pc]))
              (refine tkW (i := 12) (v := ?_) (by (simp only [ga, gb, gc]; rfl)) (by kernel_rfl) (by (intro _ _ _ h; exact h)) (by rfl) ?_ (by assumption) ?_; rotate_left; (focus ((intro w hSw; (try dsimp only at hSw); go_simp) <;> with_reducible rfl)); (try simp only [Act.put, pa, pb, pc]))
              (refine tkW (i := 13) (v := ?_) (by (simp only [ga, gb, gc]; rfl)) (by kernel_rfl) (by (intro _ _ _ h; exact h)) (by rfl) ?_ (by assumption) ?_; rotate_left; (focus ((intro w hSw; (try dsimp only at hSw); go_simp) <;> with_reducible rfl)); (try simp only [Act.put, pa, pb, pc]))
              (refine tkW (i := 14) (v := ?_) (by (simp only [ga, gb, gc]; rfl)) (by kernel_rfl) (by (intro _ _ _ h; exact h)) (by rfl) ?_ (by assumption) ?_; rotate_left; (focus ((intro w hSw; (try dsimp only at hSw); go_simp) <;> with_reducible rfl)); (try simp only [Act.put, pa, pb, pc]))
              (refine tkW (i := 15) (v := ?_) (by (simp only [ga, gb, gc]; rfl)) (by kernel_rfl) (by (intro _ _ _ h; exact h)) (by rfl) ?_ (by assumption) ?_; rotate_left; (focus ((intro w hSw; (try dsimp only at hSw); go_simp) <;> with_reducible rfl)); (try simp only [Act.put, pa, pb, pc]))
              refine wpAnyH_done (by kernel_rfl) ?_ _
              have qBa0 : w5.cell? ⟨w1.heap.size, 0, none⟩ = some (.int .i64 za) := by rw [Ba_t19.cell]; rfl
              have qBa1 : w5.cell? ⟨w1.heap.size, 1, none⟩ = some (.slice (some ⟨ebE, eoE, none⟩) la.length ca) := by rw [Ba_t19.cell]; rfl
              have qE0 : w5.cell? ⟨ebE, eoE + k * 4, none⟩ = some (.string la[k].k) := ((a_t19.rd'.2.2.2).fixV rfl hlt).1
              have qE1 : w5.cell? ⟨ebE, eoE + k * 4 + 1, none⟩ = some (.int .i64 la[k].n) := ((a_t19.rd'.2.2.2).fixV rfl hlt).2.1
              have qE2 : w5.cell? ⟨ebE, eoE + k * 4 + 2, none⟩ = some (.int .i64 la[k].f) := ((a_t19.rd'.2.2.2).fixV rfl hlt).2.2.1
              have qE3 : w5.cell? ⟨ebE, eoE + k * 4 + 3, none⟩ = some (.int .i64 la[k].t) := ((a_t19.rd'.2.2.2).fixV rfl hlt).2.2.2
              go_wp2
              clear qBa0 qBa1
              clear qE0 qE1 qE2 qE3
              have hb_t21 : Below w5.heap.size w5 w5.drew := (Below.refl _ _).drew
              have a_t22 := a_t19.next hb_t21
              clear a_t19
              have r_t22 := r_t19.next hb_t21
              clear r_t19
              have Ba_t22 := Ba_t19.next hb_t21
              clear Ba_t19
              have hw_t22 := below_next hw_t19 hb_t21
              have hs_t22 := hb_t21.size
              have lw0_t23 := below_next lw0_t20 hb_t21
              have lw1_t23 := below_next lw1_t20 hb_t21
              refine wp_region_held_drew (S := (fun W => W.cell? ⟨w1.heap.size, 0, none⟩ = some (.int .i64 za) ∧ W.cell? ⟨w1.heap.size, 1, none⟩ = some (.slice (some ⟨ebE, eoE, none⟩) la.length ca) ∧ W.cell? ⟨ebE, eoE + k * 4, none⟩ = some (.string la[k].k) ∧ W.cell? ⟨ebE, eoE + k * 4 + 1, none⟩ = some (.int .i64 la[k].n) ∧ W.cell? ⟨ebE, eoE + k * 4 + 2, none⟩ = some (.int .i64 la[k].f) ∧ W.cell? ⟨ebE, eoE + k * 4 + 3, none⟩ = some (.int .i64 la[k].t))) (by kernel_rfl) ?_ (fun hHeld => ?_)
              focus ((try dsimp only); (exact ⟨by rw [Ba_t22.cell]; rfl, by rw [Ba_t22.cell]; rfl, ((a_t22.rd'.2.2.2).fixV rfl hlt).1, ((a_t22.rd'.2.2.2).fixV rfl hlt).2.1, ((a_t22.rd'.2.2.2).fixV rfl hlt).2.2.1, ((a_t22.rd'.2.2.2).fixV rfl hlt).2.2.2⟩))
              (refine tkW (i := 0) (v := ?_) (by (simp only [ga, gc]; rfl)) (by kernel_rfl) (by (intro _ _ _ h; exact h)) (by rfl) ?_ (by assumption) ?_; rotate_left; (focus ((intro w hSw; (try dsimp only at hSw); go_simp) <;> with_reducible rfl)); (try simp only [Act.put, pa, pb, pc]))
              (refine tkW (i := 1) (v := ?_) (by (simp only [ga, gb, gc]; rfl)) (by kernel_rfl) (by (intro _ _ _ h; exact h)) (by rfl) ?_ (by assumption) ?_; rotate_left; (focus ((intro w hSw; (try dsimp only at hSw); go_simp) <;> with_reducible rfl)); (try simp only [Act.put, pa, pb, pc]))
              (refine tkW (i := 2) (v := ?_) (by (simp only [ga, gb, gc]; rfl)) (by kernel_rfl) (by (intro _ _ _ h; exact h)) (by rfl) ?_ (by assumption) ?_; rotate_left; (focus ((intro w hSw; (try dsimp only at hSw); go_simp) <;> with_reducible rfl)); (try simp only [Act.put, pa, pb, pc]))
              (refine tkW (i := 3) (v := ?_) (by (simp only [ga, gb, gc]; rfl)) (by kernel_rfl) (by (intro _ _ _ h; exact h)) (by rfl) ?_ (by assumption) ?_; rotate_left; (focus ((intro w hSw; (try dsimp only at hSw); go_simp) <;> with_reducible rfl)); (try simp only [Act.put, pa, pb, pc]))
              (refine tkW (i := 4) (v := ?_) (by (simp only [ga, gb, gc]; rfl)) (by kernel_rfl) (by (intro _ _ _ h; exact h)) (by rfl) ?_ (by assumption) ?_; rotate_left; (focus ((intro w hSw; (try dsimp only at hSw); go_simp) <;> with_reducible rfl)); (try simp only [Act.put, pa, pb, pc]))
              (refine tkW (i := 5) (v := ?_) (by (simp only [ga, gb, gc]; rfl)) (by kernel_rfl) (by (intro _ _ _ h; exact h)) (by rfl) ?_ (by assumption) ?_; rotate_left; (focus ((intro w hSw; (try dsimp only at hSw); go_simp) <;> with_reducible rfl)); (try simp only [Act.put, pa, pb, pc]))
              (refine tkW (i := 6) (v := ?_) (by (simp only [ga, gb, gc]; rfl)) (by kernel_rfl) (by (intro _ _ _ h; exact h)) (by rfl) ?_ (by assumption) ?_; rotate_left; (focus ((intro w hSw; (try dsimp only at hSw); go_simp) <;> with_reducible rfl)); (try simp only [Act.put, pa, pb, pc]))
              (refine tkW (i := 7) (v := ?_) (by (simp only [ga, gb, gc]; rfl)) (by kernel_rfl) (by (intro _ _ _ h; exact h)) (by rfl) ?_ (by assumption) ?_; rotate_left; (focus ((intro w hSw; (try dsimp only at hSw); go_simp) <;> with_reducible rfl)); (try simp only [Act.put, pa, pb, pc]))
              (refine tkW (i := 8) (v := ?_) (by (simp only [ga, gb, gc]; rfl)) (by kernel_rfl) (by (intro _ _ _ h; exact h)) (by rfl) ?_ (by assumption) ?_; rotate_left; (focus ((intro w hSw; (try dsimp only at hSw); go_simp) <;> with_reducible rfl)); (try simp only [Act.put, pa, pb, pc]))
              (refine tkW (i := 9) (v := ?_) (by (simp only [ga, gb, gc]; rfl)) (by kernel_rfl) (by (intro _ _ _ h; exact h)) (by rfl) ?_ (by assumption) ?_; rotate_left; (focus ((intro w hSw; (try dsimp only at hSw); go_simp) <;> with_reducible rfl)); (try simp only [Act.put, pa, pb, pc]))
              (refine tkW (i := 10) (v := ?_) (by (simp only [ga, gb, gc]; rfl)) (by kernel_rfl) (by (intro _ _ _ h; exact h)) (by rfl) ?_ (by assumption) ?_; rotate_left; (focus ((intro w hSw; (try dsimp only at hSw); go_simp) <;> with_reducible rfl)); (try simp only [Act.put, pa, pb, pc]))
              (refine tkW (i := 11) (v := ?_) (by (simp only [ga, gb, gc]; rfl)) (by kernel_rfl) (by (intro _ _ _ h; exact h)) (by rfl) ?_ (by assumption) ?_; rotate_left; (focus ((intro w hSw; (try dsimp only at hSw); go_simp) <;> with_reducible rfl)); (try simp only [Act.put, pa, pb, pc]))
              (refine tkW (i := 12) (v := ?_) (by (simp only [ga, gb, gc]; rfl)) (by kernel_rfl) (by (intro _ _ _ h; exact h)) (by rfl) ?_ (by assumption) ?_; rotate_left; (focus ((intro w hSw; (try dsimp only at hSw); go_simp) <;> with_reducible rfl)); (try simp only [Act.put, pa, pb, pc]))
              (refine tkW (i := 13) (v := ?_) (by (simp only [ga, gb, gc]; rfl)) (by kernel_rfl) (by (intro _ _ _ h; exact h)) (by rfl) ?_ (by assumption) ?_; rotate_left; (focus ((intro w hSw; (try dsimp only at hSw); go_simp) <;> with_reducible rfl)); (try simp only [Act.put, pa, pb, pc]))
              (refine tkW (i := 14) (v := ?_) (by (simp only [ga, gb, gc]; rfl)) (by kernel_rfl) (by (intro _ _ _ h; exact h)) (by rfl) ?_ (by assumption) ?_; rotate_left; (focus ((intro w hSw; (try dsimp only at hSw); go_simp) <;> with_reducible rfl)); (try simp only [Act.put, pa, pb, pc]))
              (refine tkW (i := 15) (v := ?_) (by (simp only [ga, gb, gc]; rfl)) (by kernel_rfl) (by (intro _ _ _ h; exact h)) (by rfl) ?_ (by assumption) ?_; rotate_left; (focus ((intro w hSw; (try dsimp only at hSw); go_simp) <;> with_reducible rfl)); (try simp only [Act.put, pa, pb, pc]))
              (refine tkW (i := 16) (v := ?_) (by (simp only [ga, gb, gc]; rfl)) (by kernel_rfl) (by (intro _ _ _ h; exact h)) (by rfl) ?_ (by assumption) ?_; rotate_left; (focus ((intro w hSw; (try dsimp only at hSw); go_simp) <;> with_reducible rfl)); (try simp only [Act.put, pa, pb, pc]))
              (refine tkW (i := 17) (v := ?_) (by (simp only [ga, gb, gc]; rfl)) (by kernel_rfl) (by (intro _ _ _ h; exact h)) (by rfl) ?_ (by assumption) ?_; rotate_left; (focus ((intro w hSw; (try dsimp only at hSw); go_simp) <;> with_reducible rfl)); (try simp only [Act.put, pa, pb, pc]))
              (refine tkW (i := 18) (v := ?_) (by (simp only [ga, gb, gc]; rfl)) (by kernel_rfl) (by (intro _ _ _ h; exact h)) (by rfl) ?_ (by assumption) ?_; rotate_left; (focus ((intro w hSw; (try dsimp only at hSw); go_simp) <;> with_reducible rfl)); (try simp only [Act.put, pa, pb, pc]))
              (refine tkW (i := 19) (v := ?_) (by (simp only [ga, gb, gc]; rfl)) (by kernel_rfl) (by (intro _ _ _ h; exact h)) (by rfl) ?_ (by assumption) ?_; rotate_left; (focus ((intro w hSw; (try dsimp only at hSw); go_simp) <;> with_reducible rfl)); (try simp only [Act.put, pa, pb, pc]))
              (refine tkW (i := 21) (v := ?_) (by (simp only [ga, gb, gc]; rfl)) (by kernel_rfl) (by (intro _ _ _ h; exact h)) (by rfl) ?_ (by assumption) ?_; rotate_left; (focus ((intro w hSw; (try dsimp only at hSw); go_simp) <;> with_reducible rfl)); (try simp only [Act.put, pa, pb, pc]))
              (refine tkW (i := 22) (v := ?_) (by (simp only [ga, gb, gc]; rfl)) (by kernel_rfl) (by (intro _ _ _ h; exact h)) (by rfl) ?_ (by assumption) ?_; rotate_left; (focus ((intro w hSw; (try dsimp only at hSw); go_simp) <;> with_reducible rfl)); (try simp only [Act.put, pa, pb, pc]))
              (refine tkW (i := 23) (v := ?_) (by (simp only [ga, gb, gc]; rfl)) (by kernel_rfl) (by (intro _ _ _ h; exact h)) (by rfl) ?_ (by assumption) ?_; rotate_left; (focus ((intro w hSw; (try dsimp only at hSw); go_simp) <;> with_reducible rfl)); (try simp only [Act.put, pa, pb, pc]))
              (refine tkW (i := 24) (v := ?_) (by (simp only [ga, gb, gc]; rfl)) (by kernel_rfl) (by (intro _ _ _ h; exact h)) (by rfl) ?_ (by assumption) ?_; rotate_left; (focus ((intro w hSw; (try dsimp only at hSw); go_simp) <;> with_reducible rfl)); (try simp only [Act.put, pa, pb, pc]))
              (refine tkW (i := 25) (v := ?_) (by (simp only [ga, gb, gc]; rfl)) (by kernel_rfl) (by (intro _ _ _ h; exact h)) (by rfl) ?_ (by assumption) ?_; rotate_left; (focus ((intro w hSw; (try dsimp only at hSw); go_simp) <;> with_reducible rfl)); (try simp only [Act.put, pa, pb, pc]))
              (refine tkW (i := 26) (v := ?_) (by (simp only [ga, gb, gc]; rfl)) (by kernel_rfl) (by (intro _ _ _ h; exact h)) (by rfl) ?_ (by assumption) ?_; rotate_left; (focus ((intro w hSw; (try dsimp only at hSw); go_simp) <;> with_reducible rfl)); (try simp only [Act.put, pa, pb, pc]))
              (refine wpAnyH_ready (rs := [20]) (by kernel_rfl) (by simp) ?_; refine AllReadyH.cons (by (simp only [ga, gb, gc]; rfl)) (fun K hK => ?_) AllReadyH.nil; go_simp; (go_at_call 32; refine (implVersLastO la[k].k a_t22 hfa (by omega)).mono ?_; rintro e w6 ⟨rfl, hb6⟩; rw [HG.out.2.2]; have a_t24 := a_t22.next hb6; clear a_t22; have r_t24 := r_t22.next hb6; clear r_t22; have Ba_t24 := Ba_t22.next hb6; clear Ba_t22; have hw_t24 := below_next hw_t22 hb6; have hs_t24 := hb6.size; have lw0_t25 := below_next lw0_t23 hb6; have lw1_t25 := below_next lw1_t23 hb6); go_wp2_with fail; refine hK.out _ _ ?_ (fun hHeld => ?_); (focus ((try dsimp only); (exact ⟨by rw [Ba_t24.cell]; rfl, by rw [Ba_t24.cell]; rfl, ((a_t24.rd'.2.2.2).fixV rfl hlt).1, ((a_t24.rd'.2.2.2).fixV rfl hlt).2.1, ((a_t24.rd'.2.2.2).fixV rfl hlt).2.2.1, ((a_t24.rd'.2.2.2).fixV rfl hlt).2.2.2⟩))); clear hK K; (try simp only [Act.put, pa, pb, pc]))
              (refine tkW (i := 27) (v := ?_) (by (simp only [ga, gb, gc]; rfl)) (by kernel_rfl) (by (intro _ _ _ h; exact h)) (by rfl) ?_ (by assumption) ?_; rotate_left; (focus ((intro w hSw; (try dsimp only at hSw); go_simp) <;> with_reducible rfl)); (try simp only [Act.put, pa, pb, pc]))
              (refine tkW (i := 28) (v := ?_) (by (simp only [ga, gb, gc]; rfl)) (by kernel_rfl) (by (intro _ _ _ h; exact h)) (by rfl) ?_ (by assumption) ?_; rotate_left; (focus ((intro w hSw; (try dsimp only at hSw); go_simp) <;> with_reducible rfl)); (try simp only [Act.put, pa, pb, pc]))
              refine wpAnyH_done (by kernel_rfl) ?_ _
              have qBa0 : w6.cell? ⟨w1.heap.size, 0, none⟩ = some (.int .i64 za) := by rw [Ba_t24.cell]; rfl
              have qBa1 : w6.cell? ⟨w1.heap.size, 1, none⟩ = some (.slice (some ⟨ebE, eoE, none⟩) la.length ca) := by rw [Ba_t24.cell]; rfl
              have qE0 : w6.cell? ⟨ebE, eoE + k * 4, none⟩ = some (.string la[k].k) := ((a_t24.rd'.2.2.2).fixV rfl hlt).1
              have qE1 : w6.cell? ⟨ebE, eoE + k * 4 + 1, none⟩ = some (.int .i64 la[k].n) := ((a_t24.rd'.2.2.2).fixV rfl hlt).2.1
              have qE2 : w6.cell? ⟨ebE, eoE + k * 4 + 2, none⟩ = some (.int .i64 la[k].f) := ((a_t24.rd'.2.2.2).fixV rfl hlt).2.2.1
              have qE3 : w6.cell? ⟨ebE, eoE + k * 4 + 3, none⟩ = some (.int .i64 la[k].t) := ((a_t24.rd'.2.2.2).fixV rfl hlt).2.2.2
              go_wp2
              go_roundw
              case rel => exact ⟨k + 1, by omega, by go_num, lw0_t25⟩
              case measure => simp [intOf]; omega
            · have hd1 : (la[k].t == 0) = false := by simp; exact h0
              have qBa0 : wr.cell? ⟨w1.heap.size, 0, none⟩ = some (.int .i64 za) := by rw [Ba_t12.cell]; rfl
              have qBa1 : wr.cell? ⟨w1.heap.size, 1, none⟩ = some (.slice (some ⟨ebE, eoE, none⟩) la.length ca) := by rw [Ba_t12.cell]; rfl
              have qE0 : wr.cell? ⟨ebE, eoE + k * 4, none⟩ = some (.string la[k].k) := ((a_t12.rd'.2.2.2).fixV rfl hlt).1
              have qE1 : wr.cell? ⟨ebE, eoE + k * 4 + 1, none⟩ = some (.int .i64 la[k].n) := ((a_t12.rd'.2.2.2).fixV rfl hlt).2.1
              have qE2 : wr.cell? ⟨ebE, eoE + k * 4 + 2, none⟩ = some (.int .i64 la[k].f) := ((a_t12.rd'.2.2.2).fixV rfl hlt).2.2.1
              have qE3 : wr.cell? ⟨ebE, eoE + k * 4 + 3, none⟩ = some (.int .i64 la[k].t) := ((a_t12.rd'.2.2.2).fixV rfl hlt).2.2.2
              go_wp2
              go_roundw
              case rel => exact ⟨k + 1, by omega, by go_num, lw0_t13⟩
              case measure => simp [intOf]; omega
      · have hkI : decide ((k : Int) < (la.length : Int)) = false := decide_eq_false (by omega)
        have qBa0 : wr.cell? ⟨w1.heap.size, 0, none⟩ = some (.int .i64 za) := by rw [Ba_t10.cell]; rfl
        have qBa1 : wr.cell? ⟨w1.heap.size, 1, none⟩ = some (.slice ada la.length ca) := by rw [Ba_t10.cell]; rfl
        go_wp2
        go_ret
        exact ⟨rfl, hw_t10⟩

set_option maxRecDepth 100000 in
theorem lifted (os : Os) (started : os.Started) (H : Type) (enc : TypeId × Value → H) :
    ReturnsInHanded {} Try.checked os 19 .any (Rows.fnVersKeysSpec.pre6 enc Try.prog Try.f19 Rows.fnVersKeysRow.domain false) (Rows.fnVersKeysSpec.post enc Try.prog Try.f19 false true false false) := by
  refine returnsInHanded_of_change (C := Try.checked) Whole.own started (by kernel_rfl) Try.func19
    (ChangeSpec.witness6 (enc := enc) (C := Try.checked) false ⟨#[], #[.slice none 0 0], []⟩ 8 (by kernel_rfl) (by kernel_rfl) (by kernel_rfl) (by kernel_rfl)) ?_
  intro W base args ds gs before hval0 hW hcnd _
  have hval : ∀ (j : Nat) t v, Try.f19.params[j]? = some t → args[j]? = some v → Value.okWide Try.prog W .any base t v := hval0
  have hW' := hW
  obtain ⟨p, q, hA0, hV, rfl, hfz, hnd⟩ := hW
  have hA : DataW.TrodAll enc Try.prog W 0 (fun _ => true) true Try.f19.params.toList args.toList ds p := hA0
  rw [Try.params19] at hA hval
  obtain ⟨v0, vs0, d0, ds0, p0, q0, hargs, rfl, rfl, h0, r0⟩ := trodAll_cons hA
  obtain ⟨rfl, rfl, rfl⟩ := trodAll_nil r0
  obtain rfl : args = #[v0] := by cases args; simp_all
  obtain ⟨rfl, rfl⟩ := trodVars_none hV
  have k0 := h0
  have lt0 : ∀ x ∈ p0, x.block < W.heap.size := by obtain ⟨m, hm⟩ := k0; exact DataW.trod_lt m _ _ _ hm
  obtain ⟨A0, n0, c0, rfl, hc0, hm0, hr0⟩ := openBytes (hval 0 54 v0 rfl rfl) h0
  clear hA0 hval0
  refine (walk A0 n0 c0 W hc0 hm0 hr0).mono fun e W' ⟨he, bel⟩ => ?_
  subst he
  exact ⟨_, rfl, _, _, _, [], _, [], hW', trodAll_mk1 (shut_bool Try.underlying4 _), (trodAll_cons_mk (Below.trod Whole.laidOut (by kernel_rfl) (of_decide_eq_true (by kernel_rfl)) k0 bel lt0) trodAll_mk0), rfl, bel.frame _, fun h => by cases h⟩

theorem named : Try.prog.funcNamed Rows.fnVersKeysRow.func = some 19 := by kernel_rfl
theorem closed : Whole.lawFacts Try.prog 19 Try.f19 Rows.fnVersKeysSpec Rows.fnVersKeysRow = true := by kernel_rfl
theorem inst : Try.f19.isInstance Try.prog Rows.fnVersKeysRow.origin Rows.fnVersKeysRow.targs := of_decide_eq_true (by kernel_rfl)
theorem wrap : Try.f19.isWrapper Try.prog Rows.fnVersKeysRow.wrapper Rows.fnVersKeysRow.mainSum := by
  unfold Func.isWrapper; first | (rw [if_pos (by decide +kernel)]; kernel_rfl) | (rw [if_neg (by decide +kernel)]; exact ⟨rfl, rfl⟩)
theorem over : Rows.fnVersKeysRow.holds Try.pinned (OpenSpec.ofChange Rows.fnVersKeysSpec) :=
  OpenClaim.holds_of_wide 19 Try.f19 rfl rfl rfl rfl rfl rfl rfl ⟨rfl, rfl, rfl, rfl, rfl⟩ rfl rfl rfl rfl rfl named Try.func19 (Whole.facts_of closed)
    inst wrap (fun os started H enc _ => lifted os started H enc)

theorem proved : Rows.FnVersKeysSaid := over
#print axioms proved
end Go.Proofs.Ytbhdgalkedegjaa.fnVersKeys
