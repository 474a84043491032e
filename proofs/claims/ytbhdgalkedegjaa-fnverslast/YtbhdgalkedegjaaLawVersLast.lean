/- The law FnVersLast: for every code that is drawn from, the last time at which something was done to a key is the one behind which the key has what it has now, as in the model: for every input the call returns true, and the argument reads afterwards as before. No conditions. -/
import Derived.Test.YtbhdgalkedegjaaRows
import Derived.Test.YtbhdgalkedegjaaWhole
import Derived.Test.YtbhdgalkedegjaaA1
import Derived.Test.YtbhdgalkedegjaaDv6
import Derived.Test.YtbhdgalkedegjaaM2d
import Derived.Test.YtbhdgalkedegjaaS2s
import Derived.Test.YtbhdgalkedegjaaA4
import Derived.WalkKit
import Derived.ProofKit
import Derived.OpenShut
import Derived.ShutString
import Derived.ChangeOld
import Derived.Below
namespace Go.Proofs.Ytbhdgalkedegjaa.fnVersLast
open Go.ChangeShapes Go.WideShapes Go.ChangeAt Go.RowKit
open Go.ChangeMaps (open_string shut_string)
set_option linter.unusedVariables false

set_option maxRecDepth 100000 in
set_option maxHeartbeats 1000000 in
theorem walk (A0 : Option Addr) (n0 c0 : Nat) (w : World) (hc0 : n0 ≤ c0) (hm0 : c0 ≤ maxLen) (hr0 : RdB w w.heap.size A0 n0) :
    Calls Try.prog 11 #[.slice A0 n0 c0] w fun e w' => e = .returned (.bool true) ∧ Below w.heap.size w w' := by
  by_cases hn_n0 : (1048576 : Int) < (n0 : Int)
  · go_enter Try.func11, Try.ntmps11
    go_wp2
    go_ret
    exact ⟨rfl, Below.refl _ _⟩
  go_enter Try.func11, Try.ntmps11
  go_wp2_with fail
  refine (drawVersLast A0 n0 c0 w hc0 hm0 hr0).mono ?_
  rintro e w1 ⟨za, Va, la, sa, rfl, a_n, hfa, hza, hla, hsa, hb1⟩
  obtain ⟨ada, ca, rfl, ry1_a, ry2_a, ry3_a⟩ := a_n.read
  clear ry1_a ry2_a ry3_a
  have hw_t1 := hb1
  have hs_t1 := hb1.size
  have hb_t3 := below_alloc (Below.refl _ w1) (.cells #[.int .i64 za, .slice ada la.length ca] 29)
  have Ba_t3 := blkA w1 #[.int .i64 za, .slice ada la.length ca] 29
  have hz_t3 : (w1.alloc (.cells #[.int .i64 za, .slice ada la.length ca] 29)).heap.size = w1.heap.size + 1 := World.size_alloc _ _
  have a_t4 := a_n.next hb_t3
  clear a_n
  have hw_t4 := below_next hw_t1 hb_t3
  have hs_t4 := hb_t3.size
  obtain ⟨L0, HL0⟩ : ∃ L0, Hid (versLast za la sa = L0) := ⟨_, Lib.hid rfl⟩
  have qBa0 : (w1.alloc (.cells #[.int .i64 za, .slice ada la.length ca] 29)).cell? ⟨w1.heap.size, 0, none⟩ = some (.int .i64 za) := by rw [Ba_t3.cell]; rfl
  have qBa1 : (w1.alloc (.cells #[.int .i64 za, .slice ada la.length ca] 29)).cell? ⟨w1.heap.size, 1, none⟩ = some (.slice ada la.length ca) := by rw [Ba_t3.cell]; rfl
  go_wp2_with fail
  clear qBa0 qBa1
  refine (implVersLastO sa a_t4 hfa (by omega)).mono ?_
  rintro e w2 ⟨rfl, hb2⟩
  rw [HL0.out]
  have a_t6 := a_t4.next hb2
  clear a_t4
  have Ba_t6 := Ba_t3.next hb2
  clear Ba_t3
  have hw_t6 := below_next hw_t4 hb2
  have hs_t6 := hb2.size
  have qBa0 : w2.cell? ⟨w1.heap.size, 0, none⟩ = some (.int .i64 za) := by rw [Ba_t6.cell]; rfl
  have qBa1 : w2.cell? ⟨w1.heap.size, 1, none⟩ = some (.slice ada la.length ca) := by rw [Ba_t6.cell]; rfl
  go_wp2_with fail
  clear qBa0 qBa1
  refine (specVersLastO sa a_t6 hfa (by omega)).mono ?_
  rintro e w3 ⟨rfl, hb3⟩
  rw [HL0.out]
  have a_t8 := a_t6.next hb3
  clear a_t6
  have Ba_t8 := Ba_t6.next hb3
  clear Ba_t6
  have hw_t8 := below_next hw_t6 hb3
  have hs_t8 := hb3.size
  cases hc : versB za la
  · have qBa0 : w3.cell? ⟨w1.heap.size, 0, none⟩ = some (.int .i64 za) := by rw [Ba_t8.cell]; rfl
    have qBa1 : w3.cell? ⟨w1.heap.size, 1, none⟩ = some (.slice ada la.length ca) := by rw [Ba_t8.cell]; rfl
    go_wp2_with fail
    clear qBa0 qBa1
    refine (specVersOkO a_t8 hfa).mono ?_
    rintro e w4 ⟨rfl, hb4⟩
    rw [hc]
    have a_t10 := a_t8.next hb4
    clear a_t8
    have Ba_t10 := Ba_t8.next hb4
    clear Ba_t8
    have hw_t10 := below_next hw_t8 hb4
    have hs_t10 := hb4.size
    have e : L0 = 0 := HL0.out.symm.trans (by unfold versLast; rw [hc]; rfl)
    subst e
    have qBa0 : w4.cell? ⟨w1.heap.size, 0, none⟩ = some (.int .i64 za) := by rw [Ba_t10.cell]; rfl
    have qBa1 : w4.cell? ⟨w1.heap.size, 1, none⟩ = some (.slice ada la.length ca) := by rw [Ba_t10.cell]; rfl
    go_wp2
    go_ret
    exact ⟨rfl, hw_t10⟩
  · have qBa0 : w3.cell? ⟨w1.heap.size, 0, none⟩ = some (.int .i64 za) := by rw [Ba_t8.cell]; rfl
    have qBa1 : w3.cell? ⟨w1.heap.size, 1, none⟩ = some (.slice ada la.length ca) := by rw [Ba_t8.cell]; rfl
    go_wp2_with fail
    clear qBa0 qBa1
    refine (specVersOkO a_t8 hfa).mono ?_
    rintro e w4 ⟨rfl, hb4⟩
    rw [hc]
    have a_t10 := a_t8.next hb4
    clear a_t8
    have Ba_t10 := Ba_t8.next hb4
    clear Ba_t8
    have hw_t10 := below_next hw_t8 hb4
    have hs_t10 := hb4.size
    have hP := versB_iff.1 hc
    have HLL : Hid (lastL la sa = L0) := Lib.hid (by have h := HL0.out; unfold versLast at h; rw [hc, if_pos rfl] at h; exact h)
    have hL0 : 0 ≤ L0 := by rw [← HLL.out]; exact last_0 la sa
    have hL1 : L0 ≤ za := by rw [← HLL.out]; exact last_now hP sa
    have hz1 := hP.now
    have HSAME : Hid (∀ k, L0 ≤ k → k ≤ za → getB (versAt za la k) sa = getB (versAt za la za) sa ∧ getN (versAt za la k) sa = getN (versAt za la za) sa) := Lib.hid fun k h1 h2 => last_get hP sa (by rw [HLL.out]; exact h1) h2
    clear hP
    obtain ⟨p, rfl⟩ : ∃ p : Nat, L0 = p := ⟨L0.toNat, by omega⟩
    have hal := versAt_length za la za
    have hfr := fitR_versAt (z := za) hfa za
    obtain ⟨R1, HR1⟩ : ∃ R1, Hid (versAt za la za = R1) := ⟨_, Lib.hid rfl⟩
    rw [HR1.out] at hal hfr HSAME
    obtain ⟨GN, GB, HG⟩ : ∃ GN GB, Hid (getN R1 sa = GN ∧ getB R1 sa = GB) := ⟨_, _, Lib.hid ⟨rfl, rfl⟩⟩
    have qBa0 : w4.cell? ⟨w1.heap.size, 0, none⟩ = some (.int .i64 za) := by rw [Ba_t10.cell]; rfl
    have qBa1 : w4.cell? ⟨w1.heap.size, 1, none⟩ = some (.slice ada la.length ca) := by rw [Ba_t10.cell]; rfl
    go_wp2_with fail
    clear qBa0 qBa1
    refine (implVersAtO za a_t10 hfa (by omega)).mono ?_
    rw [HR1.out]
    rintro e w5 ⟨Vr, rfl, r_n, hb5⟩
    obtain ⟨adr, cr, rfl, ry1_r, ry2_r, ry3_r⟩ := r_n.read
    clear ry1_r ry2_r ry3_r
    have a_t12 := a_t10.next hb5
    clear a_t10
    have Ba_t12 := Ba_t10.next hb5
    clear Ba_t10
    have hw_t12 := below_next hw_t10 hb5
    have hs_t12 := hb5.size
    have qBa0 : w5.cell? ⟨w1.heap.size, 0, none⟩ = some (.int .i64 za) := by rw [Ba_t12.cell]; rfl
    have qBa1 : w5.cell? ⟨w1.heap.size, 1, none⟩ = some (.slice ada la.length ca) := by rw [Ba_t12.cell]; rfl
    go_wp2_with fail
    clear qBa0 qBa1
    refine (implGetO sa r_n hfr (by omega)).mono ?_
    rintro e w6 ⟨rfl, hb6⟩
    rw [HG.out.1, HG.out.2]
    have a_t14 := a_t12.next hb6
    clear a_t12
    have r_t14 := r_n.next hb6
    clear r_n
    have Ba_t14 := Ba_t12.next hb6
    clear Ba_t12
    have hw_t14 := below_next hw_t12 hb6
    have hs_t14 := hb6.size
    clear r_t14
    have qBa0 : w6.cell? ⟨w1.heap.size, 0, none⟩ = some (.int .i64 za) := by rw [Ba_t14.cell]; rfl
    have qBa1 : w6.cell? ⟨w1.heap.size, 1, none⟩ = some (.slice ada la.length ca) := by rw [Ba_t14.cell]; rfl
    go_wp2
    clear qBa0 qBa1
    go_loopw [8] (fun i W => ∃ k : Nat, p ≤ k ∧ (k : Int) ≤ za + 1 ∧ i = .int .i64 k ∧ Below w6.heap.size w6 W) (fun i _ => (za + 1 - intOf i).toNat)
    case atStart => exact ⟨p, Nat.le_refl _, by omega, rfl, Below.refl _ _⟩
    case round =>
      obtain ⟨k, hpk, hk, rfl, hbl⟩ := hrel
      have lq0 := hbl
      have a_t16 := a_t14.next hbl
      clear a_t14
      have Ba_t16 := Ba_t14.next hbl
      clear Ba_t14
      have hw_t16 := below_next hw_t14 hbl
      have hs_t16 := hbl.size
      by_cases hlt : (k : Int) ≤ za
      · have hdk : decide ((k : Int) ≤ za) = true := decide_eq_true hlt
        have HS := Lib.hid (HSAME.out (k : Int) (by omega) hlt)
        have hal2 := versAt_length za la (k : Int)
        have hfr2 := fitR_versAt (z := za) hfa (k : Int)
        obtain ⟨R2, HR2⟩ : ∃ R2, Hid (versAt za la (k : Int) = R2) := ⟨_, Lib.hid rfl⟩
        rw [HR2.out] at hal2 hfr2 HS
        have HG2 : Hid (getN R2 sa = GN ∧ getB R2 sa = GB) := Lib.hid ⟨HS.out.2.trans HG.out.1, HS.out.1.trans HG.out.2⟩
        have qBa0 : wr.cell? ⟨w1.heap.size, 0, none⟩ = some (.int .i64 za) := by rw [Ba_t16.cell]; rfl
        have qBa1 : wr.cell? ⟨w1.heap.size, 1, none⟩ = some (.slice ada la.length ca) := by rw [Ba_t16.cell]; rfl
        go_wp2_with fail
        clear qBa0 qBa1
        refine (implVersAtO (k : Int) a_t16 hfa (by omega)).mono ?_
        rw [HR2.out]
        rintro e w7 ⟨Vq, rfl, q_n, hb7⟩
        obtain ⟨adq, cq, rfl, ry1_q, ry2_q, ry3_q⟩ := q_n.read
        clear ry1_q ry2_q ry3_q
        have a_t18 := a_t16.next hb7
        clear a_t16
        have Ba_t18 := Ba_t16.next hb7
        clear Ba_t16
        have hw_t18 := below_next hw_t16 hb7
        have hs_t18 := hb7.size
        have lw0_t19 := below_next lq0 hb7
        have qBa0 : w7.cell? ⟨w1.heap.size, 0, none⟩ = some (.int .i64 za) := by rw [Ba_t18.cell]; rfl
        have qBa1 : w7.cell? ⟨w1.heap.size, 1, none⟩ = some (.slice ada la.length ca) := by rw [Ba_t18.cell]; rfl
        go_wp2_with fail
        clear qBa0 qBa1
        refine (implGetO sa q_n hfr2 (by omega)).mono ?_
        rintro e w8 ⟨rfl, hb8⟩
        rw [HG2.out.1, HG2.out.2]
        have a_t20 := a_t18.next hb8
        clear a_t18
        have q_t20 := q_n.next hb8
        clear q_n
        have Ba_t20 := Ba_t18.next hb8
        clear Ba_t18
        have hw_t20 := below_next hw_t18 hb8
        have hs_t20 := hb8.size
        have lw0_t21 := below_next lw0_t19 hb8
        have qBa0 : w8.cell? ⟨w1.heap.size, 0, none⟩ = some (.int .i64 za) := by rw [Ba_t20.cell]; rfl
        have qBa1 : w8.cell? ⟨w1.heap.size, 1, none⟩ = some (.slice ada la.length ca) := by rw [Ba_t20.cell]; rfl
        go_wp2
        go_roundw
        case rel => exact ⟨k + 1, by omega, by omega, by go_num, lw0_t21⟩
        case measure => simp [intOf]; omega
      · have hdk : decide ((k : Int) ≤ za) = false := decide_eq_false hlt
        have hdp : decide ((p : Int) ≤ za) = true := decide_eq_true hL1
        have hd0 : decide ((0 : Int) ≤ (p : Int)) = true := decide_eq_true hL0
        have qBa0 : wr.cell? ⟨w1.heap.size, 0, none⟩ = some (.int .i64 za) := by rw [Ba_t16.cell]; rfl
        have qBa1 : wr.cell? ⟨w1.heap.size, 1, none⟩ = some (.slice ada la.length ca) := by rw [Ba_t16.cell]; rfl
        go_wp2
        go_ret
        exact ⟨rfl, hw_t16⟩

set_option maxRecDepth 100000 in
theorem lifted (os : Os) (started : os.Started) (H : Type) (enc : TypeId × Value → H) :
    ReturnsInHanded {} Try.checked os 11 .any (Rows.fnVersLastSpec.pre6 enc Try.prog Try.f11 Rows.fnVersLastRow.domain false) (Rows.fnVersLastSpec.post enc Try.prog Try.f11 false true false false) := by
  refine returnsInHanded_of_change (C := Try.checked) Whole.own started (by kernel_rfl) Try.func11
    (ChangeSpec.witness6 (enc := enc) (C := Try.checked) false ⟨#[], #[.slice none 0 0], []⟩ 8 (by kernel_rfl) (by kernel_rfl) (by kernel_rfl) (by kernel_rfl)) ?_
  intro W base args ds gs before hval0 hW hcnd _
  have hval : ∀ (j : Nat) t v, Try.f11.params[j]? = some t → args[j]? = some v → Value.okWide Try.prog W .any base t v := hval0
  have hW' := hW
  obtain ⟨p, q, hA0, hV, rfl, hfz, hnd⟩ := hW
  have hA : DataW.TrodAll enc Try.prog W 0 (fun _ => true) true Try.f11.params.toList args.toList ds p := hA0
  rw [Try.params11] at hA hval
  obtain ⟨v0, vs0, d0, ds0, p0, q0, hargs, rfl, rfl, h0, r0⟩ := trodAll_cons hA
  obtain ⟨rfl, rfl, rfl⟩ := trodAll_nil r0
  obtain rfl : args = #[v0] := by cases args; simp_all
  obtain ⟨rfl, rfl⟩ := trodVars_none hV
  have k0 := h0
  have lt0 : ∀ x ∈ p0, x.block < W.heap.size := by obtain ⟨m, hm⟩ := k0; exact DataW.trod_lt m _ _ _ hm
  obtain ⟨A0, n0, c0, rfl, hc0, hm0, hr0⟩ := openBytes (hval 0 54 v0 rfl rfl) h0
  clear hA0 hval0
  refine (walk A0 n0 c0 W hc0 hm0 hr0).mono fun e W' ⟨he, bel⟩ => ?_
  subst he
  exact ⟨_, rfl, _, _, _, [], _, [], hW', trodAll_mk1 (shut_bool Try.underlying4 _), (trodAll_cons_mk (Below.trod Whole.laidOut (by kernel_rfl) (of_decide_eq_true (by kernel_rfl)) k0 bel lt0) trodAll_mk0), rfl, bel.frame _, fun h => by cases h⟩

theorem named : Try.prog.funcNamed Rows.fnVersLastRow.func = some 11 := by kernel_rfl
theorem closed : Whole.lawFacts Try.prog 11 Try.f11 Rows.fnVersLastSpec Rows.fnVersLastRow = true := by kernel_rfl
theorem inst : Try.f11.isInstance Try.prog Rows.fnVersLastRow.origin Rows.fnVersLastRow.targs := of_decide_eq_true (by kernel_rfl)
theorem wrap : Try.f11.isWrapper Try.prog Rows.fnVersLastRow.wrapper Rows.fnVersLastRow.mainSum := by
  unfold Func.isWrapper; first | (rw [if_pos (by decide +kernel)]; kernel_rfl) | (rw [if_neg (by decide +kernel)]; exact ⟨rfl, rfl⟩)
theorem over : Rows.fnVersLastRow.holds Try.pinned (OpenSpec.ofChange Rows.fnVersLastSpec) :=
  OpenClaim.holds_of_wide 11 Try.f11 rfl rfl rfl rfl rfl rfl rfl ⟨rfl, rfl, rfl, rfl, rfl⟩ rfl rfl rfl rfl rfl named Try.func11 (Whole.facts_of closed)
    inst wrap (fun os started H enc _ => lifted os started H enc)

theorem proved : Rows.FnVersLastSaid := over
#print axioms proved
end Go.Proofs.Ytbhdgalkedegjaa.fnVersLast
