/- The law FnVersBent: for every code that is drawn from, of a history that is not right nothing stands at any time, and nothing can be done, as in the model: for every input the call returns true, and the argument reads afterwards as before. No conditions. -/
import Derived.Test.YtbhdgalkedegjaaRows
import Derived.Test.YtbhdgalkedegjaaWhole
import Derived.Test.YtbhdgalkedegjaaA1
import Derived.Test.YtbhdgalkedegjaaDv5
import Derived.Test.YtbhdgalkedegjaaS2s
import Derived.Test.YtbhdgalkedegjaaA4
import Derived.WalkKit
import Derived.ProofKit
import Derived.OpenShut
import Derived.ShutString
import Derived.ChangeOld
import Derived.Below
namespace Go.Proofs.Ytbhdgalkedegjaa.fnVersBent
open Go.ChangeShapes Go.WideShapes Go.ChangeAt Go.RowKit
open Go.ChangeMaps (open_string shut_string)
set_option linter.unusedVariables false

set_option maxRecDepth 100000 in
set_option maxHeartbeats 1000000 in
theorem walk (A0 : Option Addr) (n0 c0 : Nat) (w : World) (hc0 : n0 ≤ c0) (hm0 : c0 ≤ maxLen) (hr0 : RdB w w.heap.size A0 n0) :
    Calls Try.prog 18 #[.slice A0 n0 c0] w fun e w' => e = .returned (.bool true) ∧ Below w.heap.size w w' := by
  by_cases hn_n0 : (1048576 : Int) < (n0 : Int)
  · go_enter Try.func18, Try.ntmps18
    go_wp2
    go_ret
    exact ⟨rfl, Below.refl _ _⟩
  go_enter Try.func18, Try.ntmps18
  go_wp2_with fail
  refine (drawVersAt A0 n0 c0 w hc0 hm0 hr0).mono ?_
  rintro e w1 ⟨za, Va, la, ta, rfl, a_n, hfa, hza, hla, hta, hb1⟩
  obtain ⟨ba, na, ca, rfl⟩ := a_n.slice
  have hw_t1 := hb1
  have hs_t1 := hb1.size
  have hb_t2 := below_alloc (Below.refl _ w1) (.cells #[.int .i64 za, .slice ba na ca] 29)
  have Ba_t2 := blkA w1 #[.int .i64 za, .slice ba na ca] 29
  have hz_t2 : (w1.alloc (.cells #[.int .i64 za, .slice ba na ca] 29)).heap.size = w1.heap.size + 1 := World.size_alloc _ _
  have a_t3 := a_n.next hb_t2
  clear a_n
  have hw_t3 := below_next hw_t1 hb_t2
  have hs_t3 := hb_t2.size
  cases hv : versB za la
  · have qBa0 : (w1.alloc (.cells #[.int .i64 za, .slice ba na ca] 29)).cell? ⟨w1.heap.size, 0, none⟩ = some (.int .i64 za) := by rw [Ba_t2.cell]; rfl
    have qBa1 : (w1.alloc (.cells #[.int .i64 za, .slice ba na ca] 29)).cell? ⟨w1.heap.size, 1, none⟩ = some (.slice ba na ca) := by rw [Ba_t2.cell]; rfl
    go_wp2_with fail
    clear qBa0 qBa1
    refine (implVersOkO a_t3 hfa).mono ?_
    rintro e w2 ⟨rfl, hb2⟩
    rw [hv]
    have a_t4 := a_t3.next hb2
    clear a_t3
    have Ba_t4 := Ba_t2.next hb2
    clear Ba_t2
    have hw_t4 := below_next hw_t3 hb2
    have hs_t4 := hb2.size
    have qBa0 : w2.cell? ⟨w1.heap.size, 0, none⟩ = some (.int .i64 za) := by rw [Ba_t4.cell]; rfl
    have qBa1 : w2.cell? ⟨w1.heap.size, 1, none⟩ = some (.slice ba na ca) := by rw [Ba_t4.cell]; rfl
    go_wp2_with fail
    clear qBa0 qBa1
    refine (specVersOkO a_t4 hfa).mono ?_
    rintro e w3 ⟨rfl, hb3⟩
    rw [hv]
    have a_t5 := a_t4.next hb3
    clear a_t4
    have Ba_t5 := Ba_t4.next hb3
    clear Ba_t4
    have hw_t5 := below_next hw_t4 hb3
    have hs_t5 := hb3.size
    have HB := Lib.hid (do_bad (ws := []) hv)
    have qBa0 : w3.cell? ⟨w1.heap.size, 0, none⟩ = some (.int .i64 za) := by rw [Ba_t5.cell]; rfl
    have qBa1 : w3.cell? ⟨w1.heap.size, 1, none⟩ = some (.slice ba na ca) := by rw [Ba_t5.cell]; rfl
    go_wp2_with fail
    clear qBa0 qBa1
    refine (implVersDoO a_t5 (OwnG.nil (α := X) _ 0) hfa (fun r hr => by simp at hr) (by omega) (by simp)).mono ?_
    rw [HB.out.1, HB.out.2.1, HB.out.2.2]
    rintro e w4 ⟨Vx, rfl, x_n, hb4⟩
    obtain ⟨bx, nx, cx, rfl⟩ := x_n.slice
    have a_t6 := a_t5.next hb4
    clear a_t5
    have Ba_t6 := Ba_t5.next hb4
    clear Ba_t5
    have hw_t6 := below_next hw_t5 hb4
    have hs_t6 := hb4.size
    have hb_t7 := below_alloc (Below.refl _ w4) (.cells #[.int .i64 0, .slice bx nx cx] 29)
    have Bx_t7 := blkA w4 #[.int .i64 0, .slice bx nx cx] 29
    have hz_t7 : (w4.alloc (.cells #[.int .i64 0, .slice bx nx cx] 29)).heap.size = w4.heap.size + 1 := World.size_alloc _ _
    have a_t8 := a_t6.next hb_t7
    clear a_t6
    have x_t8 := x_n.next hb_t7
    clear x_n
    have Ba_t8 := Ba_t6.next hb_t7
    clear Ba_t6
    have hw_t8 := below_next hw_t6 hb_t7
    have hs_t8 := hb_t7.size
    have HA := Lib.hid (show versAt za la ta = [] from by unfold versAt; rw [hv]; rfl)
    have qBa0 : (w4.alloc (.cells #[.int .i64 0, .slice bx nx cx] 29)).cell? ⟨w1.heap.size, 0, none⟩ = some (.int .i64 za) := by rw [Ba_t8.cell]; rfl
    have qBa1 : (w4.alloc (.cells #[.int .i64 0, .slice bx nx cx] 29)).cell? ⟨w1.heap.size, 1, none⟩ = some (.slice ba na ca) := by rw [Ba_t8.cell]; rfl
    have qBx0 : (w4.alloc (.cells #[.int .i64 0, .slice bx nx cx] 29)).cell? ⟨w4.heap.size, 0, none⟩ = some (.int .i64 0) := by rw [Bx_t7.cell]; rfl
    have qBx1 : (w4.alloc (.cells #[.int .i64 0, .slice bx nx cx] 29)).cell? ⟨w4.heap.size, 1, none⟩ = some (.slice bx nx cx) := by rw [Bx_t7.cell]; rfl
    go_wp2_with fail
    clear qBa0 qBa1 qBx0 qBx1
    refine (implVersAtO ta a_t8 hfa (by omega)).mono ?_
    rw [HA.out]
    rintro e w5 ⟨Vr, rfl, r_n, hb5⟩
    have a_t9 := a_t8.next hb5
    clear a_t8
    have x_t9 := x_t8.next hb5
    clear x_t8
    have Ba_t9 := Ba_t8.next hb5
    clear Ba_t8
    have Bx_t9 := Bx_t7.next hb5
    clear Bx_t7
    have hw_t9 := below_next hw_t8 hb5
    have hs_t9 := hb5.size
    obtain ⟨Ar, cr, rfl, hr1, hr2, hr3⟩ := r_n.read
    clear hr1 hr2 hr3
    clear r_n
    have HLA := Lib.hid (show versLast za la ⟨#[97]⟩ = 0 from by unfold versLast; rw [hv]; rfl)
    have qBa0 : w5.cell? ⟨w1.heap.size, 0, none⟩ = some (.int .i64 za) := by rw [Ba_t9.cell]; rfl
    have qBa1 : w5.cell? ⟨w1.heap.size, 1, none⟩ = some (.slice ba na ca) := by rw [Ba_t9.cell]; rfl
    have qBx0 : w5.cell? ⟨w4.heap.size, 0, none⟩ = some (.int .i64 0) := by rw [Bx_t9.cell]; rfl
    have qBx1 : w5.cell? ⟨w4.heap.size, 1, none⟩ = some (.slice bx nx cx) := by rw [Bx_t9.cell]; rfl
    go_wp2_with fail
    clear qBa0 qBa1 qBx0 qBx1
    refine (implVersLastO ⟨#[97]⟩ a_t9 hfa (by omega)).mono ?_
    rintro e w6 ⟨rfl, hb6⟩
    rw [HLA.out]
    have a_t10 := a_t9.next hb6
    clear a_t9
    have x_t10 := x_t9.next hb6
    clear x_t9
    have Ba_t10 := Ba_t9.next hb6
    clear Ba_t9
    have Bx_t10 := Bx_t9.next hb6
    clear Bx_t9
    have hw_t10 := below_next hw_t9 hb6
    have hs_t10 := hb6.size
    have qBa0 : w6.cell? ⟨w1.heap.size, 0, none⟩ = some (.int .i64 za) := by rw [Ba_t10.cell]; rfl
    have qBa1 : w6.cell? ⟨w1.heap.size, 1, none⟩ = some (.slice ba na ca) := by rw [Ba_t10.cell]; rfl
    have qBx0 : w6.cell? ⟨w4.heap.size, 0, none⟩ = some (.int .i64 0) := by rw [Bx_t10.cell]; rfl
    have qBx1 : w6.cell? ⟨w4.heap.size, 1, none⟩ = some (.slice bx nx cx) := by rw [Bx_t10.cell]; rfl
    go_wp2_with fail
    clear qBa0 qBa1 qBx0 qBx1
    refine (implSameO x_t10 (OwnG.nil (α := V) _ 0) (by simp) (by simp)).mono ?_
    rintro e w7 ⟨rfl, hb7⟩
    rw [sameB_refl]
    have a_t11 := a_t10.next hb7
    clear a_t10
    have x_t11 := x_t10.next hb7
    clear x_t10
    have Ba_t11 := Ba_t10.next hb7
    clear Ba_t10
    have Bx_t11 := Bx_t10.next hb7
    clear Bx_t10
    have hw_t11 := below_next hw_t10 hb7
    have hs_t11 := hb7.size
    have HT := Lib.hid (show trimZ za la = 0 ∧ trimL za la ta = [] from by unfold trimZ trimL; rw [hv]; exact ⟨rfl, rfl⟩)
    have qBa0 : w7.cell? ⟨w1.heap.size, 0, none⟩ = some (.int .i64 za) := by rw [Ba_t11.cell]; rfl
    have qBa1 : w7.cell? ⟨w1.heap.size, 1, none⟩ = some (.slice ba na ca) := by rw [Ba_t11.cell]; rfl
    have qBx0 : w7.cell? ⟨w4.heap.size, 0, none⟩ = some (.int .i64 0) := by rw [Bx_t11.cell]; rfl
    have qBx1 : w7.cell? ⟨w4.heap.size, 1, none⟩ = some (.slice bx nx cx) := by rw [Bx_t11.cell]; rfl
    go_wp2_with fail
    clear qBa0 qBa1 qBx0 qBx1
    refine (implVersTrimO ta a_t11 hfa (by omega)).mono ?_
    rw [HT.out.1, HT.out.2]
    rintro e w8 ⟨Vu, rfl, u_n, hb8⟩
    obtain ⟨bu, nu, cu, rfl⟩ := u_n.slice
    have a_t12 := a_t11.next hb8
    clear a_t11
    have x_t12 := x_t11.next hb8
    clear x_t11
    have Ba_t12 := Ba_t11.next hb8
    clear Ba_t11
    have Bx_t12 := Bx_t11.next hb8
    clear Bx_t11
    have hw_t12 := below_next hw_t11 hb8
    have hs_t12 := hb8.size
    have qBa0 : w8.cell? ⟨w1.heap.size, 0, none⟩ = some (.int .i64 za) := by rw [Ba_t12.cell]; rfl
    have qBa1 : w8.cell? ⟨w1.heap.size, 1, none⟩ = some (.slice ba na ca) := by rw [Ba_t12.cell]; rfl
    have qBx0 : w8.cell? ⟨w4.heap.size, 0, none⟩ = some (.int .i64 0) := by rw [Bx_t12.cell]; rfl
    have qBx1 : w8.cell? ⟨w4.heap.size, 1, none⟩ = some (.slice bx nx cx) := by rw [Bx_t12.cell]; rfl
    go_wp2_with fail
    clear qBa0 qBa1 qBx0 qBx1
    refine (implSameO u_n (OwnG.nil (α := V) _ 0) (by simp) (by simp)).mono ?_
    rintro e w9 ⟨rfl, hb9⟩
    rw [sameB_refl]
    have a_t13 := a_t12.next hb9
    clear a_t12
    have x_t13 := x_t12.next hb9
    clear x_t12
    have u_t13 := u_n.next hb9
    clear u_n
    have Ba_t13 := Ba_t12.next hb9
    clear Ba_t12
    have Bx_t13 := Bx_t12.next hb9
    clear Bx_t12
    have hw_t13 := below_next hw_t12 hb9
    have hs_t13 := hb9.size
    have qBa0 : w9.cell? ⟨w1.heap.size, 0, none⟩ = some (.int .i64 za) := by rw [Ba_t13.cell]; rfl
    have qBa1 : w9.cell? ⟨w1.heap.size, 1, none⟩ = some (.slice ba na ca) := by rw [Ba_t13.cell]; rfl
    have qBx0 : w9.cell? ⟨w4.heap.size, 0, none⟩ = some (.int .i64 0) := by rw [Bx_t13.cell]; rfl
    have qBx1 : w9.cell? ⟨w4.heap.size, 1, none⟩ = some (.slice bx nx cx) := by rw [Bx_t13.cell]; rfl
    go_wp2
    go_ret
    exact ⟨rfl, hw_t13⟩
  · have qBa0 : (w1.alloc (.cells #[.int .i64 za, .slice ba na ca] 29)).cell? ⟨w1.heap.size, 0, none⟩ = some (.int .i64 za) := by rw [Ba_t2.cell]; rfl
    have qBa1 : (w1.alloc (.cells #[.int .i64 za, .slice ba na ca] 29)).cell? ⟨w1.heap.size, 1, none⟩ = some (.slice ba na ca) := by rw [Ba_t2.cell]; rfl
    go_wp2_with fail
    clear qBa0 qBa1
    refine (implVersOkO a_t3 hfa).mono ?_
    rintro e w2 ⟨rfl, hb2⟩
    rw [hv]
    have a_t4 := a_t3.next hb2
    clear a_t3
    have Ba_t4 := Ba_t2.next hb2
    clear Ba_t2
    have hw_t4 := below_next hw_t3 hb2
    have hs_t4 := hb2.size
    have qBa0 : w2.cell? ⟨w1.heap.size, 0, none⟩ = some (.int .i64 za) := by rw [Ba_t4.cell]; rfl
    have qBa1 : w2.cell? ⟨w1.heap.size, 1, none⟩ = some (.slice ba na ca) := by rw [Ba_t4.cell]; rfl
    go_wp2_with fail
    clear qBa0 qBa1
    refine (specVersOkO a_t4 hfa).mono ?_
    rintro e w3 ⟨rfl, hb3⟩
    rw [hv]
    have a_t5 := a_t4.next hb3
    clear a_t4
    have Ba_t5 := Ba_t4.next hb3
    clear Ba_t4
    have hw_t5 := below_next hw_t4 hb3
    have hs_t5 := hb3.size
    have qBa0 : w3.cell? ⟨w1.heap.size, 0, none⟩ = some (.int .i64 za) := by rw [Ba_t5.cell]; rfl
    have qBa1 : w3.cell? ⟨w1.heap.size, 1, none⟩ = some (.slice ba na ca) := by rw [Ba_t5.cell]; rfl
    go_wp2_with fail
    clear qBa0 qBa1
    refine (specVersOkO a_t5 hfa).mono ?_
    rintro e w4 ⟨rfl, hb4⟩
    rw [hv]
    have a_t6 := a_t5.next hb4
    clear a_t5
    have Ba_t6 := Ba_t5.next hb4
    clear Ba_t5
    have hw_t6 := below_next hw_t5 hb4
    have hs_t6 := hb4.size
    have qBa0 : w4.cell? ⟨w1.heap.size, 0, none⟩ = some (.int .i64 za) := by rw [Ba_t6.cell]; rfl
    have qBa1 : w4.cell? ⟨w1.heap.size, 1, none⟩ = some (.slice ba na ca) := by rw [Ba_t6.cell]; rfl
    go_wp2
    go_ret
    exact ⟨rfl, hw_t6⟩

set_option maxRecDepth 100000 in
theorem lifted (os : Os) (started : os.Started) (H : Type) (enc : TypeId × Value → H) :
    ReturnsInHanded {} Try.checked os 18 .any (Rows.fnVersBentSpec.pre6 enc Try.prog Try.f18 Rows.fnVersBentRow.domain false) (Rows.fnVersBentSpec.post enc Try.prog Try.f18 false true false false) := by
  refine returnsInHanded_of_change (C := Try.checked) Whole.own started (by kernel_rfl) Try.func18
    (ChangeSpec.witness6 (enc := enc) (C := Try.checked) false ⟨#[], #[.slice none 0 0], []⟩ 8 (by kernel_rfl) (by kernel_rfl) (by kernel_rfl) (by kernel_rfl)) ?_
  intro W base args ds gs before hval0 hW hcnd _
  have hval : ∀ (j : Nat) t v, Try.f18.params[j]? = some t → args[j]? = some v → Value.okWide Try.prog W .any base t v := hval0
  have hW' := hW
  obtain ⟨p, q, hA0, hV, rfl, hfz, hnd⟩ := hW
  have hA : DataW.TrodAll enc Try.prog W 0 (fun _ => true) true Try.f18.params.toList args.toList ds p := hA0
  rw [Try.params18] at hA hval
  obtain ⟨v0, vs0, d0, ds0, p0, q0, hargs, rfl, rfl, h0, r0⟩ := trodAll_cons hA
  obtain ⟨rfl, rfl, rfl⟩ := trodAll_nil r0
  obtain rfl : args = #[v0] := by cases args; simp_all
  obtain ⟨rfl, rfl⟩ := trodVars_none hV
  have k0 := h0
  have lt0 : ∀ x ∈ p0, x.block < W.heap.size := by obtain ⟨m, hm⟩ := k0; exact DataW.trod_lt m _ _ _ hm
  obtain ⟨A0, n0, c0, rfl, hc0, hm0, hr0⟩ := openBytes (hval 0 54 v0 rfl rfl) h0
  clear hA0 hval0
  refine (walk A0 n0 c0 W hc0 hm0 hr0).mono fun e W' ⟨he, bel⟩ => ?_
  subst he
  exact ⟨_, rfl, _, _, _, [], _, [], hW', trodAll_mk1 (shut_bool Try.underlying4 _), (trodAll_cons_mk (Below.trod Whole.laidOut (by kernel_rfl) (of_decide_eq_true (by kernel_rfl)) k0 bel lt0) trodAll_mk0), rfl, bel.frame _, fun h => by cases h⟩

theorem named : Try.prog.funcNamed Rows.fnVersBentRow.func = some 18 := by kernel_rfl
theorem closed : Whole.lawFacts Try.prog 18 Try.f18 Rows.fnVersBentSpec Rows.fnVersBentRow = true := by kernel_rfl
theorem inst : Try.f18.isInstance Try.prog Rows.fnVersBentRow.origin Rows.fnVersBentRow.targs := of_decide_eq_true (by kernel_rfl)
theorem wrap : Try.f18.isWrapper Try.prog Rows.fnVersBentRow.wrapper Rows.fnVersBentRow.mainSum := by
  unfold Func.isWrapper; first | (rw [if_pos (by decide +kernel)]; kernel_rfl) | (rw [if_neg (by decide +kernel)]; exact ⟨rfl, rfl⟩)
theorem over : Rows.fnVersBentRow.holds Try.pinned (OpenSpec.ofChange Rows.fnVersBentSpec) :=
  OpenClaim.holds_of_wide 18 Try.f18 rfl rfl rfl rfl rfl rfl rfl ⟨rfl, rfl, rfl, rfl, rfl⟩ rfl rfl rfl rfl rfl named Try.func18 (Whole.facts_of closed)
    inst wrap (fun os started H enc _ => lifted os started H enc)

theorem proved : Rows.FnVersBentSaid := over
#print axioms proved
end Go.Proofs.Ytbhdgalkedegjaa.fnVersBent
