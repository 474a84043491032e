/- The law FnRowsPut: for every code, of the rows, key and number that it draws: what is put under a key is there; all other keys have what they had; put in once more nothing turns: for every input the call returns true, and the argument reads afterwards as before. No conditions. -/
import Derived.Test.YtabpepddbkipiaaRows
import Derived.Test.YtabpepddbkipiaaWhole
import Derived.Test.YtabpepddbkipiaaArgB
import Derived.Test.YtabpepddbkipiaaWp
import Derived.Test.YtabpepddbkipiaaDraw4
import Derived.WalkKit
import Derived.ProofKit
import Derived.OpenShut
import Derived.ShutString
import Derived.ChangeOld
import Derived.Below
namespace Go.Proofs.Ytabpepddbkipiaa.fnRowsPut
open Go.ChangeShapes Go.WideShapes Go.ChangeAt Go.RowKit
open Go.ChangeMaps (open_string shut_string)
set_option linter.unusedVariables false

set_option maxRecDepth 100000 in
set_option maxHeartbeats 1000000 in
theorem walk (A0 : Option Addr) (n0 c0 : Nat) (w : World) (hc0 : n0 ≤ c0) (hm0 : c0 ≤ maxLen) (hr0 : RdB w w.heap.size A0 n0) :
    Calls Try.prog 11 #[.slice A0 n0 c0] w fun e w' => e = .returned (.bool true) ∧ Below w.heap.size w w' := by
  by_cases hn : (1048576 : Int) < (n0 : Int)
  · go_enter Try.func11, Try.ntmps11
    go_wp2
    go_ret
    exact ⟨rfl, Below.refl _ _⟩
  go_enter Try.func11, Try.ntmps11
  go_wp2_with fail
  refine (drawPut A0 n0 c0 w hc0 hm0 hr0).mono ?_
  rintro e w1 ⟨v, l, s, z, rfl, hO1, hf, hl, hk, hb1⟩
  have hsz := (hk (s, z) (by simp)).1
  have hlv := putV_length l s z
  have hfp := hf.putV hk
  go_wp2_with fail
  refine (implPutO s z hO1 hf hk (by omega)).mono ?_
  rintro e w2 ⟨v2, rfl, hX2, hb2⟩
  have hw2 := below_next hb1 hb2
  have hO2 := hO1.next hb2
  go_wp2_with fail
  refine (specPutO s z hO2 hf hk (by omega)).mono ?_
  rintro e w3 ⟨v3, rfl, hY3, hb3⟩
  have hw3 := below_next hw2 hb3
  have hO3 := hO2.next hb3
  have hX3 := hX2.next hb3
  clear hO1 hO2 hX2
  go_wp2_with fail
  refine (wpO hX3 hY3 (by omega) (by omega)).mono ?_
  rintro e w4 ⟨rfl, hb4⟩
  rw [eqL_yes rfl]
  have hw4 := below_next hw3 hb4
  have hO4 := hO3.next hb4
  have hX4 := hX3.next hb4
  clear hO3 hX3 hY3
  go_wp2_with fail
  refine (implOkO hO4 hf (by omega)).mono ?_
  rintro e w5 ⟨rfl, hb5⟩
  have hw5 := below_next hw4 hb5
  have hO5 := hO4.next hb5
  have hX5 := hX4.next hb5
  clear hO4 hX4
  go_wp2_with fail
  refine (specOkO hO5 hf).mono ?_
  rintro e w6 ⟨rfl, hb6⟩
  have hw6 := below_next hw5 hb6
  have hO6 := hO5.next hb6
  have hX6 := hX5.next hb6
  clear hO5 hX5
  go_wp2_with fail
  refine (implKey s _ hsz).mono ?_
  rintro e w6' ⟨rfl, rfl⟩
  go_wp2_with fail
  refine (specKey s _ hsz).mono ?_
  rintro e w6' ⟨rfl, rfl⟩
  cases hok : putOk l s z
  · have HV := Lib.hid (putV_no hok)
    obtain ⟨A6, c6, ev, _, _, _⟩ := hX6.read
    subst ev
    cases hr : rowsB l
    · have hv0 : putV l s z = [] := by rw [HV.out, hr]; rfl
      have h0 : (putV l s z).length = 0 := by rw [hv0]; rfl
      have h0b : (((putV l s z).length : Int) == 0) = true := beq_iff_eq.2 (by omega)
      clear hv0
      go_wp2_with fail
      refine (specOkO hO6 hf).mono ?_
      rintro e w7 ⟨rfl, hb7⟩
      rw [hr]
      have hw7 := below_next hw6 hb7
      go_wp2_with fail
      refine (specOkO (hO6.next hb7) hf).mono ?_
      rintro e w8 ⟨rfl, hb8⟩
      rw [hr]
      go_wp2
      go_ret
      exact ⟨rfl, below_next hw7 hb8⟩
    · have hv0 : putV l s z = l := by rw [HV.out, hr]; rfl
      have HL := Lib.hid (show eqL (putV l s z) l = true from eqL_yes hv0)
      clear hv0
      go_wp2_with fail
      refine (specOkO hO6 hf).mono ?_
      rintro e w7 ⟨rfl, hb7⟩
      rw [hr]
      have hw7 := below_next hw6 hb7
      go_wp2_with fail
      refine (wpO (hX6.next hb7) (hO6.next hb7) (by omega) (by omega)).mono ?_
      rintro e w8 ⟨rfl, hb8⟩
      rw [HL.out]
      go_wp2
      go_ret
      exact ⟨rfl, below_next hw7 hb8⟩
  obtain ⟨hP, hPi⟩ := putOk_rows hok
  have hS := hP.srt
  have hSi := hPi.srt
  have hrB := rowsB_yes hP
  have hrBi := rowsB_yes hPi
  rw [putV_yes hok] at hX6 hlv hfp
  have hil : (ins s z l).length ≤ 16 := Nat.le_trans hlv (by omega)
  have hGi : ∀ k, getB (ins s z l) k = (look k (ins s z l)).isSome := fun k => by rw [getB_eq, hrBi]; rfl
  have hNi : ∀ k, getN (ins s z l) k = (look k (ins s z l)).getD 0 := fun k => getN_eq _ k hrBi
  have hg1 : getB (ins s z l) s = true := by rw [hGi, look_ins_self hS]; rfl
  have hn1 : getN (ins s z l) s = z := by rw [hNi, look_ins_self hS]; rfl
  have hkn : keyB s = true ∧ numB z = true := (rowsP_iff.1 hPi).2.1 _ (ins_self_mem s z l)
  have hok2 : putOk (ins s z l) s z = true := by rw [putOk_eq, hrBi, hkn.1, hkn.2, look_ins_self hS]; rfl
  have hv2 : putV (ins s z l) s z = ins s z l := by rw [putV_yes hok2, ins_ins hS]
  have hgl : getB l s = (look s l).isSome := by rw [getB_eq, hrB]; rfl
  have hilen := ins_length s z l
  have HG1 := Lib.hid hg1
  have HN1 := Lib.hid hn1
  have HOK2 := Lib.hid hok2
  have HV2 := Lib.hid hv2
  have HGL := Lib.hid hgl
  have HIL := Lib.hid hilen
  have HGI := Lib.hid hGi
  have HNI := Lib.hid hNi
  clear hg1 hn1 hok2 hv2 hgl hilen hGi hNi
  go_wp2_with fail
  refine (implGetO s hX6 hfp (by omega)).mono ?_
  rintro e w7 ⟨rfl, hb7⟩
  rw [HG1.out, HN1.out]
  have hw7 := below_next hw6 hb7
  have hO7 := hO6.next hb7
  have hX7 := hX6.next hb7
  clear hO6 hX6
  obtain ⟨Al, cl, evl, hlc, hlm, hrdl⟩ := hO7.read
  obtain ⟨Ax, cx, evx, hxc, hxm, hrdx⟩ := hX7.read
  subst evl evx
  go_wp2
  go_loopw [12] (fun i W => ∃ k : Nat, k ≤ l.length ∧ i = .int .i64 k ∧ Below w7.heap.size w7 W) (fun i _ => l.length - (intOf i).toNat)
  case atStart => exact ⟨0, Nat.zero_le _, rfl, Below.refl _ _⟩
  case round =>
    obtain ⟨k, hkl, rfl, hb⟩ := hrel
    by_cases hlt : k < l.length
    · obtain ⟨b, o, hAl, hbB, hc1, hc2⟩ := (hrdl.below hb).at_ hlt
      have hq : b < wr.heap.size := Nat.lt_of_lt_of_le hbB hb.size
      have hXr := hX7.next hb
      have hmem : l[k] ∈ l := List.getElem_mem hlt
      have hlk := mem_look hS hmem
      have hli := look_ins (key := s) (num := z) l[k].1 hS
      by_cases hks : l[k].1 = s
      · have hb1 : getB (ins s z l) l[k].1 = true := by rw [HGI.out, hli, if_pos hks]; rfl
        have hkb : (l[k].1.toList == s.toList) = true := by rw [hks]; simp
        have HB1 := Lib.hid hb1
        have HAL := Lib.hid hAl
        clear hb1 hks hli hlk hmem hAl
        rw [HAL.out]
        go_wp2_with fail
        refine (implGetO l[k].1 hXr hfp (by omega)).mono ?_
        rintro e w8 ⟨rfl, hb8⟩
        rw [HB1.out]
        have d1 := (hb8.cell (p := ⟨b, o + k * 2, none⟩) hq).trans hc1
        have d2 := (hb8.cell (p := ⟨b, o + k * 2 + 1, none⟩) hq).trans hc2
        go_wp2
        go_roundw
        case rel => exact ⟨k + 1, by omega, by go_num, below_next hb hb8⟩
        case measure => simp [intOf]; omega
      · have hb1 : getB (ins s z l) l[k].1 = true := by rw [HGI.out, hli, if_neg hks, hlk]; rfl
        have hn1 : getN (ins s z l) l[k].1 = l[k].2 := by rw [HNI.out, hli, if_neg hks, hlk]; rfl
        have hkb := str_ne hks
        have HB1 := Lib.hid hb1
        have HN1 := Lib.hid hn1
        have HAL := Lib.hid hAl
        clear hb1 hn1 hks hli hlk hmem hAl
        rw [HAL.out]
        go_wp2_with fail
        refine (implGetO l[k].1 hXr hfp (by omega)).mono ?_
        rintro e w8 ⟨rfl, hb8⟩
        rw [HB1.out, HN1.out]
        have d1 := (hb8.cell (p := ⟨b, o + k * 2, none⟩) hq).trans hc1
        have d2 := (hb8.cell (p := ⟨b, o + k * 2 + 1, none⟩) hq).trans hc2
        go_wp2
        go_roundw
        case rel => exact ⟨k + 1, by omega, by go_num, below_next hb hb8⟩
        case measure => simp [intOf]; omega
    · have hw8 := below_next hw7 hb
      have hO8 := hO7.next hb
      have hX8 := hX7.next hb
      go_wp2_with fail
      refine (implPutO s z hX8 hfp hk (by omega)).mono ?_
      rw [HOK2.out, HV2.out]
      rintro e w9 ⟨v9, rfl, hZ9, hb9⟩
      have hw9 := below_next hw8 hb9
      have hO9 := hO8.next hb9
      have hX9 := hX8.next hb9
      go_wp2_with fail
      refine (implGetO s hO9 hf (by omega)).mono ?_
      rintro e w10 ⟨rfl, hb10⟩
      rw [HGL.out]
      have hw10 := below_next hw9 hb10
      have hX10 := hX9.next hb10
      have hZ10 := hZ9.next hb10
      go_wp2_with fail
      refine (wpO hZ10 hX10 (by omega) (by omega)).mono ?_
      rintro e w11 ⟨rfl, hb11⟩
      rw [eqL_yes rfl]
      have hw11 := below_next hw10 hb11
      go_wp2_with fail
      refine (implOkO (hX10.next hb11) hfp (by omega)).mono ?_
      rintro e w12 ⟨rfl, hb12⟩
      rw [hrBi]
      have hfin : ((((ins s z l).length : Int) == (l.length : Int)) == (look s l).isSome) = true := by
        rw [HIL.out]
        cases (look s l).isSome
        · simp; omega
        · simp
      go_wp2
      go_ret
      exact ⟨rfl, below_next hw11 hb12⟩

set_option maxRecDepth 100000 in
theorem lifted (os : Os) (started : os.Started) (H : Type) (enc : TypeId × Value → H) :
    ReturnsInHanded {} Try.checked os 11 .any (Rows.fnRowsPutSpec.pre6 enc Try.prog Try.f11 Rows.fnRowsPutRow.domain false) (Rows.fnRowsPutSpec.post enc Try.prog Try.f11 false true false false) := by
  refine returnsInHanded_of_change (C := Try.checked) Whole.own started (by kernel_rfl) Try.func11
    (ChangeSpec.witness6 (enc := enc) (C := Try.checked) false ⟨#[], #[.slice none 0 0], []⟩ 8 (by kernel_rfl) (by kernel_rfl) (by kernel_rfl) (by kernel_rfl)) ?_
  intro W base args ds gs before hval0 hW hcnd _
  have hval : ∀ (j : Nat) t v, Try.f11.params[j]? = some t → args[j]? = some v → Value.okWide Try.prog W .any base t v := hval0
  have hW' := hW
  obtain ⟨p, q, hA0, hV, rfl, hfz, hnd⟩ := hW
  have hA : DataW.TrodAll enc Try.prog W 0 (fun _ => true) true Try.f11.params.toList args.toList ds p := hA0
  rw [Try.params11] at hA hval
  obtain ⟨v0, vs0, d0, ds0, p0, q0, hargs, rfl, rfl, h0, r0⟩ := trodAll_cons hA
  obtain ⟨rfl, rfl, rfl⟩ := trodAll_nil r0
  obtain rfl : args = #[v0] := by cases args; simp_all
  obtain ⟨rfl, rfl⟩ := trodVars_none hV
  have k0 := h0
  have lt0 : ∀ x ∈ p0, x.block < W.heap.size := by obtain ⟨m, hm⟩ := k0; exact DataW.trod_lt m _ _ _ hm
  obtain ⟨A0, n0, c0, rfl, hc0, hm0, hr0⟩ := openBytes (hval 0 46 v0 rfl rfl) h0
  clear hA0 hval0
  refine (walk A0 n0 c0 W hc0 hm0 hr0).mono fun e W' ⟨he, bel⟩ => ?_
  subst he
  exact ⟨_, rfl, _, _, _, [], _, [], hW', trodAll_mk1 (shut_bool Try.underlying4 _), (trodAll_cons_mk (Below.trod Whole.laidOut (by kernel_rfl) (of_decide_eq_true (by kernel_rfl)) k0 bel lt0) trodAll_mk0), rfl, bel.frame _, fun h => by cases h⟩

theorem named : Try.prog.funcNamed Rows.fnRowsPutRow.func = some 11 := by kernel_rfl
theorem closed : Whole.lawFacts Try.prog 11 Try.f11 Rows.fnRowsPutSpec Rows.fnRowsPutRow = true := by kernel_rfl
theorem inst : Try.f11.isInstance Try.prog Rows.fnRowsPutRow.origin Rows.fnRowsPutRow.targs := of_decide_eq_true (by kernel_rfl)
theorem wrap : Try.f11.isWrapper Try.prog Rows.fnRowsPutRow.wrapper Rows.fnRowsPutRow.mainSum := by
  unfold Func.isWrapper; first | (rw [if_pos (by decide +kernel)]; kernel_rfl) | (rw [if_neg (by decide +kernel)]; exact ⟨rfl, rfl⟩)
theorem over : Rows.fnRowsPutRow.holds Try.pinned (OpenSpec.ofChange Rows.fnRowsPutSpec) :=
  OpenClaim.holds_of_wide 11 Try.f11 rfl rfl rfl rfl rfl rfl rfl ⟨rfl, rfl, rfl, rfl, rfl⟩ rfl rfl rfl rfl rfl named Try.func11 (Whole.facts_of closed)
    inst wrap (fun os started H enc _ => lifted os started H enc)

theorem proved : Rows.FnRowsPutSaid := over
#print axioms proved
end Go.Proofs.Ytabpepddbkipiaa.fnRowsPut
