/- RowsIn of the program: the whole. -/
import Derived.Test.YtabpepddbkipiaaIn2
namespace Go.Proofs.Ytabpepddbkipiaa
open Go.RowKit Go.Shelf
set_option linter.unusedVariables false
attribute [local go_sem] Oper.semAt_some

set_option maxRecDepth 100000 in
set_option maxHeartbeats 2000000 in
theorem implIn (A : Option Addr) (c : Nat) (l : List R) (lo hi : ByteArray) (w : World) (hfit : FitR l) (hlc : l.length ≤ c) (hc : l.length ≤ 1048576) (hr : Rd w w.heap.size A l) :
    Calls Try.prog 37 #[.slice A l.length c, .string lo, .string hi] w (RetR w (inV l lo hi)) := by
  cases hok : rowsB l
  · have HV := Lib.hid (show inV l lo hi = [] from by unfold inV; rw [hok]; rfl)
    rw [HV.out]
    go_enter Try.func37, Try.ntmps37
    go_wp2_with fail
    refine (implRowsOk A c l w hfit (by omega) hr).mono ?_
    rintro e w1 ⟨rfl, hb1⟩
    rw [hok]
    go_wp2
    go_ret
    exact ⟨_, rfl, OwnR.nil _ _, hb1⟩
  · have HV := Lib.hid (show inV l lo hi = inL l lo hi from by unfold inV; rw [hok]; rfl)
    rw [HV.out]
    have hS := (rowsB_iff.1 hok).srt
    refine (callsIn_wide (n := 3)).1 (callsIn_of_wp_marks Try.func37 rfl trivial ?_ rfl)
    simp only [Try.ntmps37, List.size_toArray, List.length_cons, List.length_nil, Nat.reduceAdd, Nat.reduceSub, Array.replicate_succ, Array.replicate_zero, List.push_toArray, List.append_toArray, List.nil_append, List.cons_append]
    refine wpIn_wide.2 ?_
    go_wp2_with fail
    refine (implRowsOk A c l w hfit (by omega) hr).mono ?_
    rintro e w1 ⟨rfl, hb1⟩
    rw [hok]
    have hr1 := (hr.below hb1).more hb1.size
    go_wp2_with fail
    refine (between_c A l.length c lo hi _).mono ?_
    rintro e w2 ⟨rfl, rfl⟩
    have hbx := boxes_new (w1.alloc (.cells #[.slice none 0 0] 26)) A l.length c lo hi
    go_wp2
    have hbO := (((Boxed.new w1 26 (.slice none 0 0)).alloc (.cells #[.slice A l.length c] 64)).alloc (.cells #[.string lo] 9)).alloc (.cells #[.string hi] 9)
    have hb2 : Below w1.heap.size w1 ((((w1.alloc (.cells #[.slice none 0 0] 26)).alloc (.cells #[.slice A l.length c] 64)).alloc (.cells #[.string lo] 9)).alloc (.cells #[.string hi] 9)) := below_alloc (below_alloc (below_alloc (below_alloc (Below.refl _ _) _) _) _) _
    have hsz : ((((w1.alloc (.cells #[.slice none 0 0] 26)).alloc (.cells #[.slice A l.length c] 64)).alloc (.cells #[.string lo] 9)).alloc (.cells #[.string hi] 9)).heap.size = w1.heap.size + 4 := by simp
    rw [World.size_alloc] at hbx
    generalize ((((w1.alloc (.cells #[.slice none 0 0] 26)).alloc (.cells #[.slice A l.length c] 64)).alloc (.cells #[.string lo] 9)).alloc (.cells #[.string hi] 9)) = w2 at *
    refine (wpIn_wide (n := 3)).1 ?_
    refine wpIn_rangeFunc_ownH rfl (by omega) (gf := 78) (lb := #[.pointer (some ⟨w1.heap.size + 1, 0, none⟩), .pointer (some ⟨w1.heap.size + 1 + 1, 0, none⟩), .pointer (some ⟨w1.heap.size + 1 + 2, 0, none⟩)]) rfl trivial (enters_of Try.func78 (by kernel_rfl) rfl)
      (between_stops _ (w1.heap.size + 1) w1.heap.size A c l lo hi hlc hc hS w2 hb2.size (by omega) hbx (hr1.below hb2)) kpB_t (kpB_b (w := w2) hb2.size (by omega)) (Below.refl _ _) (fun _ => rfl)
      (InI w1 A l.length c lo hi) (fun _ _ _ => False) (inI_own w1 A l.length c lo hi _ hb2.size) (fun _ _ _ _ _ hs _ _ => hs)
      ⟨⟨_, hbO, OwnR.nil _ _⟩, hbx, hb2⟩
      (fun x a' W => ∃ Bx, Blk W Bx 50 #[.string x.1, .int .i64 x.2] ∧ a' = { tmps := #[Value.slice A l.length c, Value.string lo, Value.string hi, undef, undef, undef, Value.slice none 0 0, Value.pointer (some ⟨w1.heap.size, 0, none⟩), Value.pointer (some ⟨Bx, 0, none⟩), Value.slice A l.length c, Value.bool true, Value.bool false, Value.slice A l.length c, Value.string lo, Value.string hi, Value.func (Fn.func 78) #[] #[.pointer (some ⟨w1.heap.size + 1, 0, none⟩), .pointer (some ⟨w1.heap.size + 1 + 1, 0, none⟩), .pointer (some ⟨w1.heap.size + 1 + 2, 0, none⟩)], .agg #[.string x.1, .int .i64 x.2], undef, undef, undef, undef, undef], defers := [] })
      ?hAx ?assign ?body ?done ?stop
    case hAx =>
      rintro x a' _ W W' row ⟨Bx, hX, rfl⟩ hg hr'
      refine ⟨Bx, (hg.block Bx hX.lt fun e => ?_).trans hX, rfl⟩
      obtain ⟨_, o, h1, h2⟩ := hr' Bx e.symm
      rw [show W.heap[Bx]? = _ from hX] at h1
      cases h1; cases h2
    case assign =>
      rintro l0 pre x W K hi' hK
      obtain ⟨hv, hx, hb⟩ := hi'
      dsimp only [encR]
      gi_wp2
      exact hK _ _ ((KeepsOthers.alloc _ _).from _) (kpB_alloc hb.size hx _) (InI.alloc ⟨hv, hx, hb⟩ _) ⟨W.heap.size, heap_alloc_new W _, rfl⟩
    case body =>
      rintro l0 pre x a' W hl ⟨r, hr0⟩ ⟨⟨v, hv, ho⟩, hx, hb⟩ ⟨Bx, hX, rfl⟩ hlt
      have hc0 := hv.cell
      have hf0 := hv.frozen
      have hX1 : W.cell? ⟨Bx, 0, none⟩ = some (.string x.1) := by rw [hX.cell]; rfl
      have hX2 : W.cell? ⟨Bx, 1, none⟩ = some (.int .i64 x.2) := by rw [hX.cell]; rfl
      gi_wp2_with (gi_at_builtin; refine wpListIn_appR (W.alloc (.cells #[.string x.1, .int .i64 x.2] 50)) rfl _ _ 26 rfl Try.underlying26 w1.heap.size v pre rfl (ho.alloc _) (some ⟨W.heap.size, 0, none⟩) 1 _ 1 [x] rfl rfl (rdOne W x.1 x.2 50) (by simp; omega) (by have := hb.size; simp; omega) ?_; intro v' w5 hown' hgrow; obtain ⟨hv1, hfin⟩ := in_step hv ho hx hb hown' hgrow w2.heap.size; have hc1 := hv1.cell; have hf1 := hv1.frozen; obtain ⟨A', c', rfl, _, _, _⟩ := hown'.read)
      have e : (pre ++ [x]).length = pre.length + 1 := by simp
      rw [e] at hfin
      exact hfin
    case done =>
      rintro D ys W hD rfl ⟨⟨v, hv, ho⟩, hx, hb⟩ hK
      have hc0 := hv.cell
      go_wp2
      refine ⟨by simp, .inl ⟨_, _, rfl, run_takeDeferred hK, ?_⟩⟩
      refine ⟨_, results_tmp rfl _ _ _, v, rfl, (show OwnR _ _ v _ from ownsRow_putObj ho _ hK rfl).low hb1.size, ?_⟩
      have hbD := belowK_b (w := w2) hb2.size W D _ (.deferred none) hD hK rfl rfl
      exact hb1.trans ((hb.trans hbD).mono hb1.size)
    case stop =>
      rintro D c0 pre W _ _ h _
      exact h.elim

end Go.Proofs.Ytabpepddbkipiaa
