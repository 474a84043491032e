/- VersAt, of the model and of the program. -/
import Derived.Test.YtbhdgalkedegjaaC2h
namespace Go.Proofs.Ytbhdgalkedegjaa
open Go.RowKit Go.Shelf
set_option linter.unusedVariables false
set_option maxRecDepth 100000
attribute [local go_sem] Oper.semAt_some

noncomputable def versAt (z : Int) (l : List V) (t : Int) : List R := if versB z l && decide (0 ≤ t) && decide (t ≤ z) then atL l t else []
theorem versAt_length (z : Int) (l : List V) (t : Int) : (versAt z l t).length ≤ l.length := by
  unfold versAt
  split
  · exact atL_length l t
  · simp
theorem versAt_yes {z : Int} {l : List V} {t : Int} (h : versB z l = true) (h0 : 0 ≤ t) (h1 : t ≤ z) : versAt z l t = atL l t := by unfold versAt; simp [h, h0, h1]
theorem versAt_no {z : Int} {l : List V} {t : Int} (h : versB z l = false ∨ t < 0 ∨ z < t) : versAt z l t = [] := by
  unfold versAt
  rw [if_neg]
  simp only [Bool.and_eq_true, decide_eq_true_eq]
  rintro ⟨⟨h1, h2⟩, h3⟩
  rcases h with h | h | h
  · rw [h] at h1; cases h1
  · omega
  · omega

set_option maxHeartbeats 1000000 in
theorem specVersAt (z : Int) (A : Option Addr) (c : Nat) (l : List V) (t : Int) (w : World) (hfit : FitVs l) (hlc : l.length ≤ c) (hcm : c ≤ maxLen) (hl : l.length ≤ 1048576) (hr : RdG w w.heap.size A l) :
    Calls Try.prog 25 #[.agg #[.int .i64 z, .slice A l.length c], .int .i64 t] w (RetR w (versAt z l t)) := by
  have hb0 : Below w.heap.size w (w.alloc (.cells #[.int .i64 z, .slice A l.length c] 29)) := below_alloc (Below.refl _ _) _
  have hB0 := blkA w #[.int .i64 z, .slice A l.length c] 29
  cases hv : versB z l
  · have HE := Lib.hid (versAt_no (t := t) (.inl hv))
    rw [HE.out]
    go_enter Try.func25, Try.ntmps25
    go_wp2_with fail
    refine (specVersOk z A c l _ hfit hlc hcm (hr.next hb0)).mono ?_
    rintro e w1 ⟨rfl, hb1⟩
    rw [hv]
    have hw1 := below_next hb0 hb1
    go_wp2
    go_ret
    exact ⟨_, rfl, (OwnR.fresh w1 _ (Nat.le_refl _)).low hw1.size, below_alloc hw1 _⟩
  · by_cases ht0 : t < 0
    · have HE := Lib.hid (versAt_no (z := z) (l := l) (.inr (.inl ht0)))
      have hd : decide (t < 0) = true := decide_eq_true ht0
      rw [HE.out]
      go_enter Try.func25, Try.ntmps25
      go_wp2_with fail
      refine (specVersOk z A c l _ hfit hlc hcm (hr.next hb0)).mono ?_
      rintro e w1 ⟨rfl, hb1⟩
      rw [hv]
      have hw1 := below_next hb0 hb1
      go_wp2
      go_ret
      exact ⟨_, rfl, (OwnR.fresh w1 _ (Nat.le_refl _)).low hw1.size, below_alloc hw1 _⟩
    · have hd : decide (t < 0) = false := decide_eq_false ht0
      by_cases htz : z < t
      · have HE := Lib.hid (versAt_no (z := z) (l := l) (.inr (.inr htz)))
        have hd2 : decide (z < t) = true := decide_eq_true htz
        rw [HE.out]
        go_enter Try.func25, Try.ntmps25
        go_wp2_with fail
        refine (specVersOk z A c l _ hfit hlc hcm (hr.next hb0)).mono ?_
        rintro e w1 ⟨rfl, hb1⟩
        rw [hv]
        have hw1 := below_next hb0 hb1
        have c0 : w1.cell? ⟨w.heap.size, 0, none⟩ = some (.int .i64 z) := by rw [(hB0.next hb1).cell]; rfl
        go_wp2
        go_ret
        exact ⟨_, rfl, (OwnR.fresh w1 _ (Nat.le_refl _)).low hw1.size, below_alloc hw1 _⟩
      · have HE := Lib.hid (versAt_yes hv (show 0 ≤ t from by omega) (show t ≤ z from by omega))
        have hd2 : decide (z < t) = false := decide_eq_false htz
        rw [HE.out]
        go_enter Try.func25, Try.ntmps25
        go_wp2_with fail
        refine (specVersOk z A c l _ hfit hlc hcm (hr.next hb0)).mono ?_
        rintro e w1 ⟨rfl, hb1⟩
        rw [hv]
        have hw1 := below_next hb0 hb1
        have c0 : w1.cell? ⟨w.heap.size, 0, none⟩ = some (.int .i64 z) := by rw [(hB0.next hb1).cell]; rfl
        have c1 : w1.cell? ⟨w.heap.size, 1, none⟩ = some (.slice A l.length c) := by rw [(hB0.next hb1).cell]; rfl
        go_wp2_with fail
        refine (specAt z A c l t w1 hlc (by omega) (hr.next hw1)).mono ?_
        rintro e w2 ⟨v, rfl, hO, hb2⟩
        go_wp2
        go_ret
        exact ⟨v, rfl, hO.low hw1.size, below_next hw1 hb2⟩

theorem Chg.grown {S : Nat → Prop} {w W W' : World} {row : Option Nat} (h : Chg S w W) (hg : W.grownBy W' row) (hr : ∀ k, row = some k → w.heap.size ≤ k) : Chg S w W' :=
  ⟨hg.os.trans h.os, hg.tape.trans h.tape, hg.output.trans h.output, Nat.le_trans h.size hg.size, fun k hk hn => (hg.block k (Nat.lt_of_lt_of_le hk h.size) (fun e => by have := hr k e.symm; omega)).trans (h.block k hk hn)⟩
theorem OwnR.setCell {w : World} {base : Nat} {v : Value} {l : List R} (h : OwnR w base v l) {a : Addr} (ha : ∀ g, v.ownBlock = some g → g ≠ a.block) (u : Value) : OwnR (w.setCell a u) base v l :=
  h.keep fun g hg => Below.heap_setCell w a u g (ha g hg)
theorem ownR_keep {W W' : World} {row : Option Nat} {base : Nat} {v : Value} {l : List R} (h : OwnR W base v l) (hg : W.grownBy W' row) (hr : ∀ r, row = some r → ∃ o : Obj, W.heap[r]? = some o ∧ o.isCells = false) : OwnR W' base v l := by
  rcases h.cases with ⟨rfl, rfl⟩ | ⟨g, cap, cur, rfl, hb, hblk, hl, hm, hs, ht⟩
  · exact OwnR.nil _ _
  · refine OwnR.mk hb ((hg.block g hblk.lt fun e => ?_).trans hblk) hl hm hs ht
    obtain ⟨o, h1, h2⟩ := hr g e.symm
    rw [show W.heap[g]? = _ from hblk] at h1
    cases h1; cases h2
theorem ownR_cells {W : World} {base : Nat} {v : Value} {l : List R} (h : OwnR W base v l) : ∀ (j : Nat) (o : Obj), v.ownBlock = some j → W.heap[j]? = some o → o.isCells = true := by
  intro j o hj ho
  rcases h.cases with ⟨rfl, rfl⟩ | ⟨g, cap, cur, rfl, hb, hblk, hl, hm, hs, ht⟩
  · simp [Value.ownBlock] at hj
  · have : g = j := by simpa [Value.ownBlock] using hj
    subst this
    rw [show W.heap[g]? = _ from hblk] at ho
    cases ho; rfl

theorem wpListIn_appR {F : Fence} {n : Nat} {ops : Array Oper} {rest : List Oper} {o : Oper} {a : Act} {Q : Exit → Act → World → Prop} (w : World) (hgd : o.guard = none) (s x : Operand) (t : TypeId)
    (ho : o.op = .call { callee := .builtin .append, args := #[s, x], argTypes := #[t, t] }) (ht : Try.prog.underlying t = some (.slice 90))
    (base : Nat) (v : Value) (l : List R) (hs : a.eval s = v) (hown : OwnR w base v l) (A : Option Addr) (c B n2 : Nat) (l2 : List R) (hn2 : l2.length = n2) (hx : a.eval x = .slice A n2 c) (hr : Rd w B A l2) (hlen : l.length + l2.length ≤ 4194304) (hbase : base ≤ w.heap.size)
    (h : ∀ v' w', OwnR w' base v' (l ++ l2) → w.grownBy w' v.ownBlock → wpListIn F n Try.prog ops Q rest (a.put o.dst v') w') :
    wpListIn F n Try.prog ops Q (o :: rest) a w := by
  subst hn2
  refine wpListIn_plain hgd fun K hK' => ?_
  obtain ⟨v', w', hrun, r1, r2, r3⟩ := runAppR t t o.type 90 ht ht w base v l hown A c B l2 hr hlen hbase
  unfold Oper.wpIn
  refine ⟨?_, ?_⟩
  · simp [Oper.about, ho, resolve, Target.leads, Sem.run_pure]
  · rw [Oper.semAt_plain F _ _ (by rw [ho]; intro c hc'; cases hc')]
    simp [execOp, ho, resolve, invoke, builtin, hs, hx, hrun, Result.andThen]
    exact hK' _ _ (h v' w' r1 r2)

/-- what the loop keeps: the rows that have come lie in their box, all else is as it was -/
def RowI (w4 : World) (rb : Nat) (pre : List R) (W : World) : Prop := (∃ v, Boxed W rb 33 v ∧ OwnR W w4.heap.size v pre) ∧ Chg (fun b => b = rb) w4 W
theorem rowI_own (w4 : World) (rb : Nat) (hcb : rb < w4.heap.size) : OwnFrom w4.heap.size (RowI w4 rb) := by
  rintro s W W' row ⟨⟨v, hv, ho⟩, hc⟩ hg hr
  exact ⟨⟨v, (hg.block rb hv.lt (fun e => by have := (hr rb e.symm).1; omega)).trans hv, ownR_keep ho hg fun r e => (hr r e).2⟩, hc.grown hg fun k e => (hr k e).1⟩
theorem RowI.alloc {w4 : World} {rb : Nat} {pre : List R} {W : World} (h : RowI w4 rb pre W) (o : Obj) : RowI w4 rb pre (W.alloc o) := by
  obtain ⟨⟨v, hv, ho⟩, hc⟩ := h
  exact ⟨⟨v, hv.alloc _, ho.alloc _⟩, hc.alloc o⟩

/-- the body's step: a row is appended to what lies in the box -/
theorem row_step {w4 W w5 : World} {rb : Nat} {pre : List R} {x : R} {v v' : Value} {tmp : Obj} {T : Nat → Prop} (hrb : rb < w4.heap.size) (hT : ∀ k, T k → k < w4.heap.size ∧ k ≠ rb) (hv : Boxed W rb 33 v) (ho : OwnR W w4.heap.size v pre) (hc : Chg (fun b => b = rb) w4 W)
    (ho' : OwnR w5 w4.heap.size v' (pre ++ [x])) (hg : (W.alloc tmp).grownBy w5 v.ownBlock) :
    Boxed w5 rb 33 v ∧ (KeepsFrom w4.heap.size W (w5.setCell ⟨rb, 0, none⟩ v') ∧ KpT T W (w5.setCell ⟨rb, 0, none⟩ v') ∧ RowI w4 rb (pre ++ [x]) (w5.setCell ⟨rb, 0, none⟩ v')) := by
  have hge : ∀ g, v.ownBlock = some g → w4.heap.size ≤ g := fun g h => (ho.block_lt h).1
  have hge' : ∀ g, v'.ownBlock = some g → w4.heap.size ≤ g := fun g h => (ho'.block_lt h).1
  have hsz : W.heap.size ≤ (W.alloc tmp).heap.size := by simp
  have hv5 : Boxed w5 rb 33 v := (hg.block rb (hv.alloc tmp).lt (fun e => by have := hge rb e.symm; omega)).trans (hv.alloc tmp)
  refine ⟨hv5, ?_, ?_, ⟨v', ?_, ?_⟩, ?_⟩
  · exact (((KeepsOthers.alloc W tmp).trans (KeepsOthers.of_grownBy hg (ownR_cells (ho.alloc tmp)))).trans (KeepsOthers.setCell _ _ _)).from _
  · refine ⟨by have := hg.size; simp [World.setCell] at this ⊢; omega, fun k hk => ?_⟩
    obtain ⟨h1, h2⟩ := hT k hk
    have hkW : k < W.heap.size := Nat.lt_of_lt_of_le h1 hc.size
    rw [Below.heap_setCell w5 ⟨rb, 0, none⟩ v' k h2]
    exact (hg.block k (by simp; omega) (fun e => by have := hge k e.symm; omega)).trans (Below.heap_alloc W tmp k hkW)
  · have hv5' : Blk w5 rb 33 #[v] := hv5
    exact (hv5'.set_ 0 v').cast rfl
  · exact ho'.setCell (a := ⟨rb, 0, none⟩) (fun g h e => by have := hge' g h; have : g = rb := e; omega) _
  · exact (((hc.alloc tmp).grown hg hge)).setCell (a := ⟨rb, 0, none⟩) (.inl rfl) _

set_option maxHeartbeats 2000000 in
theorem implVersAt (z : Int) (A : Option Addr) (c : Nat) (l : List V) (t : Int) (w : World) (hfit : FitVs l) (hlc : l.length ≤ c) (hcm : c ≤ maxLen) (hl : l.length ≤ 1048576) (hr : RdG w w.heap.size A l) :
    Calls Try.prog 26 #[.agg #[.int .i64 z, .slice A l.length c], .int .i64 t] w (RetR w (versAt z l t)) := by
  have hb0 : Below w.heap.size w (w.alloc (.cells #[.int .i64 z, .slice A l.length c] 29)) := below_alloc (Below.refl _ _) _
  have hB0 := blkA w #[.int .i64 z, .slice A l.length c] 29
  cases hv : versB z l
  · have HE := Lib.hid (versAt_no (t := t) (.inl hv))
    rw [HE.out]
    go_enter Try.func26, Try.ntmps26
    go_wp2_with fail
    refine (implVersOk z A c l _ hfit hlc hcm (hr.next hb0)).mono ?_
    rintro e w1 ⟨rfl, hb1⟩
    rw [hv]
    have hw1 := below_next hb0 hb1
    go_wp2
    go_ret
    exact ⟨_, rfl, OwnR.nil _ _, hw1⟩
  · by_cases ht0 : t < 0
    · have HE := Lib.hid (versAt_no (z := z) (l := l) (.inr (.inl ht0)))
      have hd : decide (t < 0) = true := decide_eq_true ht0
      rw [HE.out]
      go_enter Try.func26, Try.ntmps26
      go_wp2_with fail
      refine (implVersOk z A c l _ hfit hlc hcm (hr.next hb0)).mono ?_
      rintro e w1 ⟨rfl, hb1⟩
      rw [hv]
      have hw1 := below_next hb0 hb1
      go_wp2
      go_ret
      exact ⟨_, rfl, OwnR.nil _ _, hw1⟩
    · have hd : decide (t < 0) = false := decide_eq_false ht0
      by_cases htz : z < t
      · have HE := Lib.hid (versAt_no (z := z) (l := l) (.inr (.inr htz)))
        have hd2 : decide (z < t) = true := decide_eq_true htz
        rw [HE.out]
        go_enter Try.func26, Try.ntmps26
        go_wp2_with fail
        refine (implVersOk z A c l _ hfit hlc hcm (hr.next hb0)).mono ?_
        rintro e w1 ⟨rfl, hb1⟩
        rw [hv]
        have hw1 := below_next hb0 hb1
        have c0 : w1.cell? ⟨w.heap.size, 0, none⟩ = some (.int .i64 z) := by rw [(hB0.next hb1).cell]; rfl
        go_wp2
        go_ret
        exact ⟨_, rfl, OwnR.nil _ _, hw1⟩
      · have hd2 : decide (z < t) = false := decide_eq_false htz
        have hP := versB_iff.1 hv
        have ho := hP.ord2
        have HE := Lib.hid (fun chs (hC : Cons chs l) => (show snapL t chs = versAt z l t from by rw [snap_at hC ho, versAt_yes hv (show 0 ≤ t from by omega) (show t ≤ z from by omega)]))
        have HKL := Lib.hid ho.keyLe
        clear hP ho
        refine (callsIn_wide (n := 3)).1 (callsIn_of_wp_marks Try.func26 rfl trivial ?_ rfl)
        simp only [Try.ntmps26, List.size_toArray, List.length_cons, List.length_nil, Nat.reduceAdd, Nat.reduceSub, Array.replicate_succ, Array.replicate_zero, List.push_toArray, List.append_toArray, List.nil_append, List.cons_append]
        refine wpIn_wide.2 ?_
        go_wp2_with fail
        refine (implVersOk z A c l _ hfit hlc hcm (hr.next hb0)).mono ?_
        rintro e w1 ⟨rfl, hb1⟩
        rw [hv]
        have hw1 := below_next hb0 hb1
        have hB1 := hB0.next hb1
        have c0 : w1.cell? ⟨w.heap.size, 0, none⟩ = some (.int .i64 z) := by rw [hB1.cell]; rfl
        have c1 : w1.cell? ⟨w.heap.size, 1, none⟩ = some (.slice A l.length c) := by rw [hB1.cell]; rfl
        have hlt1 := hB1.lt
        have hbr : Below w1.heap.size w1 (w1.alloc (.cells #[.slice none 0 0] 33)) := below_alloc (Below.refl _ _) _
        have hbR := blkA w1 #[.slice none 0 0] 33
        go_wp2_with fail
        refine (storageOf_c z A c l _ (by omega) HKL.out ((hr.next hw1).next hbr)).mono ?_
        rintro e w3 ⟨s, chs, rfl, hS, hC, hb3⟩
        go_wp2_with fail
        refine (snapshot_c s t _).mono ?_
        rintro e w4 ⟨rfl, rfl⟩
        go_wp2
        have hbx : Below w3.heap.size w3 ((w3.alloc (.cells #[.pointer (some ⟨s, 0, none⟩)] 81)).alloc (.cells #[.int .i64 t] 88)) := below_alloc (below_alloc (Below.refl _ _) _) _
        have hBs := (blkA w3 #[.pointer (some ⟨s, 0, none⟩)] 81).alloc (.cells #[.int .i64 t] 88)
        have hBt := blkA (w3.alloc (.cells #[.pointer (some ⟨s, 0, none⟩)] 81)) #[.int .i64 t] 88
        have hsz : ((w3.alloc (.cells #[.pointer (some ⟨s, 0, none⟩)] 81)).alloc (.cells #[.int .i64 t] 88)).heap.size = w3.heap.size + 2 := by simp
        simp only [World.size_alloc] at hBt hS
        have hbR4 : Boxed _ w1.heap.size 33 (.slice none 0 0) := (hbR.next hb3).next hbx
        have hw3 : Below w1.heap.size w1 w3 := below_next hbr hb3
        have hw4 := below_next hw3 hbx
        have hrb1 : w1.heap.size < w3.heap.size := (hbR.next hb3).lt
        generalize ((w3.alloc (.cells #[.pointer (some ⟨s, 0, none⟩)] 81)).alloc (.cells #[.int .i64 t] 88)) = w4 at *
        have hrb : w1.heap.size < w4.heap.size := by omega
        have hslt := hS.lt
        have hCl := hC.length
        have HEC := Lib.hid (HE.out chs hC)
        have HSZ := Lib.hid hsz
        refine (wpIn_wide (n := 3)).1 ?_
        refine wpIn_rangeFunc_ownH rfl (by omega) (gf := 111) (lb := #[.pointer (some ⟨w3.heap.size, 0, none⟩), .pointer (some ⟨w3.heap.size + 1, 0, none⟩)]) rfl trivial (enters_of Try.func111 (by kernel_rfl) rfl)
          (snapshot_stops _ (w1.heap.size + 1) s w3.heap.size (w3.heap.size + 1) (fun k => w1.heap.size + 1 ≤ k ∧ k < w4.heap.size) z t chs (by omega) w4 w3 (fun k hk => hk.2) hS (fun k h1 h2 => ⟨h1, by omega⟩) (KpT.below hbx (fun k hk => hk.2)) hBs hBt ⟨by omega, by omega⟩ ⟨by omega, by omega⟩)
          KpT.trans (kpT_b (w := w4) (fun k hk => hk.2)) (Below.refl _ _) (fun _ => rfl)
          (RowI w4 w1.heap.size) (fun _ _ _ => False) (rowI_own w4 w1.heap.size hrb) (fun _ _ _ _ _ hs _ _ => hs)
          ⟨⟨_, hbR4, OwnR.nil _ _⟩, Chg.refl _ _⟩
          (fun x a' W => ∃ Bx, Blk W Bx 90 #[.string x.1, .int .i64 x.2] ∧ a' = { tmps := #[.agg #[.int .i64 z, .slice A l.length c], .int .i64 t, .pointer (some ⟨w.heap.size, 0, none⟩), undef, .slice none 0 0, .pointer (some ⟨w1.heap.size, 0, none⟩), .pointer (some ⟨Bx, 0, none⟩), .agg #[.int .i64 z, .slice A l.length c], .bool true, .bool false, .bool false, .int .i64 t, .bool false, .bool false, .bool false, .int .i64 t, .pointer (some ⟨w.heap.size, 0, none⟩), .int .i64 z, .bool false, .bool false, .agg #[.int .i64 z, .slice A l.length c], .pointer (some ⟨s, 0, none⟩), .int .i64 t, .func (.func 111) #[] #[.pointer (some ⟨w3.heap.size, 0, none⟩), .pointer (some ⟨w3.heap.size + 1, 0, none⟩)], .agg #[.string x.1, .int .i64 x.2], undef, undef, undef, undef, undef], defers := [] })
          ?hAx ?assign ?body ?done ?stop
        case hAx =>
          rintro x a' _ W W' row ⟨Bx, hX, rfl⟩ hg hr'
          refine ⟨Bx, (hg.block Bx hX.lt fun e => ?_).trans hX, rfl⟩
          obtain ⟨_, o, h1, h2⟩ := hr' Bx e.symm
          rw [show W.heap[Bx]? = _ from hX] at h1
          cases h1; cases h2
        case assign =>
          rintro l0 pre x W K hi' hK
          dsimp only [encR]
          gi_wp2
          exact hK _ _ ((KeepsOthers.alloc _ _).from _) (KpT.below (below_alloc (Below.refl _ _) _) (fun k hk => Nat.lt_of_lt_of_le hk.2 hi'.2.size)) (hi'.alloc _) ⟨W.heap.size, heap_alloc_new W _, rfl⟩
        case body =>
          rintro l0 pre x a' W hl0 ⟨r, hr0⟩ ⟨⟨v, hv0, ho⟩, hc⟩ ⟨Bx, hX, rfl⟩ hlt
          have d0 := hv0.cell
          have f0 := hv0.frozen
          have hX1 : W.cell? ⟨Bx, 0, none⟩ = some (.string x.1) := by rw [hX.cell]; rfl
          have hX2 : W.cell? ⟨Bx, 1, none⟩ = some (.int .i64 x.2) := by rw [hX.cell]; rfl
          gi_wp2_with (gi_at_builtin; refine wpListIn_appR (W.alloc (.cells #[.string x.1, .int .i64 x.2] 90)) rfl _ _ 33 rfl Try.underlying33 w4.heap.size v pre rfl (ho.alloc _) (some ⟨W.heap.size, 0, none⟩) 1 _ 1 [x] rfl rfl (rdOne W x.1 x.2 90) (by simp; omega) (by have := hc.size; simp; omega) ?_; intro v' w5 hown' hgrow; obtain ⟨hv1, hfin⟩ := row_step (T := fun k => w1.heap.size + 1 ≤ k ∧ k < w4.heap.size) hrb (fun k hk => ⟨hk.2, by omega⟩) hv0 ho hc hown' hgrow; have hc1 := hv1.cell; have hf1 := hv1.frozen; obtain ⟨A', c', rfl, _, _, _⟩ := hown'.read)
          have e : (pre ++ [x]).length = pre.length + 1 := by simp
          rw [e] at hfin
          exact hfin
        case done =>
          rintro D ys W hD rfl ⟨⟨v, hv0, ho⟩, hc⟩ hK
          have d0 := hv0.cell
          have hbF : Below w.heap.size w W := hw1.trans ((hw4.mono hw1.size).trans (hc.toBelow (by have := hw1.size; omega) (fun k hk => by have := hw1.size; omega)))
          go_wp2
          refine ⟨by simp, .inl ⟨_, _, rfl, run_takeDeferred hK, ?_⟩⟩
          refine ⟨_, results_tmp rfl _ _ _, v, rfl, ?_, ?_⟩
          · rw [← HEC.out]
            exact (show OwnR _ _ v _ from ownsRow_putObj ho _ hK rfl).low (by have := hw1.size; omega)
          · exact hbF.trans (belowK_b (w := w) (Nat.le_refl _) W D _ (.deferred none) (by have := hw1.size; omega) hK rfl rfl)
        case stop =>
          rintro D c0 pre W _ _ h _
          exact h.elim

theorem implVersAtO {v : Value} {z : Int} {l : List V} {base : Nat} {w : World} (t : Int) (h : OwnG w base v l) (hf : FitVs l) (hl : l.length ≤ 1048576) :
    Calls Try.prog 26 #[.agg #[.int .i64 z, v], .int .i64 t] w (RetR w (versAt z l t)) := by
  obtain ⟨A, c, rfl, h1, h2, hr⟩ := h.read
  exact implVersAt z A c l t w hf h1 h2 hl hr
theorem specVersAtO {v : Value} {z : Int} {l : List V} {base : Nat} {w : World} (t : Int) (h : OwnG w base v l) (hf : FitVs l) (hl : l.length ≤ 1048576) :
    Calls Try.prog 25 #[.agg #[.int .i64 z, v], .int .i64 t] w (RetR w (versAt z l t)) := by
  obtain ⟨A, c, rfl, h1, h2, hr⟩ := h.read
  exact specVersAt z A c l t w hf h1 h2 hl hr

end Go.Proofs.Ytbhdgalkedegjaa
