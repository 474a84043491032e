/- RowsIn of the program. -/
import Derived.Test.YtabpepddbkipiaaIn1
namespace Go.Proofs.Ytabpepddbkipiaa
open Go.RowKit Go.Shelf
set_option linter.unusedVariables false
attribute [local go_sem] Oper.semAt_some

set_option maxHeartbeats 1000000 in
theorem between_c (A : Option Addr) (n c : Nat) (lo hi : ByteArray) (w : World) :
    Calls Try.prog 68 #[.slice A n c, .string lo, .string hi] w fun e w' =>
      e = .returned (.func (.func 78) #[] #[.pointer (some ⟨w.heap.size, 0, none⟩), .pointer (some ⟨w.heap.size + 1, 0, none⟩), .pointer (some ⟨w.heap.size + 2, 0, none⟩)]) ∧
      w' = ((w.alloc (.cells #[.slice A n c] 64)).alloc (.cells #[.string lo] 9)).alloc (.cells #[.string hi] 9) := by
  go_enter Try.func68, Try.ntmps68
  go_wp2
  go_ret
  exact ⟨by simp, rfl⟩

theorem boxes_new (w : World) (A : Option Addr) (n c : Nat) (lo hi : ByteArray) : Boxes (((w.alloc (.cells #[.slice A n c] 64)).alloc (.cells #[.string lo] 9)).alloc (.cells #[.string hi] 9)) w.heap.size A n c lo hi := by
  have b1 := Boxed.new w 64 (.slice A n c)
  have b2 := Boxed.new (w.alloc (.cells #[.slice A n c] 64)) 9 (.string lo)
  have b3 := Boxed.new ((w.alloc (.cells #[.slice A n c] 64)).alloc (.cells #[.string lo] 9)) 9 (.string hi)
  simp only [World.size_alloc] at b2 b3
  exact ⟨(b1.alloc _).alloc _, b2.alloc _, b3⟩

theorem between_stops (m Bn n₀ : Nat) (A : Option Addr) (c : Nat) (l : List R) (lo hi : ByteArray) (hlc : l.length ≤ c) (hc : l.length ≤ 1048576) (hS : Srt l) (w0 : World)
    (hn₀ : n₀ ≤ w0.heap.size) (hBn : n₀ ≤ Bn) (hbx : Boxes w0 Bn A l.length c lo hi) (hr : Rd w0 n₀ A l) :
    SeqStopsK Fence.wide m Try.prog 78 #[.pointer (some ⟨Bn, 0, none⟩), .pointer (some ⟨Bn + 1, 0, none⟩), .pointer (some ⟨Bn + 2, 0, none⟩)] (fun x : R => #[encR x]) (KpB n₀ Bn) (fun ys => ys = inL l lo hi) (fun _ => True) l.length w0 :=
  fun l0 J Jx W hW hJ _ hY h0 => callsIn_wide.2 (between1_c m l0 Bn n₀ A c l lo hi hlc hc hS J Jx W hJ hY (Nat.le_trans hn₀ hW.size) hBn (hbx.next hW) (hr.below (hW.mono hn₀)) h0)

theorem wpListIn_appR {F : Fence} {n : Nat} {ops : Array Oper} {rest : List Oper} {o : Oper} {a : Act} {Q : Exit → Act → World → Prop} (w : World) (hgd : o.guard = none) (s x : Operand) (t : TypeId)
    (ho : o.op = .call { callee := .builtin .append, args := #[s, x], argTypes := #[t, t] }) (ht : Try.prog.underlying t = some (.slice 50))
    (base : Nat) (v : Value) (l : List R) (hs : a.eval s = v) (hown : OwnR w base v l) (A : Option Addr) (c B n2 : Nat) (l2 : List R) (hn2 : l2.length = n2) (hx : a.eval x = .slice A n2 c) (hr : Rd w B A l2) (hlen : l.length + l2.length ≤ 4194304) (hbase : base ≤ w.heap.size)
    (h : ∀ v' w', OwnR w' base v' (l ++ l2) → w.grownBy w' v.ownBlock → wpListIn F n Try.prog ops Q rest (a.put o.dst v') w') :
    wpListIn F n Try.prog ops Q (o :: rest) a w := by
  subst hn2
  refine wpListIn_plain hgd fun K hK' => ?_
  obtain ⟨v', w', hrun, r1, r2, r3⟩ := runAppR t t o.type 50 ht ht w base v l hown A c B l2 hr hlen hbase
  unfold Oper.wpIn
  refine ⟨?_, ?_⟩
  · simp [Oper.about, ho, resolve, Target.leads, Sem.run_pure]
  · rw [Oper.semAt_plain F _ _ (by rw [ho]; intro c hc'; cases hc')]
    simp [execOp, ho, resolve, invoke, builtin, hs, hx, hrun, Result.andThen]
    exact hK' _ _ (h v' w' r1 r2)

/-- what the loop keeps: the rows that have come lie in the box B; the iterator's boxes stand -/
def InI (w1 : World) (A : Option Addr) (n c : Nat) (lo hi : ByteArray) (pre : List R) (W : World) : Prop :=
  (∃ v, Boxed W w1.heap.size 26 v ∧ OwnR W w1.heap.size v pre) ∧ Boxes W (w1.heap.size + 1) A n c lo hi ∧ Below w1.heap.size w1 W
theorem boxed_keep {W W' : World} {row : Option Nat} {B : Nat} {t : TypeId} {v : Value} (h : Boxed W B t v) (hg : W.grownBy W' row) (hr : ∀ r, row = some r → ∃ o : Obj, W.heap[r]? = some o ∧ o.isCells = false) : Boxed W' B t v :=
  h.kept hg fun e => by
    obtain ⟨o, h1, h2⟩ := hr B e.symm
    rw [show W.heap[B]? = _ from h] at h1
    cases h1; cases h2
theorem ownR_keep {W W' : World} {row : Option Nat} {base : Nat} {v : Value} {l : List R} (h : OwnR W base v l) (hg : W.grownBy W' row) (hr : ∀ r, row = some r → ∃ o : Obj, W.heap[r]? = some o ∧ o.isCells = false) : OwnR W' base v l := by
  rcases h.cases with ⟨rfl, rfl⟩ | ⟨g, cap, cur, rfl, hb, hblk, hl, hm, hs, ht⟩
  · exact OwnR.nil _ _
  · refine OwnR.mk hb ((hg.block g hblk.lt fun e => ?_).trans hblk) hl hm hs ht
    obtain ⟨o, h1, h2⟩ := hr g e.symm
    rw [show W.heap[g]? = _ from hblk] at h1
    cases h1; cases h2
theorem inI_own (w1 : World) (A : Option Addr) (n c : Nat) (lo hi : ByteArray) (B : Nat) (hB : w1.heap.size ≤ B) : OwnFrom B (InI w1 A n c lo hi) := by
  rintro s W W' row ⟨⟨v, hv, ho⟩, hx, hb⟩ hg hr
  have hr' : ∀ r, row = some r → ∃ o : Obj, W.heap[r]? = some o ∧ o.isCells = false := fun r e => (hr r e).2
  exact ⟨⟨v, boxed_keep hv hg hr', ownR_keep ho hg hr'⟩, ⟨boxed_keep hx.s hg hr', boxed_keep hx.lo hg hr', boxed_keep hx.hi hg hr'⟩, hb.grown hg hb.size fun k e => Nat.le_trans hB (hr k e).1⟩
theorem kpB_t {n₀ Bn : Nat} {A B C : World} (h : KpB n₀ Bn A B) (k : KpB n₀ Bn B C) : KpB n₀ Bn A C :=
  ⟨h.1.trans k.1, Nat.le_trans h.2.1 k.2.1, fun i h1 h2 => (k.2.2 i h1 h2).trans (h.2.2 i h1 h2)⟩
theorem kpB_b {n₀ Bn : Nat} {w : World} (hn : n₀ ≤ w.heap.size) (hB : Bn + 3 ≤ w.heap.size) (W : World) (l : Nat) (o o' : Obj) (hl : w.heap.size ≤ l) (h : W.heap[l]? = some o) (h1 : o.isCells = false) (h2 : o.isWalk = false) : KpB n₀ Bn W (W.putObj l o') := by
  have hb := belowK_b (w := w) (Nat.le_refl _) W l o o' hl h h1 h2
  exact ⟨hb.mono hn, hb.size, fun k _ hk => hb.block k (by omega)⟩
theorem kpB_alloc {n₀ Bn n c : Nat} {A : Option Addr} {lo hi : ByteArray} {W : World} (hn : n₀ ≤ W.heap.size) (h : Boxes W Bn A n c lo hi) (o : Obj) : KpB n₀ Bn W (W.alloc o) := by
  have hb : Below W.heap.size W (W.alloc o) := below_alloc (Below.refl _ _) o
  have := h.hi.lt
  exact ⟨hb.mono hn, hb.size, fun k _ hk => hb.block k (by omega)⟩
theorem Boxes.alloc {Bn n c : Nat} {A : Option Addr} {lo hi : ByteArray} {W : World} (h : Boxes W Bn A n c lo hi) (o : Obj) : Boxes (W.alloc o) Bn A n c lo hi := ⟨h.s.alloc _, h.lo.alloc _, h.hi.alloc _⟩
theorem InI.alloc {w1 : World} {A : Option Addr} {n c : Nat} {lo hi : ByteArray} {pre : List R} {W : World} (h : InI w1 A n c lo hi pre W) (o : Obj) : InI w1 A n c lo hi pre (W.alloc o) := by
  obtain ⟨⟨v, hv, ho⟩, hx, hb⟩ := h
  exact ⟨⟨v, hv.alloc _, ho.alloc _⟩, hx.alloc _, below_alloc hb o⟩

/-- the body's step: a row is appended to what lies in the box -/
theorem in_step {w1 W w5 : World} {A : Option Addr} {n c : Nat} {lo hi : ByteArray} {pre : List R} {x : R} {v v' : Value} {tmp : Obj} (hv : Boxed W w1.heap.size 26 v) (ho : OwnR W w1.heap.size v pre) (hx : Boxes W (w1.heap.size + 1) A n c lo hi) (hb : Below w1.heap.size w1 W)
    (ho' : OwnR w5 w1.heap.size v' (pre ++ [x])) (hg : (W.alloc tmp).grownBy w5 v.ownBlock) (B : Nat) :
    Boxed w5 w1.heap.size 26 v ∧ (KeepsFrom B W (w5.setCell ⟨w1.heap.size, 0, none⟩ v') ∧ KpB w1.heap.size (w1.heap.size + 1) W (w5.setCell ⟨w1.heap.size, 0, none⟩ v') ∧ InI w1 A n c lo hi (pre ++ [x]) (w5.setCell ⟨w1.heap.size, 0, none⟩ v')) := by
  obtain ⟨hv1, hv2, hr2, hk2, hb2⟩ := hv.appended (by decide) ho hb.size (Nat.le_refl _) ho' hg
  have hkp : KpB w1.heap.size (w1.heap.size + 1) W (w5.setCell ⟨w1.heap.size, 0, none⟩ v') := by
    refine ⟨hb2, hb2.size, fun k h1 h2 => ?_⟩
    have hne : some k ≠ v.ownBlock := by
      have hk : k = w1.heap.size + 1 ∨ k = w1.heap.size + 1 + 1 ∨ k = w1.heap.size + 1 + 2 := by omega
      rcases hk with rfl | rfl | rfl
      · exact hx.s.not_row (by decide) ho
      · exact hx.lo.not_row (by decide) ho
      · exact hx.hi.not_row (by decide) ho
    have hlt : k < W.heap.size := by have := hx.hi.lt; omega
    rw [Below.heap_setCell w5 ⟨w1.heap.size, 0, none⟩ v' k (by simp; omega)]
    exact (hg.block k (by simp; omega) hne).trans (Below.heap_alloc W tmp k hlt)
  exact ⟨hv1, hk2.from _, hkp, ⟨_, hv2, hr2⟩, hx.kept hkp, hb.trans hb2⟩

end Go.Proofs.Ytabpepddbkipiaa
