/- The program's view: what the merging iterator yields, collected. -/
import Derived.Test.YtnijgbinjbikbaaGreatX3c
namespace Go.Proofs.YtnijgbinjbikbaaGreat
open Go.RowKit Go.Maps Go.Shelf
set_option linter.unusedVariables false
set_option maxRecDepth 100000
attribute [local go_sem] Oper.semAt_some

theorem wpListIn_appRat {F : Fence} {n : Nat} {ops : Array Oper} {rest : List Oper} {o : Oper} {a : Act} {Q : Exit → Act → World → Prop} (w : World) (hgd : o.guard = none) (s x : Operand) (t : TypeId)
  (ho : o.op = .call { callee := .builtin .append, args := #[s, x], argTypes := #[t, t] }) (ht : Tryz.prog.underlying t = some (.slice 94))
  (base : Nat) (v : Value) (l : List R) (hs : a.eval s = v) (hown : OwnR w base v l) (A : Option Addr) (c B n2 : Nat) (l2 : List R) (hn2 : l2.length = n2) (hx : a.eval x = .slice A n2 c) (hr : Rd w B A l2) (hlen : l.length + l2.length ≤ 4194304) (hbase : base ≤ w.heap.size)
  (h : ∀ v' w', OwnR w' base v' (l ++ l2) → w.grownBy w' v.ownBlock → (v'.ownBlock = v.ownBlock ∨ v'.ownBlock = some w.heap.size) → wpListIn F n Tryz.prog ops Q rest (a.put o.dst v') w') :
  wpListIn F n Tryz.prog ops Q (o :: rest) a w := by
 subst hn2
 refine wpListIn_plain hgd fun K hK' => ?_
 obtain ⟨v', w', hrun, h2, h3, h4⟩ := runAppR t t o.type _ ht ht w base v l hown A c B l2 hr hlen hbase
 unfold Oper.wpIn
 refine ⟨?_, ?_⟩
 ·
  simp [Oper.about, ho, resolve, Target.leads, Sem.run_pure]
 ·
  rw [Oper.semAt_plain F _ _ (by rw [ho]; intro c hc'; cases hc')]
  simp [execOp, ho, resolve, invoke, builtin, hs, hx, hrun, Result.andThen]
  exact hK' _ _ (h v' w' h2 h3 h4)

/-- the collector's blocks -/
def colOwn (sb D l : Nat) (W : World) (k : Nat) : Prop := k = sb ∨ k = D ∨ k = l ∨ ∃ v, Boxed W sb 57 v ∧ v.ownBlock = some k
structure ColJ (w : World) (sb D l : Nat) (rec : Loop) (pre : List R) (W : World) : Prop where
 box : ∃ v, Boxed W sb 57 v ∧ OwnR W w.heap.size v pre
 chg : Chg (fun k => k = sb) w W
 rc : W.heap[l]? = some (.loop rec)
 df : W.heap[D]? = some (.deferred (some []))
theorem boxed_inj {W : World} {B : Nat} {t : TypeId} {v v' : Value} (h : Boxed W B t v) (h' : Boxed W B t v') : v = v' := by
 unfold Boxed at h h'; rw [h] at h'; simpa using h'
theorem col_cal {w : World} {sb D l : Nat} {rec : Loop} (hsb : sb < w.heap.size) (hD : D = w.heap.size) (hl : l = w.heap.size + 1) : Cal (w.heap.size + 2) (colOwn sb D l) (ColJ w sb D l rec) where
 lt := by
  rintro pre W k h (rfl | rfl | rfl | ⟨v, hv, hk⟩)
  ·
   obtain ⟨v, hv, _⟩ := h.box; exact hv.lt
  ·
   exact (Array.getElem?_eq_some_iff.1 h.df).1
  ·
   exact (Array.getElem?_eq_some_iff.1 h.rc).1
  ·
   obtain ⟨v', hv', ho⟩ := h.box
   obtain rfl := boxed_inj hv hv'
   exact (ho.block_lt hk).2
 step := by
  rintro pre A B row h hg hr
  obtain ⟨v, hv, ho⟩ := h.box
  have hne : ∀ k, k < w.heap.size + 2 → some k ≠ row := fun k hk e => by have := (hr k e.symm).1; omega
  refine ⟨⟨v, (hg.block sb hv.lt (hne sb (by omega))).trans hv, ho.keep fun g hgk => hg.block g (ho.block_lt hgk).2 fun e => ?_⟩, h.chg.grown hg (fun k e => by have := (hr k e).1; omega), (hg.block l (Array.getElem?_eq_some_iff.1 h.rc).1 (hne l (by omega))).trans h.rc, (hg.block D (Array.getElem?_eq_some_iff.1 h.df).1 (hne D (by omega))).trans h.df⟩
  obtain ⟨_, h1 | ⟨o, h1, h2⟩⟩ := hr g e.symm
  ·
   exact h1 (.inr (.inr (.inr ⟨v, hv, hgk⟩)))
  ·
   rcases ho.cases with ⟨rfl, _⟩ | ⟨g', cap, cur, rfl, _, hb, _⟩
   ·
    simp [Value.ownBlock] at hgk
   ·
    obtain rfl : g' = g := by simpa [Value.ownBlock] using hgk
    rw [show A.heap[g']? = _ from hb] at h1; cases h1; cases h2
 same := by
  rintro A B row hA hg hr k
  have hsb' : B.heap[sb]? = A.heap[sb]? := hg.block sb (by omega) (fun e => by have := (hr sb e.symm).1; omega)
  unfold colOwn Boxed
  rw [hsb']

/-- a range over an iterator that leaves its caller's blocks alone: the collector -/
theorem range_col {g : Operand} {ps : Array Tmp} {assign body : Code} {Q : Exit → Act → World → Prop} {a : Act} {w : World} {gf : Nat} {lb : Array Value}
  (hg : a.eval g = .func (.func gf) #[] lb) (eg : ∀ args w, (callFunc gf args).run Tryz.prog w = .ok (.enter gf args) w) (hps : ps.size = 1)
  (sb : Nat) (hsb : sb < w.heap.size) (h0 : Boxed w sb 57 (.slice none 0 0)) (S : List R)
  (hseq : ∀ (rec : Loop) (W1 : World), Below w.heap.size w W1 → W1.heap.size = w.heap.size + 2 → YieldOk (w.heap.size + 2) (w.heap.size + 1) (colOwn sb w.heap.size (w.heap.size + 1)) (ColJ w sb w.heap.size (w.heap.size + 1) rec) → ColJ w sb w.heap.size (w.heap.size + 1) rec [] W1 →
   CallsIn Fence.wide 5 Tryz.prog gf (#[.func (.yield (w.heap.size + 1)) #[] #[]] ++ lb) W1 fun e W' => (∃ v, e = .returned v) ∧ ColJ w sb w.heap.size (w.heap.size + 1) rec S W')
  (hround : ∀ (m : Nat) (pre : List R) (x : R) (W : World) (rec : Loop), rec.state = .ready → rec.pending = none → ColJ w sb w.heap.size (w.heap.size + 1) rec pre W → pre.length ≤ 2097152 →
   assign.wpIn (Fence.wide.inRound (w.heap.size + 1)) m Tryz.prog (Exit.then (fun a₁ w₁ => ∃ w₂, (Instr.beginRound (w.heap.size + 1)).run Tryz.prog w₁ = .ok () w₂ ∧ body.wpIn (Fence.wide.inRound (w.heap.size + 1)) m Tryz.prog (roundPost Tryz.prog (w.heap.size + 1) (fun e W' => e = .returned (.bool true) ∧ ColJ w sb w.heap.size (w.heap.size + 1) rec (pre ++ [x]) W' ∧ Kpt (w.heap.size + 2) (colOwn sb w.heap.size (w.heap.size + 1)) W W')) a₁ w₂) (fun _ _ _ => False))
    { tmps := (ps.zip #[encR x]).foldl (fun t (p, v) => t.setIfInBounds p v) a.tmps, defers := [] } W)
  (hdone : ∀ (W : World) (rec : Loop), ColJ w sb w.heap.size (w.heap.size + 1) rec S W → Q .normal { a with defers := { target := .collected w.heap.size, args := #[] } :: a.defers } (W.putObj (w.heap.size + 1) (.loop { rec with state := .exhausted }))) :
  (Code.rangeFunc g ps assign body).wpIn Fence.wide 6 Tryz.prog Q a w := by
 refine wpIn_rangeFunc ?_
 intro fn hfn
 obtain ⟨rec, hrec⟩ : ∃ rec : Loop, rec = { state := .ready, pending := none, fn, tmps := a.tmps, params := ps, assign, body, defers := w.heap.size } := ⟨_, rfl⟩
 obtain ⟨W1, hW1⟩ : ∃ W1, (w.alloc (.deferred (some []))).alloc (.loop rec) = W1 := ⟨_, rfl⟩
 have hL1 : W1.heap[w.heap.size + 1]? = some (.loop rec) := by
  rw [← hW1]; have := World.alloc_heap_new (w.alloc (.deferred (some []))) (.loop rec); rwa [World.size_alloc] at this
 have hK1 : W1.heap[w.heap.size]? = some (.deferred (some [])) := by
  rw [← hW1]; exact (Below.heap_alloc _ _ _ (by simp)).trans (World.alloc_heap_new w _)
 have hb1 : Below w.heap.size w W1 := by rw [← hW1]; exact below_alloc (below_alloc (Below.refl _ _) _) _
 have hs1 : W1.heap.size = w.heap.size + 2 := by rw [← hW1]; simp
 have hJ0 : ColJ w sb w.heap.size (w.heap.size + 1) rec [] W1 := ⟨⟨_, (hb1.block sb hsb).trans h0, OwnR.nil _ _⟩, Chg.of_below hb1, hL1, hK1⟩
 refine ⟨w.heap.size + 1, [{ target := .collected w.heap.size, args := #[] }], W1, { target := .fn (.func gf) lb, args := #[.func (.yield (w.heap.size + 1)) #[] #[]] }, W1, gf, #[.func (.yield (w.heap.size + 1)) #[] #[]] ++ lb, W1, ?_, ?_, ?_, ?_, fun _ => by omega, ?_⟩
 ·
  rw [← hW1, hrec]; exact run_enterLoop_outer _ _ _ _ _
 ·
  simp only [resolve, hg]
  simp [go_sem]
 ·
  intro f' hf'; trivial
 ·
  simp [invoke, go_sem, eg]
 ·
  refine (hseq rec W1 hb1 hs1 ?_ hJ0).mono ?_
  ·
   intro m pre x W hj hlen
   have hy := run_yield (P := Tryz.prog) (args := #[encR x]) hj.rc (by rw [hrec]; simp [hps])
   have e1 : rec.fn = fn := by rw [hrec]
   have e2 : rec.params = ps := by rw [hrec]
   have e3 : rec.tmps = a.tmps := by rw [hrec]
   have e4 : rec.assign = assign := by rw [hrec]
   have e5 : rec.body = body := by rw [hrec]
   rw [e1, e2, e3, e4, e5] at hy
   exact ⟨fn, _, assign, body, hy, roundIn_of_wpIn hfn (hround m pre x W rec (by rw [hrec]) (by rw [hrec]) hj hlen)⟩
  ·
   rintro e W2 ⟨⟨v, rfl⟩, hj⟩
   have he := run_endLoop (P := Tryz.prog) hj.rc (by rw [hrec]; simp)
   have e6 : rec.pending = none := by rw [hrec]
   rw [e6] at he
   have hd := hdone W2 rec hj
   rw [e6] at hd
   exact ⟨none, _, he, hd⟩

theorem col_end {We : World} {l : Nat} {rec : Loop} (hst : rec.state = .ready) (hpd : rec.pending = none) (h : We.heap[l]? = some (.loop { rec with state := .busy })) :
  (Instr.endRound l none).run Tryz.prog We = .ok (.bool true) (We.putObj l (.loop rec)) := by
 rw [run_endRound (P := Tryz.prog) none h]
 obtain ⟨⟩ := rec
 simp only at hst hpd
 subst hst; subst hpd; rfl
theorem putObj_self {W : World} {l : Nat} (o : Obj) (h : l < W.heap.size) : (W.putObj l o).heap[l]? = some o := by
 simp [World.putObj, h]
/-- a round of the collector -/
theorem col_round {w W Wb w5 : World} {sb : Nat} {rec : Loop} {pre : List R} {x : R} {v v' : Value} {tmp : Obj} (hsb : sb < w.heap.size) (hj : ColJ w sb w.heap.size (w.heap.size + 1) rec pre W) (hv : Boxed W sb 57 v) (ho : OwnR W w.heap.size v pre)
  (hsz : W.heap.size ≤ Wb.heap.size) (hkb : ∀ k, k < W.heap.size → k ≠ w.heap.size + 1 → Wb.heap[k]? = W.heap[k]?) (hlb : Wb.heap[w.heap.size + 1]? = some (.loop { rec with state := .busy })) (hcb : Chg (fun k => k = sb) w Wb)
  (ho' : OwnR w5 w.heap.size v' (pre ++ [x])) (hg : (Wb.alloc tmp).grownBy w5 v.ownBlock) (hat : v'.ownBlock = v.ownBlock ∨ v'.ownBlock = some (Wb.alloc tmp).heap.size) :
  Boxed w5 sb 57 v ∧ (w5.setCell ⟨sb, 0, none⟩ v').heap[w.heap.size + 1]? = some (.loop { rec with state := .busy }) ∧
  ColJ w sb w.heap.size (w.heap.size + 1) rec (pre ++ [x]) ((w5.setCell ⟨sb, 0, none⟩ v').putObj (w.heap.size + 1) (.loop rec)) ∧ Kpt (w.heap.size + 2) (colOwn sb w.heap.size (w.heap.size + 1)) W ((w5.setCell ⟨sb, 0, none⟩ v').putObj (w.heap.size + 1) (.loop rec)) := by
 have hge : ∀ g, v.ownBlock = some g → w.heap.size ≤ g ∧ g < W.heap.size := fun g h => ho.block_lt h
 have hge' : ∀ g, v'.ownBlock = some g → w.heap.size ≤ g := fun g h => (ho'.block_lt h).1
 have hcl := ownR_cells ho
 have hlW : w.heap.size + 1 < W.heap.size := (Array.getElem?_eq_some_iff.1 hj.rc).1
 have hDW : w.heap.size < W.heap.size := by omega
 have hnl : some (w.heap.size + 1) ≠ v.ownBlock := fun e => by have := hcl _ _ e.symm hj.rc; cases this
 have hnD : some w.heap.size ≠ v.ownBlock := fun e => by have := hcl _ _ e.symm hj.df; cases this
 have hac : (Wb.alloc tmp).heap.size = Wb.heap.size + 1 := by simp
 have h5 : ∀ k, k < Wb.heap.size → some k ≠ v.ownBlock → w5.heap[k]? = Wb.heap[k]? := fun k h1 h2 => (hg.block k (by omega) h2).trans (Below.heap_alloc Wb tmp k h1)
 have hs5 := hg.size
 have hnb : some sb ≠ v.ownBlock := fun e => by have := (hge sb e.symm).1; omega
 have hv5 : Boxed w5 sb 57 v := ((h5 sb (by omega) hnb).trans (hkb sb (by omega) (by omega))).trans hv
 have hL : (w5.setCell ⟨sb, 0, none⟩ v').heap[w.heap.size + 1]? = some (.loop { rec with state := .busy }) := by
  rw [Below.heap_setCell w5 ⟨sb, 0, none⟩ v' (w.heap.size + 1) (by show w.heap.size + 1 ≠ sb; omega)]
  exact (h5 _ (by omega) hnl).trans hlb
 have hse : (w5.setCell ⟨sb, 0, none⟩ v').heap.size = w5.heap.size := by simp [World.setCell]
 have hbe : Boxed (w5.setCell ⟨sb, 0, none⟩ v') sb 57 v' := hv5.set v'
 have hoe : OwnR (w5.setCell ⟨sb, 0, none⟩ v') w.heap.size v' (pre ++ [x]) := ho'.setCell (a := ⟨sb, 0, none⟩) (fun g h e => by have := hge' g h; have : g = sb := e; omega) _
 have hce : Chg (fun k => k = sb) w (w5.setCell ⟨sb, 0, none⟩ v') := ((hcb.alloc tmp).grown hg (fun k e => (hge k e).1)).setCell (a := ⟨sb, 0, none⟩) (.inl rfl) _
 have key : ∀ k, k < W.heap.size → k ≠ w.heap.size + 1 → some k ≠ v.ownBlock → k ≠ sb → ((w5.setCell ⟨sb, 0, none⟩ v').putObj (w.heap.size + 1) (.loop rec)).heap[k]? = W.heap[k]? := fun k h1 h2 h3 h4 =>
  ((((grownBy_putObj' (w5.setCell ⟨sb, 0, none⟩ v') (w.heap.size + 1) (.loop rec)).block k (by omega) (fun e => h2 (by injection e))).trans (Below.heap_setCell w5 ⟨sb, 0, none⟩ v' k h4)).trans (h5 k (by omega) h3)).trans (hkb k h1 h2)
 have hbf : Boxed ((w5.setCell ⟨sb, 0, none⟩ v').putObj (w.heap.size + 1) (.loop rec)) sb 57 v' := hbe.kept (grownBy_putObj' _ _ _) (fun e => by injection e with e; omega)
 have hgf := (grownBy_putObj' (w5.setCell ⟨sb, 0, none⟩ v') (w.heap.size + 1) (.loop rec))
 refine ⟨hv5, hL, ⟨⟨v', hbf, ?_⟩, ?_, ?_, ?_⟩, ⟨?_, ?_, ?_, ?_, ?_⟩⟩
 ·
  exact ownsRow_putObj hoe _ hL rfl
 ·
  exact hce.grown hgf (fun k e => by injection e with e; omega)
 ·
  exact putObj_self _ (by omega)
 ·
  exact (key _ hDW (by omega) hnD (by omega)).trans hj.df
 ·
  have := hgf.size; omega
 ·
  intro k hk hn
  exact key k hk (fun e => hn (.inr (.inr (.inl e)))) (fun e => hn (.inr (.inr (.inr ⟨v, hv, e.symm⟩)))) (fun e => hn (.inl e))
 ·
  rintro k hk hn (e | e | e | ⟨u, hu, e⟩)
  ·
   exact hn (.inl e)
  ·
   exact hn (.inr (.inl e))
  ·
   exact hn (.inr (.inr (.inl e)))
  ·
   obtain rfl := boxed_inj hu hbf
   rcases hat with h | h
   ·
    exact hn (.inr (.inr (.inr ⟨v, hv, by rw [← h]; exact e⟩)))
   ·
    rw [h] at e; injection e with e; omega
 ·
  have := hgf.size; omega
 ·
  intro k o h1 h2 h3
  refine (key k (Array.getElem?_eq_some_iff.1 h2).1 (by omega) (fun e => ?_) (by omega)).trans h2
  have := hcl k o e.symm h2
  rw [h3] at this; cases this

set_option maxHeartbeats 4000000 in
theorem appendSeq_c (ns s Bb b nn Bq Bs Bt : Nat) (z t : Int) (chs : List Ch) (ws : List X) (hl : chs.length ≤ 1048576) (hlw : ws.length ≤ 1048576) (ha : AscW ws) (hfx : FitXs ws) (w : World)
  (hBb : Blk w Bb 142 #[.map (some b)]) (hBuf : Buf w b nn ws) (hBq : Blk w Bq 114 #[.func (.func 96) #[] #[.pointer (some ⟨Bs, 0, none⟩), .pointer (some ⟨Bt, 0, none⟩)]])
  (hBs : Blk w Bs 71 #[.pointer (some ⟨s, 0, none⟩)]) (hBt : Blk w Bt 105 #[.int .i64 t]) (W0 : World) (hS : Sto W0 ns s z chs) (hk0 : KpT (fun k => ns ≤ k ∧ k < W0.heap.size) W0 w) :
  Calls Tryz.prog 109 #[.slice none 0 0, .func (.func 111) #[] #[.pointer (some ⟨Bb, 0, none⟩), .pointer (some ⟨Bq, 0, none⟩)]] w (RetR w (mrg (snapL t chs) ws)) := by
 have hb0 : Below w.heap.size w (w.alloc (.cells #[.slice none 0 0] 57)) := below_alloc (Below.refl _ _) _
 have hB0 : Boxed (w.alloc (.cells #[.slice none 0 0] 57)) w.heap.size 57 (.slice none 0 0) := Boxed.new w _ _
 have hsz0 : (w.alloc (.cells #[.slice none 0 0] 57)).heap.size = w.heap.size + 1 := by simp
 refine (callsIn_wide (n := 6)).1 (callsIn_of_wp_marks Tryz.func109 rfl trivial ?_ rfl)
 simp only [Tryz.ntmps109, List.size_toArray, List.length_cons, List.length_nil, Nat.reduceAdd, Nat.reduceSub, Array.replicate_succ, Array.replicate_zero, List.push_toArray, List.append_toArray, List.nil_append, List.cons_append]
 refine wpIn_wide.2 ?_
 go_wp2
 generalize w.alloc (.cells #[.slice none 0 0] 57) = w1 at hb0 hB0 hsz0 ⊢
 refine (wpIn_wide (n := 6)).1 ?_
 refine range_col (gf := 111) (lb := #[.pointer (some ⟨Bb, 0, none⟩), .pointer (some ⟨Bq, 0, none⟩)]) rfl (enters_of Tryz.func111 (by kernel_rfl) rfl) rfl w.heap.size (by omega) hB0 (mrg (snapL t chs) ws) ?hseq ?hround ?hdone
 case hseq =>
  intro rec W1 hbW hsW hY hJ0
  have hB : Below w.heap.size w W1 := below_next hb0 hbW
  have hC : Cal W1.heap.size (colOwn w.heap.size w1.heap.size (w1.heap.size + 1)) (ColJ w1 w.heap.size w1.heap.size (w1.heap.size + 1) rec) := by rw [hsW]; exact col_cal (by omega) rfl rfl
  have hY' : YieldOk W1.heap.size (w1.heap.size + 1) (colOwn w.heap.size w1.heap.size (w1.heap.size + 1)) (ColJ w1 w.heap.size w1.heap.size (w1.heap.size + 1) rec) := by rw [hsW]; exact hY
  have h1 := hBb.lt
  have h2 := hBq.lt
  have h3 := hBs.lt
  have h4 := hBt.lt
  have h5 := hk0.1
  have C := over1_c (w1.heap.size + 1) ns s Bb b nn Bq Bs Bt z t chs ws hl hlw ha hfx _ _ W1 hC hY' hJ0 (hBb.next hB) (hBuf.next hB) (hBq.next hB) (hBs.next hB) (hBt.next hB) W0 hS (hk0.trans (KpT.below hB (fun k hk => by omega)))
   (by
    intro k hk
    have hkl : k < w.heap.size := by rcases hk with rfl | rfl | rfl | rfl | hk <;> omega
    rintro (e | e | e | ⟨u, hu, e⟩)
    ·
     omega
    ·
     omega
    ·
     omega
    ·
     obtain rfl := boxed_inj hu (show Boxed W1 w.heap.size 57 (.slice none 0 0) from (hbW.block w.heap.size (by omega)).trans hB0)
     simp [Value.ownBlock] at e)
  exact callsIn_wide.2 C
 case hround =>
  intro m pre x W rec hst hpd hj hlen
  obtain ⟨v, hv, ho⟩ := hj.box
  have hWl := (Array.getElem?_eq_some_iff.1 hj.rc).1
  have hr1 : (W.alloc (.cells #[.string x.1, .int .i64 x.2] 94)).heap[w1.heap.size + 1]? = some (.loop rec) := (Below.heap_alloc W _ _ hWl).trans hj.rc
  have hsa : (W.alloc (.cells #[.string x.1, .int .i64 x.2] 94)).heap.size = W.heap.size + 1 := by simp
  obtain ⟨Wb, hWb⟩ : ∃ Wb, (W.alloc (.cells #[.string x.1, .int .i64 x.2] 94)).putObj (w1.heap.size + 1) (.loop { rec with state := .busy }) = Wb := ⟨_, rfl⟩
  have hgb : (W.alloc (.cells #[.string x.1, .int .i64 x.2] 94)).grownBy Wb (some (w1.heap.size + 1)) := by rw [← hWb]; exact grownBy_putObj' _ _ _
  have hlb : Wb.heap[w1.heap.size + 1]? = some (.loop { rec with state := .busy }) := by rw [← hWb]; exact putObj_self _ (by omega)
  have hbeg := run_beginRound (P := Tryz.prog) hr1 hst
  rw [hWb] at hbeg
  have hsb1 := hgb.size
  have hkb : ∀ k, k < W.heap.size → k ≠ w1.heap.size + 1 → Wb.heap[k]? = W.heap[k]? := fun k h1 h2 => (hgb.block k (by omega) (fun e => h2 (by injection e))).trans (Below.heap_alloc W _ k h1)
  have hXb : Blk Wb W.heap.size 94 #[.string x.1, .int .i64 x.2] := (hgb.block _ (by omega) (fun e => by injection e with e; omega)).trans (heap_alloc_new W _)
  have hvb : Boxed Wb w.heap.size 57 v := (hkb _ hv.lt (by omega)).trans hv
  have hob : OwnR Wb w1.heap.size v pre := ho.keep fun g hg => hkb g (ho.block_lt hg).2 (fun e => by
   subst e
   have := ownR_cells ho _ _ hg hj.rc
   cases this)
  have hcb : Chg (fun k => k = w.heap.size) w1 Wb := (hj.chg.alloc _).grown hgb (fun k e => by injection e with e; omega)
  clear hWb hgb
  dsimp only [encR]
  gi_wp2
  refine ⟨Wb, hbeg, ?_⟩
  have d0 := hvb.cell
  have f0 := hvb.frozen
  have hX1 : Wb.cell? ⟨W.heap.size, 0, none⟩ = some (.string x.1) := by rw [hXb.cell]; rfl
  have hX2 : Wb.cell? ⟨W.heap.size, 1, none⟩ = some (.int .i64 x.2) := by rw [hXb.cell]; rfl
  gi_wp2_with (gi_at_builtin; refine wpListIn_appRat (Wb.alloc (.cells #[.string x.1, .int .i64 x.2] 94)) rfl _ _ 57 rfl Tryz.underlying57 w1.heap.size v pre rfl (hob.alloc _) (some ⟨Wb.heap.size, 0, none⟩) 1 _ 1 [x] rfl rfl (rdOne Wb x.1 x.2 94) (by simp; omega) (by have := hj.chg.size; simp; omega) ?_; intro v' w5 hown' hgrow hat; obtain ⟨hv1, hl1, hfin⟩ := col_round (by omega) hj hv ho (by omega) hkb hlb hcb hown' hgrow hat; have hc1 := hv1.cell; have hf1 := hv1.frozen; have hend := col_end hst hpd hl1; obtain ⟨A', c', rfl, _, _, _⟩ := hown'.read)
  have e : (pre ++ [x]).length = pre.length + 1 := by simp
  rw [e] at hend hfin
  exact ⟨_, _, hend, rfl, hfin⟩
 case hdone =>
  intro W rec hj
  obtain ⟨v, hv, ho⟩ := hj.box
  have hWl := (Array.getElem?_eq_some_iff.1 hj.rc).1
  have hbW : Below w.heap.size w W := hb0.trans (hj.chg.toBelow (by omega) (fun k hk => by omega))
  have hbF : Below w.heap.size w (W.putObj (w1.heap.size + 1) (.loop { rec with state := .exhausted })) := hbW.trans (belowK_b (w := w) (Nat.le_refl _) W (w1.heap.size + 1) _ _ (by omega) hj.rc rfl rfl)
  have hgf := grownBy_putObj' W (w1.heap.size + 1) (.loop { rec with state := .exhausted })
  have hv2 : Boxed (W.putObj (w1.heap.size + 1) (.loop { rec with state := .exhausted })) w.heap.size 57 v := hv.kept hgf (fun e => by injection e with e; omega)
  have ho2 : OwnR (W.putObj (w1.heap.size + 1) (.loop { rec with state := .exhausted })) w1.heap.size v (mrg (snapL t chs) ws) := ownsRow_putObj ho _ hj.rc rfl
  have hK : (W.putObj (w1.heap.size + 1) (.loop { rec with state := .exhausted })).heap[w1.heap.size]? = some (.deferred (some [])) := (hgf.block _ (by omega) (fun e => by injection e with e; omega)).trans hj.df
  generalize W.putObj (w1.heap.size + 1) (.loop { rec with state := .exhausted }) = W2 at hbF hv2 ho2 hK ⊢
  clear hgf
  have d0 := hv2.cell
  go_wp2
  refine ⟨by simp, .inl ⟨_, _, rfl, run_takeDeferred hK, ?_⟩⟩
  refine ⟨_, results_tmp rfl _ _ _, v, rfl, ?_, ?_⟩
  ·
   exact (show OwnR _ _ v _ from ownsRow_putObj ho2 _ hK rfl).low (by omega)
  ·
   exact hbF.trans (belowK_b (w := w) (Nat.le_refl _) W2 w1.heap.size _ (.deferred none) (by omega) hK rfl rfl)
end Go.Proofs.YtnijgbinjbikbaaGreat
