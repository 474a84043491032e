/- Appending rows to rows of the call's own. -/
import Derived.Test.YtbhdgalkedegjaaMark
import Derived.Maps.AppendAt
import Derived.Deep.AppendLies
namespace Go.Proofs.Ytbhdgalkedegjaa
open Go.RowKit
set_option linter.unusedVariables false

theorem app_types {P : Program} (t t' ty e e' : TypeId) (i : TypeInfo) (ht : P.underlying t = some (.slice e)) (ht' : P.underlying t' = some (.slice e')) (hi : P.info? e = some i) (b : Option Addr) (n c : Nat) (A : Option Addr) (m c2 : Nat) (w : World) :
    (Builtin.append_ #[t, t'] ty #[.slice b n c, .slice A m c2]).run P w = (Builtin.append_ #[t, t] ty #[.slice b n c, .slice A m c2]).run P w := by
  simp [Builtin.append_, run_underlying ht, run_underlying ht', sizeOf, typeInfo, hi]

theorem cellsR_append (a b : List R) : cellsR (a ++ b) = cellsR a ++ cellsR b := by simp [cellsR]
theorem cellsR_one (l : List R) : ∀ u ∈ cellsR l, u.oneCell' = true := by
  intro u hu
  obtain ⟨r, _, h⟩ := List.mem_flatMap.1 hu
  simp at h
  rcases h with rfl | rfl <;> rfl
theorem cellsR_even (l : List R) (j : Nat) (u : Value) (h : (cellsR l)[j]? = some u) : ∃ r, l[j / 2]? = some r ∧ (j % 2 = 0 ∧ u = .string r.1 ∨ j % 2 = 1 ∧ u = .int .i64 r.2) := by
  have hj : j < l.length * 2 := by have := (List.getElem?_eq_some_iff.1 h).1; rwa [cellsR_length] at this
  have hr : l[j / 2]? = some (l[j / 2]'(by omega)) := List.getElem?_eq_getElem _
  refine ⟨_, hr, ?_⟩
  have e2 := cellsR_key l _ _ hr
  have e3 := cellsR_num l _ _ hr
  rcases Nat.mod_two_eq_zero_or_one j with hm | hm
  · left
    rw [show j / 2 * 2 = j from by omega] at e2
    exact ⟨hm, Option.some.inj (h.symm.trans e2)⟩
  · right
    rw [show j / 2 * 2 + 1 = j from by omega] at e3
    exact ⟨hm, Option.some.inj (h.symm.trans e3)⟩
theorem Rd.cells {w : World} {B : Nat} {ad : Addr} {l : List R} (h : Rd w B (some ad) l) : ∀ j u, (cellsR l)[j]? = some u → w.cell? (ad.add j) = some u := by
  intro j u hu
  obtain ⟨r, hr, hv⟩ := cellsR_even l j u hu
  obtain ⟨b, o, e, _, h1, h2⟩ := h _ r hr
  injection e with e
  subst e
  have ha : (⟨b, o, none⟩ : Addr).add j = ⟨b, o + j, none⟩ := by
    unfold Addr.add
    split
    · rename_i h0; subst h0; rfl
    · rfl
  rw [ha]
  rcases hv with ⟨hm, rfl⟩ | ⟨hm, rfl⟩
  · rw [show o + j = o + j / 2 * 2 from by omega]; exact h1
  · rw [show o + j = o + j / 2 * 2 + 1 from by omega]; exact h2

theorem runAppR (t t' ty e' : TypeId) (ht : Try.prog.underlying t = some (.slice 90)) (ht' : Try.prog.underlying t' = some (.slice e')) (w : World) (base : Nat) (v : Value) (l : List R) (hown : OwnR w base v l)
    (A : Option Addr) (c B : Nat) (l2 : List R) (hr : Rd w B A l2) (hlen : l.length + l2.length ≤ 4194304) (hbase : base ≤ w.heap.size) :
    ∃ v' w', (Builtin.append_ #[t, t'] ty #[v, .slice A l2.length c]).run Try.prog w = .ok v' w' ∧ OwnR w' base v' (l ++ l2) ∧ w.grownBy w' v.ownBlock ∧ (v'.ownBlock = v.ownBlock ∨ v'.ownBlock = some w.heap.size) := by
  obtain ⟨i, hi, hz, hs, hb⟩ := infoR
  have hv : ∃ b n c, v = .slice b n c := by
    rcases hown.cases with ⟨rfl, rfl⟩ | ⟨g, cap, cur, rfl, _⟩
    · exact ⟨_, _, _, rfl⟩
    · exact ⟨_, _, _, rfl⟩
  have hty : (Builtin.append_ #[t, t'] ty #[v, .slice A l2.length c]).run Try.prog w = (Builtin.append_ #[t, t] ty #[v, .slice A l2.length c]).run Try.prog w := by
    obtain ⟨b, n, c', rfl⟩ := hv
    exact app_types t t' ty _ _ i ht ht' hi b n c' A _ c w
  rw [hty]
  cases A with
  | none =>
    have h2 : l2 = [] := by
      cases l2 with
      | nil => rfl
      | cons r l2 =>
        obtain ⟨b, o, e, _⟩ := hr 0 r rfl
        cases e
    subst h2
    refine ⟨v, w, ?_, by simpa using hown, World.grownBy.refl _ _, .inl rfl⟩
    rcases hown.cases with ⟨rfl, rfl⟩ | ⟨g, cap, cur, rfl, _, _, hl, _⟩
    · simp [Builtin.append_, run_underlying ht, sizeOf, typeInfo, hi, Builtin.lenOf, Builtin.firstCells]
    · simp [Builtin.append_, run_underlying ht, sizeOf, typeInfo, hi, Builtin.lenOf, Builtin.firstCells, hl, storeCells]
  | some ad =>
    obtain ⟨v', w', h1, h2, h3, _, h5⟩ := run_append_own_at (P := Try.prog) w base t ty 90 i (.agg zeroR) 2 24 ht hi hz hs hb rfl (by omega) v l.length (cellsR l) hown ad l2.length c (cellsR l2) (cellsR_length l2) hr.cells (cellsR_one l2)
      (by unfold maxLen; omega) (by omega) hbase
    refine ⟨v', w', h1, ?_, h3, h5⟩
    unfold OwnR
    rw [cellsR_append, List.length_append]
    exact h2

theorem wp_appR {o : Oper} {a : Act} {K : Act → World → Prop} {Q : Exit → Act → World → Prop} (w : World) (s x : Operand) (t t' e' : TypeId)
    (ho : o.op = .call { callee := .builtin .append, args := #[s, x], argTypes := #[t, t'] }) (ht : Try.prog.underlying t = some (.slice 90)) (ht' : Try.prog.underlying t' = some (.slice e'))
    (base : Nat) (v : Value) (l : List R) (hs : a.eval s = v) (hown : OwnR w base v l) (A : Option Addr) (c B n2 : Nat) (l2 : List R) (hn2 : l2.length = n2) (hx : a.eval x = .slice A n2 c) (hr : Rd w B A l2) (hlen : l.length + l2.length ≤ 4194304) (hbase : base ≤ w.heap.size)
    (h : ∀ v' w', OwnR w' base v' (l ++ l2) → w.grownBy w' v.ownBlock → (v'.ownBlock = v.ownBlock ∨ v'.ownBlock = some w.heap.size) → K (a.put o.dst v') w') : o.wp Try.prog a w K Q := by
  subst hn2
  obtain ⟨v', w', hrun, h2, h3, h4⟩ := runAppR t t' o.type e' ht ht' w base v l hown A c B l2 hr hlen hbase
  unfold Oper.wp execOp
  simp only [ho, resolve, invoke, builtin, Sem.run_bind, Sem.run_pure, Result.andThen_ok, List.map_toArray, List.map_cons, List.map_nil, hs, hx, hrun]
  exact h v' w' h2 h3 h4

theorem wpList_appR {ops : Array Oper} {rest : List Oper} {o : Oper} {a : Act} {Q : Exit → Act → World → Prop} (w : World) (hgd : o.guard = none) (s x : Operand) (t t' e' : TypeId)
    (ho : o.op = .call { callee := .builtin .append, args := #[s, x], argTypes := #[t, t'] }) (ht : Try.prog.underlying t = some (.slice 90)) (ht' : Try.prog.underlying t' = some (.slice e'))
    (base : Nat) (v : Value) (l : List R) (hs : a.eval s = v) (hown : OwnR w base v l) (A : Option Addr) (c B n2 : Nat) (l2 : List R) (hn2 : l2.length = n2) (hx : a.eval x = .slice A n2 c) (hr : Rd w B A l2) (hlen : l.length + l2.length ≤ 4194304) (hbase : base ≤ w.heap.size)
    (h : ∀ v' w', OwnR w' base v' (l ++ l2) → w.grownBy w' v.ownBlock → (v'.ownBlock = v.ownBlock ∨ v'.ownBlock = some w.heap.size) → wpList Try.prog ops Q rest (a.put o.dst v') w') : wpList Try.prog ops Q (o :: rest) a w :=
  wpList_plain hgd fun _ hK => wp_appR w s x t t' e' ho ht ht' base v l hs hown A c B n2 l2 hn2 hx hr hlen hbase fun v' w' h2 h3 h4 => hK _ _ (h v' w' h2 h3 h4)

theorem step_appR {ops : Array Oper} {o : Oper} {a : Act} {K : Act → World → Prop} {Q : Exit → Act → World → Prop} {E : Prop} (w : World) (hgd : o.guard = none) (s x : Operand) (t t' e' : TypeId)
    (ho : o.op = .call { callee := .builtin .append, args := #[s, x], argTypes := #[t, t'] }) (ht : Try.prog.underlying t = some (.slice 90)) (ht' : Try.prog.underlying t' = some (.slice e'))
    (base : Nat) (v : Value) (l : List R) (hs : a.eval s = v) (hown : OwnR w base v l) (A : Option Addr) (c B n2 : Nat) (l2 : List R) (hn2 : l2.length = n2) (hx : a.eval x = .slice A n2 c) (hr : Rd w B A l2) (hlen : l.length + l2.length ≤ 4194304) (hbase : base ≤ w.heap.size)
    (h : ∀ v' w', OwnR w' base v' (l ++ l2) → w.grownBy w' v.ownBlock → (v'.ownBlock = v.ownBlock ∨ v'.ownBlock = some w.heap.size) → K (a.put o.dst v') w') :
    if Region.wanted o (yielded ops a.tmps) = true then Oper.wp Try.prog o a w K Q else E := by
  have hw : Region.wanted o (yielded ops a.tmps) = true := by simp [Region.wanted, hgd]
  rw [if_pos hw]
  exact wp_appR w s x t t' e' ho ht ht' base v l hs hown A c B n2 l2 hn2 hx hr hlen hbase h

/-- the call returns rows in new memory -/
def RetR (w : World) (l : List R) (e : Ending) (w' : World) : Prop := ∃ v, e = .returned v ∧ OwnR w' w.heap.size v l ∧ Below w.heap.size w w'

theorem OwnR.fresh (w : World) (base : Nat) (hb : base ≤ w.heap.size) : OwnR (w.alloc (.cells #[] 90)) base (.slice (some ⟨w.heap.size, 0, none⟩) 0 0) [] :=
  OwnR.mk (l := []) hb (heap_alloc_new w _) (Nat.le_refl _) (by unfold maxLen; omega) rfl rfl

set_option maxRecDepth 100000 in
set_option maxHeartbeats 1000000 in
theorem specCopy (A : Option Addr) (c : Nat) (l : List R) (w : World) (hc : l.length ≤ 2097152) (hr : Rd w w.heap.size A l) :
    Calls Try.prog 125 #[.slice A l.length c] w (RetR w l) := by
  have hr1 : Rd (w.alloc (.cells #[] 90)) w.heap.size A l := hr.below ((Below.refl _ _).alloc (Nat.le_refl _) _)
  go_enter Try.func125, Try.ntmps125
  go_wp2_with ((at_builtin; refine wpList_appR _ rfl _ _ _ _ 90 rfl Try.underlying33 Try.underlying33 w.heap.size _ [] rfl (OwnR.fresh w _ (Nat.le_refl _)) A c w.heap.size _ l rfl rfl hr1 (by simp; omega) (by simp) ?_; intro v' w' hown hgr hat))
  go_ret
  exact ⟨v', rfl, by simpa using hown, ((Below.refl _ _).alloc (Nat.le_refl _) _).grown hgr (by simp) (fun k hk => Nat.le_of_eq (Option.some.inj hk))⟩

theorem specCopyN (A : Option Addr) (n c : Nat) (l : List R) (hn : l.length = n) (w : World) (hc : l.length ≤ 2097152) (hr : Rd w w.heap.size A l) :
    Calls Try.prog 125 #[.slice A n c] w (RetR w l) := by
  subst hn
  exact specCopy A c l w hc hr
theorem below_alloc {a w : World} (h : Below a.heap.size a w) (o : Obj) : Below a.heap.size a (w.alloc o) := h.alloc h.size o
theorem OwnR.alloc {w : World} {base : Nat} {v : Value} {l : List R} (h : OwnR w base v l) (o : Obj) : OwnR (w.alloc o) base v l := World.ownsRow.alloc h o
theorem rdOne (w : World) (key : ByteArray) (num : Int) (t : TypeId) : Rd (w.alloc (.cells #[.string key, .int .i64 num] t)) (w.alloc (.cells #[.string key, .int .i64 num] t)).heap.size (some ⟨w.heap.size, 0, none⟩) [(key, num)] := fun i r hi => by
  have h0 : i = 0 := by have := (List.getElem?_eq_some_iff.1 hi).1; simpa using this
  subst h0
  have : r = (key, num) := by simpa using hi.symm
  subst this
  exact ⟨w.heap.size, 0, rfl, by simp, by rw [World.cell?_alloc_at _ _ _ _ rfl]; rfl, by rw [World.cell?_alloc_at _ _ _ _ rfl]; rfl⟩

theorem rdOneD (w : World) (key : ByteArray) (num : Int) (t : TypeId) : Rd (w.alloc (.cells #[.string key, .int .i64 num] t)).drew (w.alloc (.cells #[.string key, .int .i64 num] t)).drew.heap.size (some ⟨w.heap.size, 0, none⟩) [(key, num)] := rdOne w key num t

theorem Rd.take {w : World} {B : Nat} {A : Option Addr} {l : List R} (h : Rd w B A l) (k : Nat) : Rd w B A (l.take k) := fun i r hi => by
  rw [List.getElem?_take] at hi
  split at hi
  · exact h i r hi
  · cases hi
theorem Rd.drop {w : World} {B : Nat} {A : Option Addr} {l : List R} (h : Rd w B A l) (k cap : Nat) (hc : l.length ≤ cap) : Rd w B (if cap = k then A else A.map (·.add (k * 2))) (l.drop k) := fun i r hi => by
  rw [List.getElem?_drop] at hi
  have hl := (List.getElem?_eq_some_iff.1 hi).1
  rw [if_neg (by omega)]
  obtain ⟨b, o, rfl, hb, h1, h2⟩ := h (k + i) r hi
  refine ⟨b, o + k * 2, ?_, hb, ?_, ?_⟩
  · unfold Addr.add
    simp only [Option.map_some, Option.some.injEq]
    split
    · rename_i h0; rw [h0]; rfl
    · rfl
  · rw [show o + k * 2 + i * 2 = o + (k + i) * 2 from by omega]; exact h1
  · rw [show o + k * 2 + i * 2 + 1 = o + (k + i) * 2 + 1 from by omega]; exact h2

/-- where the slice xs[p:] begins -/
def cutA (A : Option Addr) (c p : Nat) : Option Addr := if c = p then A else A.map (·.add (p * 2))
theorem runCut (t : TypeId) (ht : Try.prog.underlying t = some (.slice 90)) (A : Option Addr) (n c p : Nat) (h1 : p ≤ n) (h2 : n ≤ c) (w : World) :
    (Instr.slice t (.slice A n c) (some (.int .i64 (p : Int))) none none).run Try.prog w = .ok (.slice (cutA A c p) (n - p) (c - p)) w := by
  have i1 : (0 : Int) ≤ (p : Int) := by omega
  have i2 : (p : Int) ≤ (n : Int) := by omega
  simp [go_sem, ht, i1, i2, cutA]
theorem rdTk {w W : World} {A : Option Addr} {l : List R} (hr : Rd w w.heap.size A l) (p : Nat) (h : Below w.heap.size w W) : Rd W W.heap.size A (l.take p) := ((hr.take p).below h).more h.size
theorem rdDp {w W : World} {A : Option Addr} {l : List R} (hr : Rd w w.heap.size A l) (p c : Nat) (hc : l.length ≤ c) (h : Below w.heap.size w W) : Rd W W.heap.size (cutA A c p) (l.drop p) := ((hr.drop p c hc).below h).more h.size

theorem ownLow {a W wc : World} {v : Value} {l : List R} (h : Below a.heap.size a W) (hown : OwnR wc W.heap.size v l) : OwnR wc a.heap.size v l := hown.low h.size
theorem belowApp {a W w' : World} {v : Value} {l : List R} (h : Below a.heap.size a W) (hown : OwnR W a.heap.size v l) (hg : W.grownBy w' v.ownBlock) : Below a.heap.size a w' :=
  h.grown hg h.size fun k hk => (hown.block_lt hk).1

end Go.Proofs.Ytbhdgalkedegjaa
