/- Slices of texts: how they lie, append, the laws' comparisons and marks. -/
import Derived.Test.YtabpepddbkipiaaWp
namespace Go.Proofs.Ytabpepddbkipiaa
open Go.RowKit
set_option linter.unusedVariables false

def RdS (w : World) (B : Nat) (A : Option Addr) (l : List ByteArray) : Prop :=
  ∀ i s, l[i]? = some s → ∃ b o, A = some ⟨b, o, none⟩ ∧ b < B ∧ w.cell? ⟨b, o + i, none⟩ = some (.string s)
theorem RdS.nil {w : World} {B : Nat} {A : Option Addr} : RdS w B A [] := fun i r h => by simp at h
theorem RdS.below {w w' : World} {B : Nat} {A : Option Addr} {l : List ByteArray} (h : RdS w B A l) (hb : Below B w w') : RdS w' B A l := fun i r hi => by
  obtain ⟨b, o, e, hbb, h1⟩ := h i r hi
  exact ⟨b, o, e, hbb, (hb.cell (p := ⟨b, o + i, none⟩) hbb).trans h1⟩
theorem RdS.at_ {w : World} {B : Nat} {A : Option Addr} {l : List ByteArray} (h : RdS w B A l) {i : Nat} (hi : i < l.length) : ∃ b o, A = some ⟨b, o, none⟩ ∧ b < B ∧ w.cell? ⟨b, o + i, none⟩ = some (.string l[i]) :=
  h i l[i] (List.getElem?_eq_getElem hi)

def cellsS (l : List ByteArray) : List Value := l.map Value.string
/-- texts in memory of the call's own -/
def OwnS (w : World) (base : Nat) (v : Value) (l : List ByteArray) : Prop := w.ownsRow base 9 1 v l.length (cellsS l)
theorem cellsS_length (l : List ByteArray) : (cellsS l).length = l.length := by simp [cellsS]
theorem OwnS.cases {w : World} {base : Nat} {v : Value} {l : List ByteArray} (h : OwnS w base v l) : (v = .slice none 0 0 ∧ l = []) ∨
    ∃ g cap cur, v = .slice (some ⟨g, 0, none⟩) l.length cap ∧ base ≤ g ∧ Blk w g 9 cur ∧ l.length ≤ cap ∧ cap ≤ maxLen ∧ cur.size = cap ∧ cur.toList.take l.length = cellsS l := by
  rcases h.2 with ⟨h1, h2⟩ | ⟨g, cap, cur, h1, h2, h3, h4, h5, h6, h7⟩
  · exact .inl ⟨h1, List.eq_nil_of_length_eq_zero h2⟩
  · exact .inr ⟨g, cap, cur, h1, h2, h3, h4, h5, by simpa using h6, by simpa using h7⟩
theorem OwnS.nil (w : World) (base : Nat) : OwnS w base (.slice none 0 0) [] := ⟨rfl, .inl ⟨rfl, rfl⟩⟩
theorem OwnS.mk {w : World} {base g cap : Nat} {cur : Array Value} {l : List ByteArray} (hb : base ≤ g) (h : Blk w g 9 cur) (hl : l.length ≤ cap) (hc : cap ≤ maxLen) (hs : cur.size = cap)
    (ht : cur.toList.take l.length = cellsS l) : OwnS w base (.slice (some ⟨g, 0, none⟩) l.length cap) l := ⟨by simp [cellsS_length], .inr ⟨g, cap, cur, rfl, hb, h, hl, hc, by simpa using hs, by simpa using ht⟩⟩
theorem OwnS.read {w : World} {base : Nat} {v : Value} {l : List ByteArray} (h : OwnS w base v l) : ∃ A c, v = .slice A l.length c ∧ l.length ≤ c ∧ c ≤ maxLen ∧ RdS w w.heap.size A l := by
  rcases h.cases with ⟨rfl, rfl⟩ | ⟨g, cap, cur, rfl, hb, hblk, hl, hm, hs, ht⟩
  · exact ⟨none, 0, rfl, Nat.le_refl _, by unfold maxLen; omega, RdS.nil⟩
  · refine ⟨_, cap, rfl, hl, hm, fun i r hi => ⟨g, 0, rfl, hblk.lt, ?_⟩⟩
    have hil := (List.getElem?_eq_some_iff.1 hi).1
    have h1 : (cellsS l)[i]? = some (.string r) := by simp [cellsS, hi]
    rw [← ht, List.getElem?_take_of_lt hil] at h1
    rw [hblk.cell]; simpa using h1
theorem OwnS.keep {w w' : World} {base : Nat} {v : Value} {l : List ByteArray} (h : OwnS w base v l) (hk : ∀ g, v.ownBlock = some g → w'.heap[g]? = w.heap[g]?) : OwnS w' base v l := by
  rcases h.cases with ⟨rfl, rfl⟩ | ⟨g, cap, cur, rfl, hb, hblk, hl, hm, hs, ht⟩
  · exact OwnS.nil _ _
  · exact OwnS.mk hb ((hk g rfl).trans hblk) hl hm hs ht
theorem OwnS.block_lt {w : World} {base : Nat} {v : Value} {l : List ByteArray} (h : OwnS w base v l) {g : Nat} (hg : v.ownBlock = some g) : base ≤ g ∧ g < w.heap.size := by
  rcases h.cases with ⟨rfl, rfl⟩ | ⟨g', cap, cur, rfl, hb, hblk, _⟩
  · simp [Value.ownBlock] at hg
  · have : g' = g := by simpa [Value.ownBlock] using hg
    subst this
    exact ⟨hb, hblk.lt⟩
theorem OwnS.next {w w' : World} {base : Nat} {v : Value} {l : List ByteArray} (h : OwnS w base v l) (hb : Below w.heap.size w w') : OwnS w' base v l := h.keep fun g hg => hb.block g (h.block_lt hg).2
theorem OwnS.low {w : World} {base base' : Nat} {v : Value} {l : List ByteArray} (h : OwnS w base v l) (hb : base' ≤ base) : OwnS w base' v l := by
  rcases h.cases with ⟨rfl, rfl⟩ | ⟨g, cap, cur, rfl, hb', hblk, hl, hm, hs, ht⟩
  · exact OwnS.nil _ _
  · exact OwnS.mk (by omega) hblk hl hm hs ht
theorem OwnS.kept {w w' : World} {base : Nat} {v : Value} {l : List ByteArray} {row : Option Nat} (h : OwnS w base v l) (hg : w.grownBy w' row) (hne : ∀ g, v.ownBlock = some g → some g ≠ row) : OwnS w' base v l :=
  h.keep fun g hgv => hg.block g (h.block_lt hgv).2 (hne g hgv)
theorem OwnS.alloc {w : World} {base : Nat} {v : Value} {l : List ByteArray} (h : OwnS w base v l) (o : Obj) : OwnS (w.alloc o) base v l := World.ownsRow.alloc h o
theorem OwnS.fresh (w : World) (base : Nat) (hb : base ≤ w.heap.size) : OwnS (w.alloc (.cells #[] 9)) base (.slice (some ⟨w.heap.size, 0, none⟩) 0 0) [] :=
  OwnS.mk (l := []) hb (heap_alloc_new w _) (Nat.le_refl _) (by unfold maxLen; omega) rfl rfl

theorem infoS0 : (Try.prog.info? 9).map (fun i => (i.zero, i.size, i.bytes)) = some (some (.string ByteArray.empty), 1, 16) := by kernel_rfl

/-- one text appended to texts of the call's own: the new text lies in a block that the statement has just made -/
theorem wpList_appS1 {ops : Array Oper} {rest : List Oper} {o : Oper} {a : Act} {Q : Exit → Act → World → Prop} (w0 : World) (hgd : o.guard = none) (s x : Operand)
    (ho : o.op = .call { callee := .builtin .append, args := #[s, x], argTypes := #[41, 41] })
    (base : Nat) (v : Value) (l : List ByteArray) (key : ByteArray) (hs : a.eval s = v) (hown : OwnS w0 base v l) (hx : a.eval x = .slice (some ⟨w0.heap.size, 0, none⟩) 1 1) (hlen : l.length ≤ 4194304) (hbase : base ≤ w0.heap.size)
    (h : ∀ v' w', OwnS w' base v' (l ++ [key]) → (w0.alloc (.cells #[.string key] 9)).grownBy w' v.ownBlock → (v'.ownBlock = v.ownBlock ∨ v'.ownBlock = some (w0.heap.size + 1)) → wpList Try.prog ops Q rest (a.put o.dst v') w') : wpList Try.prog ops Q (o :: rest) a (w0.alloc (.cells #[.string key] 9)) := by
  obtain ⟨i, hi, hz, hsz, hb⟩ := info_parts infoS0
  refine wpList_append_own_at (w0.alloc (.cells #[.string key] 9)) hgd s x 41 ho base 9 i _ 1 16 Try.underlying41 hi hz hsz hb rfl (by omega) v l.length (cellsS l) hs (hown.alloc _) ⟨w0.heap.size, 0, none⟩ 1 1 [.string key] hx rfl (cell_one_new _ _ _)
    (by simp [Value.oneCell']) (by unfold maxLen; omega) (by omega) (by simp; omega) ?_
  intro v' w' h1 h2 _ h4
  refine h v' w' ?_ h2 (by simpa using h4)
  unfold OwnS
  simpa [cellsS] using h1

def eqT (a b : List ByteArray) : Bool := decide (a = b)
theorem eqT_yes {a b : List ByteArray} (h : a = b) : eqT a b = true := decide_eq_true h
theorem eqT_no {a b : List ByteArray} (h : a ≠ b) : eqT a b = false := decide_eq_false h

end Go.Proofs.Ytabpepddbkipiaa
