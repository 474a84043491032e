/- Slices of bytes of the call's own: appended to, made a text. -/
import Derived.Test.YtilcncnhkidndaaDoorL5m
import Derived.Test.YtilcncnhkidndaaDoorF5
import Derived.Lib.AppendStr
import Derived.Laws.IdiomStrings
namespace Go.Proofs.YtilcncnhkidndaaDoor
open Go.RowKit
set_option linter.unusedVariables false
set_option maxRecDepth 100000

instance elU : Elt UInt8 where
 T := 5
 wd := 1
 byt := 1
 zero := .int .u8 0
 cs := fun c => [.int .u8 c.toNat]
 len := fun _ => rfl
 pos := by omega
 one := by
  intro a u hu
  simp only [List.mem_cons, List.not_mem_nil, or_false] at hu
  subst hu; rfl
 info := by kernel_rfl
 zsize := rfl
 small := by omega

theorem cellsU (x : Bs) : cellsG x = Lib.strCells (bo x) := by
 unfold Lib.strCells bo
 induction x with
 | nil => rfl
 | cons c x ih =>
  rw [cellsG_cons, ih]
  rfl

section
variable {w w' : World} {base : Nat} {v : Value} {x : Bs}
/-- 'string(b)' -/
theorem convU (h : OwnG w base v x) : (convert 22 9 v).run Tryd.prog w = .ok (.string (bo x)) w := by
 rcases h.cases with ⟨rfl, rfl⟩ | ⟨g, cap, cur, rfl, hb, hblk, hl, hm, hs, ht⟩
 ·
  rw [run_convert_bytes_string w 22 9 5 none 0 0 Tryd.underlying22 Tryd.underlying5 Tryd.underlying9]
  rfl
 ·
  have hr : RdG w w.heap.size (some ⟨g, 0, none⟩) x := OwnG.rd (g := 0) h
  exact run_convert_bytes_back (P := Tryd.prog) w 22 9 5 ⟨g, 0, none⟩ cap x Tryd.underlying22 Tryd.underlying5 Tryd.underlying9 (fun j hj => by
   have := hr.cells j (.int .u8 x[j].toNat) (by
    have := cellsG_get x j x[j] (List.getElem?_eq_getElem hj) 0 (by show 0 < 1; omega)
    have e : j * Elt.wd UInt8 + 0 = j := by show j * 1 + 0 = j; omega
    rw [e] at this
    exact this)
   exact this)
theorem runAppS (t t' ty : TypeId) (ht : Tryd.prog.underlying t = some (.slice 5)) (ht' : Tryd.prog.underlying t' = some .string) (h : OwnG w base v x) (s : ByteArray) (hlen : x.length + s.size ≤ 4194304) (hbase : base ≤ w.heap.size) :
  ∃ v' w', (Builtin.append_ #[t, t'] ty #[v, .string s]).run Tryd.prog w = .ok v' w' ∧ OwnG w' base v' (x ++ bs s) ∧ w.grownBy w' v.ownBlock := by
 obtain ⟨i, hi, hz, hs, hb⟩ := infoG UInt8
 obtain ⟨v', w', h1, h2, h3, _⟩ := Lib.run_append_own_string (P := Tryd.prog) w base t t' ty 5 i ht ht' hi hz hs hb v x.length (cellsG x) h s (by unfold maxLen; omega) (by omega) hbase
 refine ⟨v', w', h1, ?_, h3⟩
 unfold OwnG
 rw [cellsG_append, List.length_append, cellsU (bs s), bo_bs]
 exact h2
end
theorem wp_appS {o : Oper} {a : Act} {K : Act → World → Prop} {Q : Exit → Act → World → Prop} (w : World) (sl x : Operand) (t t' : TypeId)
  (ho : o.op = .call { callee := .builtin .append, args := #[sl, x], argTypes := #[t, t'] }) (ht : Tryd.prog.underlying t = some (.slice 5)) (ht' : Tryd.prog.underlying t' = some .string)
  (base : Nat) (v : Value) (l : Bs) (hs : a.eval sl = v) (hown : OwnG w base v l) (s : ByteArray) (hx : a.eval x = .string s) (hlen : l.length + s.size ≤ 4194304) (hbase : base ≤ w.heap.size)
  (h : ∀ v' w', OwnG w' base v' (l ++ bs s) → w.grownBy w' v.ownBlock → K (a.put o.dst v') w') : o.wp Tryd.prog a w K Q := by
 obtain ⟨v', w', hrun, h2, h3⟩ := runAppS t t' o.type ht ht' hown s hlen hbase
 unfold Oper.wp execOp
 simp only [ho, resolve, invoke, builtin, Sem.run_bind, Sem.run_pure, Result.andThen_ok, List.map_toArray, List.map_cons, List.map_nil, hs, hx, hrun]
 exact h v' w' h2 h3
theorem wpList_appS {ops : Array Oper} {rest : List Oper} {o : Oper} {a : Act} {Q : Exit → Act → World → Prop} (w : World) (hgd : o.guard = none) (sl x : Operand) (t t' : TypeId)
  (ho : o.op = .call { callee := .builtin .append, args := #[sl, x], argTypes := #[t, t'] }) (ht : Tryd.prog.underlying t = some (.slice 5)) (ht' : Tryd.prog.underlying t' = some .string)
  (base : Nat) (v : Value) (l : Bs) (hs : a.eval sl = v) (hown : OwnG w base v l) (s : ByteArray) (hx : a.eval x = .string s) (hlen : l.length + s.size ≤ 4194304) (hbase : base ≤ w.heap.size)
  (h : ∀ v' w', OwnG w' base v' (l ++ bs s) → w.grownBy w' v.ownBlock → wpList Tryd.prog ops Q rest (a.put o.dst v') w') : wpList Tryd.prog ops Q (o :: rest) a w :=
 wpList_plain hgd fun _ hK => wp_appS w sl x t t' ho ht ht' base v l hs hown s hx hlen hbase fun v' w' h2 h3 => hK _ _ (h v' w' h2 h3)
end Go.Proofs.YtilcncnhkidndaaDoor
