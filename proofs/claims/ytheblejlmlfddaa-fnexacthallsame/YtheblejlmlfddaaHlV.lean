/- Halls: what the laws' walks carry along. -/
import Derived.Test.YtheblejlmlfddaaHlS
namespace Go.Proofs.Ytheblejlmlfddaa
open Go.RowKit
set_option linter.unusedVariables false
set_option maxRecDepth 100000
section
variable {w w' : World} {base n p q : Nat} {v : Value} {z : Int} {l : List V} {ts : List Tk} {r : List TT} {W : World} {Φ : World → Prop}
theorem OwH.next (h : OwH w base v z l ts) (hb : Below w.heap.size w w') : OwH w' base v z l ts := by
 obtain ⟨g, k, rs, e, h1, h2, h3, h4⟩ := h.ex
 exact ⟨g, k, rs, e, h1, h2.next hb, h3.next hb, fun x hx => (h4 x hx).next hb⟩
theorem OwH.shape (h : OwH w base v z l ts) : ∃ (A : Option Addr) (a b : Nat) (B : Option Addr) (c d : Nat), v = .agg #[.int .i64 z, .slice A a b, .slice B c d] := by
 obtain ⟨g, k, rs, e, -⟩ := h.ex
 exact ⟨_, _, _, _, _, _, e⟩
theorem FitTTs.next (h : FitTTs w w.heap.size r) (hb : Below w.heap.size w w') : FitTTs w' w'.heap.size r := fun x hx => ⟨(h x hx).1, (h x hx).2.next hb⟩
theorem Fr.ownH (F : Fr (Rg p p) Φ W) (h : OwH W n v z l ts) : Fr (Rg p p) (fun V => Φ V ∧ OwH V n v z l ts) W :=
 F.and fun V k => h.next (k.toBelow (Nat.le_refl _) fun j hj => absurd hj (Rg.no (by omega)))
theorem totalTT_of (h : totalTT r ≤ 1048576) : ∀ rs : List TT, ofTT rs = ofTT r → totalTT rs ≤ 1048576 := by
 intro rs e
 have g : ∀ l : List TT, totalTT l = ((ofTT l).map fun t => totTk t + 1).sum := fun l => by unfold totalTT ofTT; rw [List.map_map]; rfl
 rw [g rs, e, ← g r]; exact h
theorem smT_of (h : totalTT r ≤ 1048576) : SmT (ofTT r) := by
 intro t ht
 obtain ⟨k, hk, rfl⟩ := List.getElem_of_mem ht
 have hk' : k < r.length := by rw [ofTT_len] at hk; exact hk
 have h1 := totTk_le k hk'
 have e : (ofTT r)[k] = r[k].t := by simp [ofTT]
 rw [e]
 unfold totTk at h1
 have h2 := totalX_len r[k].t.ws
 have h3 := totalN5_len r[k].t.ns
 omega
end
end Go.Proofs.Ytheblejlmlfddaa
