/- The program's storage: its chains; chainOf.
The program's storageOf.
The program's snapshot: its iterator.
The program's snapshotsFit. -/
import Derived.Test.YtnijgbinjbikbaaGreatB1
import Derived.Test.YtnijgbinjbikbaaGreatA4
import Derived.RangeFuncNested
import Derived.RangeFuncBound
import Derived.RangeFuncCalls
import Derived.RangeFuncLeaves
import Derived.RangeFuncBox
import Derived.Shelf.Abstract
import Derived.Shelf.RegionOpen
import Derived.WalkKit
import Derived.OwnWalkIn
import Derived.TacticsInMore
import Derived.LoopNIn
import Derived.LoopIn
import Derived.Maps.AppendAt
import Derived.Stop.RegionWithIn
import Derived.Deep.RegionWith
import Derived.Deep.Cut
namespace Go.Proofs.YtnijgbinjbikbaaGreat
open Go.RowKit
set_option linter.unusedVariables false
set_option maxRecDepth 100000

/-- two chains share no block -/
def Dis (a b : Ch) : Prop := ∀ x, a.has x → ¬ b.has x
structure Sto (w : World) (base s : Nat) (z : Int) (chs : List Ch) : Prop where
 blk : ∃ v, Blk w s 109 #[.int .i64 z, v] ∧ OwnG w base v (pts chs)
 cok : ∀ c ∈ chs, ChOk w c
 dis : chs.Pairwise Dis
 lo : base ≤ s
 los : ∀ c ∈ chs, ∀ b, c.has b → base ≤ b
/-- the keys ascend -/
def Asc (chs : List Ch) : Prop := chs.Pairwise fun a b => lt a.k b.k = true
theorem Asc.keys {chs : List Ch} (h : Asc chs) : AscP (keysR chs) := by
 intro i hi
 rw [keysR_length] at hi
 have := (List.pairwise_iff_getElem.1 h) i (i + 1) (by omega) hi (by omega)
 simpa [keysR] using this

theorem typesSC : (109 : TypeId) ≠ 152 := by decide
theorem typesSL : (109 : TypeId) ≠ 154 := by decide
theorem typesSP : (109 : TypeId) ≠ 110 := by decide
theorem typesCP : (152 : TypeId) ≠ 110 := by decide
theorem typesLP : (154 : TypeId) ≠ 110 := by decide

theorem ChOk.ne_of {w : World} {c : Ch} {g : Nat} {t : TypeId} {cs : Array Value} (h : ChOk w c) (hg : Blk w g t cs) (h1 : t ≠ 152) (h2 : t ≠ 154) : ∀ b, c.has b → b ≠ g := by
 intro b hb
 rcases hb with rfl | hb
 ·
  exact h.blk.ne hg h1.symm
 ·
  obtain ⟨x, hx, rfl⟩ := List.mem_map.1 hb
  obtain ⟨i, hi, rfl⟩ := List.getElem_of_mem hx
  exact (h.ls i _ (List.getElem?_eq_getElem hi)).ne hg h2.symm
theorem OwnG.blk_of {α : Type} [Elt α] {w : World} {base : Nat} {v : Value} {l : List α} (h : OwnG w base v l) {g : Nat} (hg : v.ownBlock = some g) : ∃ cs, Blk w g (Elt.T α) cs := by
 rcases h.cases with ⟨rfl, rfl⟩ | ⟨g', cap, cur, rfl, hb, hblk, _⟩
 ·
  simp [Value.ownBlock] at hg
 ·
  have : g' = g := by simpa [Value.ownBlock] using hg
  subst this
  exact ⟨cur, hblk⟩

section
variable {w w' : World} {base s : Nat} {z : Int} {chs : List Ch}
theorem Sto.lt (h : Sto w base s z chs) : s < w.heap.size := by obtain ⟨v, hb, _⟩ := h.blk; exact hb.lt
theorem Sto.next (h : Sto w base s z chs) (hb : Below w.heap.size w w') : Sto w' base s z chs := by
 obtain ⟨v, h1, h2⟩ := h.blk
 exact ⟨⟨v, h1.next hb, h2.next hb⟩, fun c hc => (h.cok c hc).next hb, h.dis, h.lo, h.los⟩
theorem Sto.key (h : Sto w base s z chs) (i : Nat) (hi : i < chs.length) : w.cell? ⟨chs[i].g, 0, none⟩ = some (.string chs[i].k) := by
 rw [(h.cok _ (List.getElem_mem hi)).blk.cell]; rfl
end

def RetOf (w : World) (base s : Nat) (z : Int) (chs : List Ch) (key : ByteArray) (e : Ending) (w' : World) : Prop :=
 ∃ L c R, e = .returned (.pointer (some ⟨c.g, 0, none⟩)) ∧ c.k = key ∧ Sto w' base s z (L ++ c :: R) ∧ Asc (L ++ c :: R) ∧ Chg (fun b => b = s) w w' ∧ (chs = L ++ c :: R ∨ (chs = L ++ R ∧ c.ls = []))

theorem split_has {chs : List Ch} {key : ByteArray} (h : hasB (keysR chs) key = true) : ∃ hp : posN (keysR chs) key < chs.length, chs[posN (keysR chs) key].k = key := by
 have hlt := hasB_lt h
 refine ⟨by rwa [keysR_length] at hlt, ?_⟩
 rw [hasB_at (posN_pos _ _) hlt] at h
 have := str_eq h
 simpa [keysR] using this
theorem split_new' {chs : List Ch} {key : ByteArray} (ha : Asc chs) (h : hasB (keysR chs) key = false) (g p : Nat) (hp : Pos (keysR chs) key p) : Asc (chs.take p ++ (⟨g, key, []⟩ : Ch) :: chs.drop p) := by
 have hle : p ≤ chs.length := by have := hp.le; rwa [keysR_length] at this
 have hlow : ∀ a ∈ chs.take p, lt a.k key = true := by
  intro a ha'
  obtain ⟨i, hi, rfl⟩ := List.getElem_of_mem ha'
  rw [List.length_take] at hi
  have := hp.low i (by rw [keysR_length]; omega) (by omega)
  simpa [keysR, List.getElem_take] using this
 have hhigh : ∀ b ∈ chs.drop p, lt key b.k = true := by
  intro b hb
  obtain ⟨i, hi, rfl⟩ := List.getElem_of_mem hb
  rw [List.length_drop] at hi
  rw [List.getElem_drop]
  have hpl : p < chs.length := by omega
  have h0 : lt chs[p].k key = false := by have := hp.at_ (by rw [keysR_length]; omega); simpa [keysR] using this
  have h1 : (chs[p].k.toList == key.toList) = false := by
   have := hasB_at hp (by rw [keysR_length]; omega)
   rw [h] at this
   simpa [keysR] using this.symm
  have hk : lt key chs[p].k = true := by
   cases e : lt key chs[p].k
   ·
    have e2 := lt_tri h0 e
    rw [e2] at h1
    simp at h1
   ·
    rfl
  by_cases hi0 : i = 0
  ·
   subst hi0; exact hk
  ·
   exact lt_trans hk ((List.pairwise_iff_getElem.1 ha) p (p + i) (by omega) (by omega) (by omega))
 unfold Asc
 rw [List.pairwise_append]
 refine ⟨List.Pairwise.sublist (List.take_sublist _ _) ha, List.pairwise_cons.2 ⟨hhigh, List.Pairwise.sublist (List.drop_sublist _ _) ha⟩, ?_⟩
 intro a ha' b hb
 rcases List.mem_cons.1 hb with rfl | hb
 ·
  exact hlow a ha'
 ·
  exact lt_trans (hlow a ha') (hhigh b hb)
theorem split_new {chs : List Ch} {key : ByteArray} (ha : Asc chs) (h : hasB (keysR chs) key = false) (g : Nat) : Asc (chs.take (posN (keysR chs) key) ++ (⟨g, key, []⟩ : Ch) :: chs.drop (posN (keysR chs) key)) :=
 split_new' ha h g _ (posN_pos _ _)

set_option maxHeartbeats 2000000 in
theorem chainOf_c (base s : Nat) (z : Int) (chs : List Ch) (key : ByteArray) (w : World) (h : Sto w base s z chs) (ha : Asc chs) (hl : chs.length ≤ 1048576) :
  Calls Tryz.prog 61 #[.pointer (some ⟨s, 0, none⟩), .string key] w (RetOf w base s z chs key) := by
 obtain ⟨v, hS, hO⟩ := h.blk
 obtain ⟨A, c, rfl, hlc, hcm, hr⟩ := hO.read
 have hpl := pts_length chs
 have c1 : w.cell? ⟨s, 1, none⟩ = some (.slice A chs.length c) := by rw [hS.cell, ← hpl]; rfl
 have hf1 := hS.free 1
 have hposle : posN (keysR chs) key ≤ chs.length := by have := (posN_pos (keysR chs) key).le; rwa [keysR_length] at this
 cases hh : hasB (keysR chs) key
 ·
  have HA := Lib.hid (fun g => split_new ha hh g)
  obtain ⟨p, HP⟩ : ∃ p, Hid (posN (keysR chs) key = p) := ⟨_, Lib.hid rfl⟩
  rw [HP.out] at hposle
  have hw2 : Below w.heap.size w ((w.alloc (.cells #[.string key, .pointer none, .pointer none] 152)).alloc (.cells #[.pointer (some ⟨w.heap.size, 0, none⟩)] 110)) := below_alloc (below_alloc (Below.refl _ _) _) _
  have hone := rdOneGAt (α := Pt) (w.alloc (.cells #[.string key, .pointer none, .pointer none] 152)) (w.heap.size + 1) (by simp) ⟨w.heap.size⟩ #[.pointer (some ⟨w.heap.size, 0, none⟩)] 110 rfl
  have hnewB := (blkA w #[.string key, .pointer none, .pointer none] 152).alloc (.cells #[.pointer (some ⟨w.heap.size, 0, none⟩)] 110)
  have hslt := hS.lt
  go_enter Tryz.func61, Tryz.ntmps61
  go_wp2_with fail
  refine (findC A c chs key w (by omega) hr h.key ha.keys).mono ?_
  rintro e w1 ⟨rfl, rfl⟩
  rw [HP.out, hh]
  go_wp2_with fail
  refine (spliceC A c chs.length (pts chs) hpl p _ 1 1 [⟨w.heap.size⟩] rfl _ hlc (by omega) (by omega) (by omega) (hr.next hw2) hone).mono ?_
  rintro e w5 ⟨v5, rfl, hO5, hb5⟩
  have hS5 := (hS.next hw2).next hb5
  have hne5 : ∀ g, v5.ownBlock = some g → g ≠ s := fun g hg => by have h1 := (hO5.block_lt hg).1; simp at h1; omega
  have hnew5 := hnewB.next hb5
  obtain ⟨A5, c5, rfl, hlc5, hcm5, hr5⟩ := hO5.read
  have hlen5 : (List.take p (pts chs) ++ [(⟨w.heap.size⟩ : Pt)] ++ List.drop p (pts chs)).length = chs.length + 1 := by simp [hpl]; omega
  obtain ⟨b, o, rfl, hbB, hc5⟩ := hr5.atPt (i := p) (by rw [hlen5]; omega)
  have hc5' : w5.cell? ⟨b, o + p, none⟩ = some (.pointer (some ⟨w.heap.size, 0, none⟩)) := by
   rw [hc5, List.getElem_append_left (by simp [hpl]; omega), List.getElem_append_right (by simp; omega)]
   simp
  have hbs : b ≠ s := by
   rintro rfl
   have h1 := hne5 b (by
    rcases hO5.cases with ⟨e, _⟩ | ⟨g, cap, cur, e, _⟩
    ·
     injection e with e1 e2 e3; cases e1
    ·
     injection e with e1 e2 e3
     injection e1 with e1
     injection e1 with e1 _
     subst e1; rfl)
   exact h1 rfl
  rw [hlen5] at hO5 ⊢
  have HO5 := Lib.hid hO5
  have hfr := hS5.free 1
  have hcs : w5.cell? ⟨s, 1, none⟩ = some (.slice A chs.length c) := by rw [hS5.cell, ← hpl]; rfl
  have hpI : (p : Int) < (chs.length : Int) + 1 := by omega
  have hpI2 : (p : Int) < ((chs.length + 1 : Nat) : Int) := by omega
  clear hc5 hO5 hr5
  go_wp2
  go_ret
  refine ⟨chs.take p, ⟨w.heap.size, key, []⟩, chs.drop p, rfl, rfl, ?_, by have := HA.out w.heap.size; rwa [HP.out] at this, ?_, .inr ⟨(List.take_append_drop p chs).symm, rfl⟩⟩
  ·
   have hlo := h.lo
   have hch : ∀ x ∈ chs, ChOk (w5.setCell ⟨s, 1, none⟩ (.slice (some ⟨b, o, none⟩) (chs.length + 1) c5)) x := fun x hx =>
    (((h.cok x hx).next hw2).next hb5).chg (S := fun q => q = s) ((Chg.refl (fun q => q = s) w5).setCell (a := ⟨s, 1, none⟩) (.inl rfl) _) fun q hq => (((h.cok x hx).next hw2).next hb5).ne_of hS5 typesSC typesSL q hq
   refine ⟨⟨.slice (some ⟨b, o, none⟩) (chs.length + 1) c5, (hS5.set_ 1 _).cast rfl, ?_⟩, ?_, ?_, hlo, ?_⟩
   ·
    refine ((HO5.out.setCell (a := ⟨s, 1, none⟩) hne5 _).low (by have := hO.rd'; have := h.lt; simp; omega)).cast' ?_
    simp [pts, List.map_take, List.map_drop]
   ·
    intro x hx
    rcases List.mem_append.1 hx with hx | hx
    ·
     exact hch x (List.mem_of_mem_take hx)
    ·
     rcases List.mem_cons.1 hx with rfl | hx
     ·
      refine ⟨(hnew5.setOther (a := ⟨s, 1, none⟩) (show w.heap.size ≠ s from by omega) _).cast rfl, fun i y hy => by simp at hy, by simp⟩
     ·
      exact hch x (List.mem_of_mem_drop hx)
   ·
    rw [List.pairwise_append]
    have hfresh : ∀ x ∈ chs, ∀ q, x.has q → q ≠ w.heap.size := fun x hx q hq => by have := (h.cok x hx).lt hq; omega
    refine ⟨List.Pairwise.sublist (List.take_sublist _ _) h.dis, List.pairwise_cons.2 ⟨?_, List.Pairwise.sublist (List.drop_sublist _ _) h.dis⟩, ?_⟩
    ·
     intro x hx q hq hq'
     have : q = w.heap.size := by rcases hq with rfl | hq; rfl; simp at hq
     exact hfresh x (List.mem_of_mem_drop hx) q hq' this
    ·
     intro x hx y hy
     rcases List.mem_cons.1 hy with rfl | hy
     ·
      intro q hq hq'
      have : q = w.heap.size := by rcases hq' with rfl | hq'; rfl; simp at hq'
      exact hfresh x (List.mem_of_mem_take hx) q hq this
     ·
      have hpw := h.dis
      rw [← List.take_append_drop p chs, List.pairwise_append] at hpw
      exact hpw.2.2 x hx y hy
   ·
    intro x hx q hq
    rcases List.mem_append.1 hx with hx | hx
    ·
     exact h.los x (List.mem_of_mem_take hx) q hq
    ·
     rcases List.mem_cons.1 hx with rfl | hx
     ·
      have : q = w.heap.size := by rcases hq with rfl | hq; rfl; simp at hq
      have := h.lt
      omega
     ·
      exact h.los x (List.mem_of_mem_drop hx) q hq
  ·
   exact ((Chg.of_below (S := fun b => b = s) hw2).below hb5).setCell (a := ⟨s, 1, none⟩) (.inl rfl) _
 ·
  obtain ⟨hplt, hkey⟩ := split_has hh
  obtain ⟨p, HP⟩ : ∃ p, Hid (posN (keysR chs) key = p) := ⟨_, Lib.hid rfl⟩
  simp only [HP.out] at hplt hkey
  obtain ⟨b, o, rfl, hbB, hc0⟩ := hr.atPt (i := p) (by rw [hpl]; exact hplt)
  have hc5 : w.cell? ⟨b, o + p, none⟩ = some (.pointer (some ⟨chs[p].g, 0, none⟩)) := by rw [hc0]; simp [pts]
  have hpI := lenI _ _ hplt
  clear hc0
  go_enter Tryz.func61, Tryz.ntmps61
  go_wp2_with fail
  refine (findC _ c chs key w (by omega) hr h.key ha.keys).mono ?_
  rintro e w1 ⟨rfl, rfl⟩
  rw [HP.out, hh]
  go_wp2
  go_ret
  have e := (List.take_append_drop p chs).symm
  rw [List.drop_eq_getElem_cons hplt] at e
  exact ⟨chs.take p, chs[p], chs.drop (p + 1), rfl, hkey, by rw [← e]; exact h, by rw [← e]; exact ha, Chg.refl _ _, .inl e⟩

end Go.Proofs.YtnijgbinjbikbaaGreat

namespace Go.Proofs.YtnijgbinjbikbaaGreat
open Go.RowKit
set_option linter.unusedVariables false
set_option maxRecDepth 100000

/-- one chain has turned, in blocks of its own and new ones -/
theorem Sto.upd {w w' : World} {base s : Nat} {z : Int} {L R : List Ch} {c c' : Ch} (h : Sto w base s z (L ++ c :: R)) (hc : ChOk w' c') (hg : c'.g = c.g) (hch : Chg c.has w w') (hnew : ∀ b, c'.has b → c.has b ∨ w.heap.size ≤ b) : Sto w' base s z (L ++ c' :: R) := by
 obtain ⟨v, hB, hO⟩ := h.blk
 have hcc := h.cok c (by simp)
 have hpw := h.dis
 rw [List.pairwise_append, List.pairwise_cons] at hpw
 have hother : ∀ x, x ∈ L ∨ x ∈ R → ∀ b, x.has b → ¬ c.has b := by
  intro x hx b hb hb'
  rcases hx with hx | hx
  ·
   exact hpw.2.2 x hx c (by simp) b hb hb'
  ·
   exact hpw.2.1.1 x hx b hb' hb
 have hmem : ∀ x, x ∈ L ∨ x ∈ R → x ∈ L ++ c :: R := fun x hx => by rcases hx with hx | hx <;> simp [hx]
 refine ⟨⟨v, hB.chg hch fun hb => hcc.ne_of hB typesSC typesSL _ hb rfl, ?_⟩, ?_, ?_, h.lo, ?_⟩
 ·
  have e : pts (L ++ c' :: R) = pts (L ++ c :: R) := by simp [pts, hg]
  rw [e]
  refine hO.keep fun g hgo => ?_
  obtain ⟨cs, hbk⟩ := hO.blk_of hgo
  exact hch.block g hbk.lt fun hb => hcc.ne_of hbk typesCP.symm typesLP.symm _ hb rfl
 ·
  intro x hx
  rcases List.mem_append.1 hx with hx | hx
  ·
   exact (h.cok x (by simp [hx])).chg hch (hother x (.inl hx))
  ·
   rcases List.mem_cons.1 hx with rfl | hx
   ·
    exact hc
   ·
    exact (h.cok x (by simp [hx])).chg hch (hother x (.inr hx))
 ·
  rw [List.pairwise_append, List.pairwise_cons]
  refine ⟨hpw.1, ⟨fun x hx b hb hb' => ?_, hpw.2.1.2⟩, fun x hx y hy b hb hb' => ?_⟩
  ·
   rcases hnew b hb with h1 | h1
   ·
    exact hother x (.inr hx) b hb' h1
   ·
    have := (h.cok x (by simp [hx])).lt hb'; omega
  ·
   rcases List.mem_cons.1 hy with rfl | hy
   ·
    rcases hnew b hb' with h1 | h1
    ·
     exact hother x (.inl hx) b hb h1
    ·
     have := (h.cok x (by simp [hx])).lt hb; omega
   ·
    exact hpw.2.2 x hx y (by simp [hy]) b hb hb'
 ·
  intro x hx b hb
  rcases List.mem_append.1 hx with hx | hx
  ·
   exact h.los x (by simp [hx]) b hb
  ·
   rcases List.mem_cons.1 hx with rfl | hx
   ·
    rcases hnew b hb with h1 | h1
    ·
     exact h.los c (by simp) b h1
    ·
     have h2 := h.lo; have h3 := h.lt; omega
   ·
    exact h.los x (by simp [hx]) b hb
theorem Sto.far {w : World} {base s : Nat} {z : Int} {chs : List Ch} (h : Sto w base s z chs) {c : Ch} (hc : c ∈ chs) : ∀ b, c.has b → base ≤ b := h.los c hc

/-- the chains hold these versions, in their order -/
structure Cons (chs : List Ch) (l : List V) : Prop where
 flat : chs.flatMap Ch.vs = l
 each : ∀ c ∈ chs, c.vs ≠ [] ∧ ∀ x ∈ c.vs, x.k = c.k
 asc : Asc chs
theorem Cons.length {chs : List Ch} {l : List V} (h : Cons chs l) : chs.length ≤ l.length := by
 have h1 := h.each
 rw [← h.flat]
 clear h
 induction chs with
 | nil => simp
 | cons c chs ih =>
  have h2 := ih fun x hx => h1 x (by simp [hx])
  have h3 : 0 < c.vs.length := List.length_pos_iff.2 (h1 c (by simp)).1
  simp only [List.flatMap_cons, List.length_append, List.length_cons]
  omega
/-- the keys do not descend -/
def KeyLe (l : List V) : Prop := ∀ i (h : i + 1 < l.length), l[i].k = l[i + 1].k ∨ lt l[i].k l[i + 1].k = true
theorem KeyLe.le {l : List V} (h : KeyLe l) : ∀ j (hj : j < l.length) i (hi : i < j), (l[i]'(by omega)).k = l[j].k ∨ lt (l[i]'(by omega)).k l[j].k = true := by
 intro j
 induction j with
 | zero => intro hj i h; omega
 | succ j ih =>
  intro hj i hi
  by_cases e : i = j
  ·
   subst e; exact h i hj
  ·
   rcases ih (by omega) i (by omega) with h1 | h1 <;> rcases h j hj with h2 | h2
   ·
    exact .inl (h1.trans h2)
   ·
    right; rw [h1]; exact h2
   ·
    right; rw [← h2]; exact h1
   ·
    exact .inr (lt_trans h1 h2)

theorem cons_step {chs L R : List Ch} {c : Ch} {l : List V} {k g : Nat} (hl : KeyLe l) (hk : k < l.length) (hC : Cons chs (l.take k)) (hck : c.k = l[k].k) (hA : Asc (L ++ c :: R)) (hor : chs = L ++ c :: R ∨ (chs = L ++ R ∧ c.ls = [])) :
  Cons (L ++ (⟨c.g, c.k, c.ls ++ [⟨g, l[k]⟩]⟩ : Ch) :: R) (l.take (k + 1)) := by
 have hR : R = [] := by
  cases R with
  | nil => rfl
  | cons r R =>
   exfalso
   have hr : r ∈ chs := by rcases hor with rfl | ⟨rfl, _⟩ <;> simp
   have hlt : lt c.k r.k = true := by
    unfold Asc at hA
    rw [List.pairwise_append, List.pairwise_cons] at hA
    exact hA.2.1.1 r (by simp)
   obtain ⟨hne, hall⟩ := hC.each r hr
   obtain ⟨x, hx⟩ := List.exists_mem_of_ne_nil _ hne
   have hxk := hall x hx
   have hxl : x ∈ l.take k := by rw [← hC.flat]; exact List.mem_flatMap.2 ⟨r, hr, hx⟩
   obtain ⟨i, hi, rfl⟩ := List.getElem_of_mem hxl
   rw [List.length_take] at hi
   rw [List.getElem_take] at hxk
   rcases hl.le k hk i (by omega) with h1 | h1
   ·
    rw [← hxk, h1, hck, lt_irrefl] at hlt; cases hlt
   ·
    rw [hxk] at h1
    have := lt_trans hlt h1
    rw [hck, lt_irrefl] at this; cases this
 subst hR
 refine ⟨?_, ?_, ?_⟩
 ·
  rw [List.take_succ_eq_append_getElem hk, ← hC.flat]
  rcases hor with rfl | ⟨rfl, he⟩
  ·
   simp [Ch.vs]
  ·
   simp [Ch.vs, he]
 ·
  intro x hx
  rcases List.mem_append.1 hx with hx | hx
  ·
   exact hC.each x (by rcases hor with rfl | ⟨rfl, _⟩ <;> simp [hx])
  ·
   simp only [List.mem_singleton] at hx
   subst hx
   refine ⟨by simp [Ch.vs], fun y hy => ?_⟩
   simp only [Ch.vs, List.map_append, List.map_cons, List.map_nil, List.mem_append, List.mem_singleton] at hy
   rcases hy with hy | rfl
   ·
    rcases hor with rfl | ⟨rfl, he⟩
    ·
     exact (hC.each c (by simp)).2 y hy
    ·
     rw [he] at hy; simp at hy
   ·
    exact hck.symm
 ·
  unfold Asc at hA ⊢
  rw [List.pairwise_append] at hA ⊢
  refine ⟨hA.1, by simp, fun a ha b hb => ?_⟩
  simp only [List.mem_singleton] at hb
  subst hb
  exact hA.2.2 a ha c (by simp)

def RetSto (w : World) (z : Int) (l : List V) (e : Ending) (w' : World) : Prop := ∃ s chs, e = .returned (.pointer (some ⟨s, 0, none⟩)) ∧ Sto w' w.heap.size s z chs ∧ Cons chs l ∧ Below w.heap.size w w'

set_option maxHeartbeats 2000000 in
theorem storageOf_c (z : Int) (A : Option Addr) (c : Nat) (l : List V) (w : World) (hc : l.length ≤ 1048576) (hk : KeyLe l) (hr : RdG w w.heap.size A l) :
  Calls Tryz.prog 32 #[.agg #[.int .i64 z, .slice A l.length c]] w (RetSto w z l) := by
 have hb0 : Below w.heap.size w ((w.alloc (.cells #[.int .i64 z, .slice A l.length c] 32)).alloc (.cells #[.int .i64 z, .slice none 0 0] 109)) := below_alloc (below_alloc (Below.refl _ _) _) _
 have hB0 := blkA (w.alloc (.cells #[.int .i64 z, .slice A l.length c] 32)) #[.int .i64 z, .slice none 0 0] 109
 simp only [World.size_alloc] at hB0
 obtain ⟨s, HS, hsge⟩ : ∃ s, Hid (w.heap.size + 1 = s) ∧ w.heap.size ≤ s := ⟨_, Lib.hid rfl, by omega⟩
 rw [HS.out] at hB0
 have HK := Lib.hid hk
 clear hk
 go_enter Tryz.func32, Tryz.ntmps32
 go_wp2
 rw [HS.out]
 go_loopw [13] (fun i W => ∃ k : Nat, k ≤ l.length ∧ i = .int .i64 k ∧ ∃ chs, Sto W w.heap.size s z chs ∧ Cons chs (l.take k) ∧ Below w.heap.size w W) (fun i _ => l.length - (intOf i).toNat)
 case atStart => exact ⟨0, Nat.zero_le _, rfl, [], ⟨⟨_, hB0, OwnG.nil _ _⟩, fun c hc => by simp at hc, List.Pairwise.nil, by omega, fun c hc => by simp at hc⟩, ⟨by simp, fun c hc => by simp at hc, List.Pairwise.nil⟩, hb0⟩
 case round =>
  obtain ⟨k, hkl0, rfl, chs, hS, hC, hb⟩ := hrel
  by_cases hkl : k < l.length
  ·
   obtain ⟨b, o, rfl, hbB, hc0, hc1, hc2, hc3⟩ := (hr.below hb).atV hkl
   have hkI := lenI _ _ hkl
   have hslt := hS.lt
   have HC := Lib.hid hC
   go_wp2
   have hbX : Below wr.heap.size wr (wr.alloc (.cells #[.string l[k].k, .int .i64 l[k].n, .int .i64 l[k].f, .int .i64 l[k].t] 68)).drew := (below_alloc (Below.refl _ _) _).drew
   have hX : Blk (wr.alloc (.cells #[.string l[k].k, .int .i64 l[k].n, .int .i64 l[k].f, .int .i64 l[k].t] 68)).drew wr.heap.size 68 #[.string l[k].k, .int .i64 l[k].n, .int .i64 l[k].f, .int .i64 l[k].t] := blkA wr _ _
   have hSd := hS.next hbX
   refine wp_region_held_drew (S := (fun W => W.cell? ⟨wr.heap.size, 0, none⟩ = some (.string l[k].k) ∧ W.cell? ⟨wr.heap.size, 1, none⟩ = some (.int .i64 l[k].n) ∧ W.cell? ⟨wr.heap.size, 2, none⟩ = some (.int .i64 l[k].f) ∧ W.cell? ⟨wr.heap.size, 3, none⟩ = some (.int .i64 l[k].t))) (by kernel_rfl) ?_ (fun hHeld => ?_)
   focus ((try dsimp only); (exact ⟨by rw [hX.cell]; rfl, by rw [hX.cell]; rfl, by rw [hX.cell]; rfl, by rw [hX.cell]; rfl⟩))
   refine tk 0 ?_
   refine tk 1 ?_
   refine tk 2 ?_
   refine tk 4 ?_
   (refine rd1 3 (fun K hK => ?_); go_simp; (go_at_call 61; refine (chainOf_c w.heap.size s z chs l[k].k _ hSd hC.asc (by have := hC.length; rw [List.length_take] at this; omega)).mono ?_; rintro e w1 ⟨L, c, R, rfl, hck, hS1, hA1, hch1, hor⟩; have hX1 := hX.chg hch1 (by omega)); go_wp2_with fail; refine hK.out _ _ ?_ (fun hHeld => ?_); (focus ((try dsimp only); (exact ⟨by rw [hX1.cell]; rfl, by rw [hX1.cell]; rfl, by rw [hX1.cell]; rfl, by rw [hX1.cell]; rfl⟩))); clear hK K; (try simp only [Act.put, pa, pb, pc]))
   (refine rd1 5 (fun K hK => ?_); go_simp; (go_at_call 62; refine (add_c c l[k] _ (hS1.cok c (by simp))).mono ?_; rintro e w2 ⟨⟨v, rfl⟩, g, hg, hCh, hch2⟩; have hX2 := hX1.chg hch2 (fun hb => (hS1.cok c (by simp)).ne_of hX1 (by decide) (by decide) _ hb rfl)); go_wp2_with fail; refine hK.out _ _ ?_ (fun hHeld => ?_); (focus ((try dsimp only); (exact ⟨by rw [hX2.cell]; rfl, by rw [hX2.cell]; rfl, by rw [hX2.cell]; rfl, by rw [hX2.cell]; rfl⟩))); clear hK K; (try simp only [Act.put, pa, pb, pc]))
   refine wpAnyH_done (by kernel_rfl) ?_ _
   have hlen := List.length_take (l := l) (i := k)
   have hS2 := hS1.upd hCh rfl hch2 (fun q hq => by
    rcases hq with rfl | hq
    ·
     exact .inl (.inl rfl)
    ·
     simp only [List.map_append, List.mem_append, List.map_cons, List.map_nil, List.mem_singleton] at hq
     rcases hq with hq | rfl
     ·
      exact .inl (.inr hq)
     ·
      exact .inr hg)
   have hfar := hS1.los c (by simp)
   have hbA : Below w.heap.size wr w1 := (hbX.mono hb.size).trans (hch1.toBelow (by have := hbX.size; have := hb.size; omega) (fun q hq => by omega))
   have hbF := (hb.trans hbA).trans (hch2.toBelow (by have := hbA.size; have := hb.size; omega) hfar)
   go_wp2
   go_roundw
   case rel => exact ⟨k + 1, by omega, by go_num, _, hS2, cons_step HK.out hkl HC.out hck hA1 hor, hbF⟩
   case measure => simp [intOf]; omega
  ·
   have hkI : decide ((k : Int) < (l.length : Int)) = false := decide_eq_false (by omega)
   have HN := Lib.hid (show k = l.length from by omega)
   go_wp2
   go_ret
   refine ⟨s, chs, rfl, hS, ?_, hb⟩
   have := hC
   rwa [HN.out, List.take_length] at this

end Go.Proofs.YtnijgbinjbikbaaGreat

namespace Go.Proofs.YtnijgbinjbikbaaGreat
open Go.RowKit Go.Shelf
set_option linter.unusedVariables false
set_option maxRecDepth 100000
attribute [local go_sem] Oper.semAt_some

theorem grown_below {w w' : World} (hb : Below w.heap.size w w') : w.grownBy w' none := ⟨hb.os, hb.tape, hb.output, hb.size, fun k hk _ => hb.block k hk⟩
def encR (x : R) : Value := .agg #[.string x.1, .int .i64 x.2]
/-- what a round keeps: the blocks of T -/
def KpT (T : Nat → Prop) (W W' : World) : Prop := W.heap.size ≤ W'.heap.size ∧ ∀ k, T k → W'.heap[k]? = W.heap[k]?
theorem KpT.refl (T : Nat → Prop) (W : World) : KpT T W W := ⟨Nat.le_refl _, fun _ _ => rfl⟩
theorem KpT.trans {T : Nat → Prop} {A B C : World} (h : KpT T A B) (k : KpT T B C) : KpT T A C := ⟨Nat.le_trans h.1 k.1, fun i h1 => (k.2 i h1).trans (h.2 i h1)⟩
theorem KpT.mono {T T' : Nat → Prop} {W W' : World} (h : KpT T W W') (hs : ∀ k, T' k → T k) : KpT T' W W' := ⟨h.1, fun k hk => h.2 k (hs k hk)⟩
theorem KpT.below {T : Nat → Prop} {W W' : World} (hb : Below W.heap.size W W') (hn : ∀ k, T k → k < W.heap.size) : KpT T W W' := ⟨hb.size, fun k h2 => hb.block k (hn k h2)⟩
theorem Blk.kp {W W' : World} {T : Nat → Prop} {g : Nat} {t : TypeId} {cs : Array Value} (h : Blk W g t cs) (hk : KpT T W W') (h1 : T g) : Blk W' g t cs := (hk.2 g h1).trans h

theorem Sto.kp {w W' : World} {T : Nat → Prop} {n₀ s : Nat} {z : Int} {chs : List Ch} (h : Sto w n₀ s z chs) (hi : ∀ k, n₀ ≤ k → k < w.heap.size → T k) (hk : KpT T w W') : Sto W' n₀ s z chs := by
 obtain ⟨v, h1, h2⟩ := h.blk
 refine ⟨⟨v, h1.kp hk (hi _ h.lo h1.lt), h2.keep fun g hg => ?_⟩, fun c hc => ?_, h.dis, h.lo, h.los⟩
 ·
  have := h2.block_lt hg
  exact hk.2 g (hi g this.1 this.2)
 ·
  have hcc := h.cok c hc
  refine ⟨hcc.blk.kp hk (hi _ (h.los c hc _ (.inl rfl)) hcc.blk.lt), fun i x hx => ?_, hcc.nd⟩
  have hm : c.has x.g := .inr (List.mem_map.2 ⟨x, List.mem_of_getElem? hx, rfl⟩)
  exact (hcc.ls i x hx).kp hk (hi _ (h.los c hc _ hm) (hcc.lt hm))

/-- the rows of a time, chain by chain -/
def snapL (t : Int) (chs : List Ch) : List R := chs.filterMap fun c => (seen t c).map rowOf
theorem snapL_none {t : Int} {chs : List Ch} {j : Nat} (hj : j < chs.length) (h : seen t chs[j] = none) : snapL t (chs.take (j + 1)) = snapL t (chs.take j) := by
 rw [List.take_succ_eq_append_getElem hj]; unfold snapL; rw [List.filterMap_append]; simp [h]
theorem snapL_some {t : Int} {chs : List Ch} {j : Nat} {x : V} (hj : j < chs.length) (h : seen t chs[j] = some x) : snapL t (chs.take (j + 1)) = snapL t (chs.take j) ++ [(x.k, x.n)] := by
 rw [List.take_succ_eq_append_getElem hj]; unfold snapL; rw [List.filterMap_append]; simp [h, rowOf]
theorem snapL_length (t : Int) (chs : List Ch) : (snapL t chs).length ≤ chs.length := List.length_filterMap_le _ _

theorem yield_i {m l0 : Nat} {T : Nat → Prop} {args : Array Value} {W : World} {p q : World → Prop} (h : YieldAt Fence.wide m Tryz.prog l0 args W fun e W' => (e = .returned (.bool true) ∧ p W' ∧ KpT T W W') ∨ (e = .returned (.bool false) ∧ q W')) :
  YieldAt Fence.wide m Tryz.prog l0 args W fun e W' => ∃ t, e = .returned (.bool t) ∧ ((t = true ∧ p W' ∧ KpT T W W') ∨ (t = false ∧ q W')) := by
 obtain ⟨fn, tmps, assign, body, hy, hR⟩ := h
 refine ⟨fn, tmps, assign, body, hy, hR.mono ?_⟩
 rintro e w' (⟨rfl, h1, h2⟩ | ⟨rfl, h1⟩)
 ·
  exact ⟨true, rfl, .inl ⟨rfl, h1, h2⟩⟩
 ·
  exact ⟨false, rfl, .inr ⟨rfl, h1⟩⟩

theorem OwnG.kp {α : Type} [Elt α] {w W' : World} {T : Nat → Prop} {n₀ : Nat} {v : Value} {l : List α} (h : OwnG w n₀ v l) (hi : ∀ k, n₀ ≤ k → k < w.heap.size → T k) (hk : KpT T w W') : OwnG W' n₀ v l :=
 h.keep fun g hg => by have := h.block_lt hg; exact hk.2 g (hi g this.1 this.2)

set_option maxHeartbeats 4000000 in
theorem snapshot1_c (n l0 n₀ s Bs Bt : Nat) (T : Nat → Prop) (z t : Int) (chs : List Ch) (hl : chs.length ≤ 1048576) (J Jx : List R → World → Prop)
  (W W0 : World) (hJ : AbidesFrom W.heap.size J)
  (hY : ∀ pre x W1, J pre W1 → pre.length < chs.length → YieldAt Fence.wide (n - 1) Tryz.prog l0 #[encR x] W1 fun e W' =>
   (e = .returned (.bool true) ∧ J (pre ++ [x]) W' ∧ KpT T W1 W') ∨ (e = .returned (.bool false) ∧ Jx (pre ++ [x]) W'))
  (hn₁ : ∀ k, T k → k < W.heap.size) (hS : Sto W0 n₀ s z chs) (hhi : ∀ k, n₀ ≤ k → k < W0.heap.size → T k) (hk0 : KpT (fun k => n₀ ≤ k ∧ k < W0.heap.size) W0 W)
  (hBs : Blk W Bs 71 #[.pointer (some ⟨s, 0, none⟩)]) (hBt : Blk W Bt 105 #[.int .i64 t]) (hBs1 : T Bs) (hBt1 : T Bt) (h0 : J [] W) :
  Calls Tryz.prog 96 #[.func (.yield l0) #[] #[], .pointer (some ⟨Bs, 0, none⟩), .pointer (some ⟨Bt, 0, none⟩)] W fun e W' => (∃ v, e = .returned v) ∧
   ((∃ ys, ys = snapL t chs ∧ J ys W') ∨ (∃ pre, True ∧ Jx pre W')) := by
 obtain ⟨v, hB, hO⟩ := hS.blk
 have hslt := hB.lt
 have hSW := hS.kp (fun k h1 h2 => ⟨h1, h2⟩) hk0
 obtain ⟨A, c, rfl, hlc, hcm, hr⟩ := hO.read
 have hpl := pts_length chs
 have c1 : W.cell? ⟨s, 1, none⟩ = some (.slice A chs.length c) := by rw [(hB.kp hk0 ⟨hS.lo, hslt⟩).cell, ← hpl]; rfl
 have cB : W.cell? ⟨Bs, 0, none⟩ = some (.pointer (some ⟨s, 0, none⟩)) := by rw [hBs.cell]; rfl
 go_enter Tryz.func96, Tryz.ntmps96
 go_wp2
 go_loopw [13] (fun i wr => ∃ j : Nat, j ≤ chs.length ∧ i = .int .i64 j ∧ J (snapL t (chs.take j)) wr ∧ KpT T W wr) (fun i _ => chs.length - (intOf i).toNat)
 case atStart => exact ⟨0, Nat.zero_le _, rfl, h0, KpT.refl _ _⟩
 case round =>
  obtain ⟨j, hj, rfl, hJr, hk⟩ := hrel
  by_cases hjl : j < chs.length
  ·
   have hjI := lenI _ _ hjl
   have hk2 := hk0.trans (hk.mono fun k hk' => hhi k hk'.1 hk'.2)
   have hSr := hS.kp (fun k h1 h2 => ⟨h1, h2⟩) hk2
   have hch := hSr.cok chs[j] (List.getElem_mem hjl)
   obtain ⟨hx1, _, _, hrr⟩ := (hO.kp (fun k h1 h2 => ⟨h1, h2⟩) hk2).rd'
   obtain ⟨b, o, rfl, hbB, hc0⟩ := hrr.atPt (i := j) (by rw [hpl]; exact hjl)
   have hc1 : wr.cell? ⟨b, o + j, none⟩ = some (.pointer (some ⟨chs[j].g, 0, none⟩)) := by rw [hc0]; simp [pts]
   have cT : wr.cell? ⟨Bt, 0, none⟩ = some (.int .i64 t) := by rw [(hBt.kp hk hBt1).cell]; rfl
   clear hc0 hrr hx1
   have hszr : ∀ k, T k → k < wr.heap.size := fun k h => Nat.lt_of_lt_of_le (hn₁ k h) hk.1
   have hlenp := snapL_length t (chs.take j)
   rw [List.length_take] at hlenp
   cases hse : seen t chs[j] with
   | none =>
    have HE := Lib.hid (snapL_none hjl hse)
    go_wp2_with ((go_at_call 97; refine (at_c chs[j] t _ hch).mono ?_; rintro e w' ⟨rfl, hb2⟩; rw [hse]; dsimp only [seenT]))
    go_roundw
    case rel =>
     have hb3 := below_alloc hb2 (.cells #[.string ByteArray.empty, .int .i64 0, .int .i64 0, .int .i64 0] 68)
     exact ⟨j + 1, by omega, by go_num, by rw [HE.out]; exact hJ _ _ _ none hJr (grown_below hb3) (fun _ h => by cases h), hk.trans (KpT.below hb3 hszr)⟩
    case measure => simp [intOf]; omega
   | some x =>
    have HE := Lib.hid (snapL_some hjl hse)
    go_upto_region 4 with (go_at_call 97; refine (at_c chs[j] t _ hch).mono ?_; rintro e w' ⟨rfl, hb2⟩; rw [hse]; dsimp only [seenT])
    have hb3 := below_alloc hb2 (.cells #[.string x.k, .int .i64 x.n, .int .i64 x.f, .int .i64 x.t] 68)
    have k1 : (w'.alloc (.cells #[.string x.k, .int .i64 x.n, .int .i64 x.f, .int .i64 x.t] 68)).cell? ⟨w'.heap.size, 0, none⟩ = some (.string x.k) := by rw [World.cell?_alloc_at _ _ _ _ rfl]; rfl
    have k2 : (w'.alloc (.cells #[.string x.k, .int .i64 x.n, .int .i64 x.f, .int .i64 x.t] 68)).cell? ⟨w'.heap.size, 1, none⟩ = some (.int .i64 x.n) := by rw [World.cell?_alloc_at _ _ _ _ rfl]; rfl
    generalize w'.alloc (.cells #[.string x.k, .int .i64 x.n, .int .i64 x.f, .int .i64 x.t] 68) = w3 at hb3 k1 k2 ⊢
    have hJ3 : J (snapL t (chs.take j)) w3 := hJ _ _ _ none hJr (grown_below hb3) (fun _ h => by cases h)
    obtain ⟨fn, tmps, assign, body, hy, hR⟩ := yield_i (hY (snapL t (chs.take j)) (x.k, x.n) w3 hJ3 (by omega))
    dsimp only [encR] at hy
    refine (wpIn_wide (n := n)).1 ?_
    gi_wp2_with (first
     | (refine ⟨(fun h => by cases h), hR.mono ?_⟩; rintro e w5 ⟨tt, rfl, hT⟩))
    rcases hT with ⟨rfl, hJ5, hk5⟩ | ⟨rfl, hx5⟩
    ·
     go_wp2
     go_roundw
     case rel => exact ⟨j + 1, by omega, by go_num, by rw [HE.out]; exact hJ5, hk.trans ((KpT.below hb3 hszr).trans hk5)⟩
     case measure => simp [intOf]; omega
    ·
     go_wp2
     refine bodyPost_ret (results_none rfl _ _ _) rfl ?_
     exact ⟨⟨_, rfl⟩, .inr ⟨_, trivial, hx5⟩⟩
  ·
   have hi1 : decide ((j : Int) < (chs.length : Int)) = false := decide_eq_false (by omega)
   go_wp2
   go_end0
   rw [List.take_of_length_le (by omega)] at hJr
   exact ⟨⟨_, rfl⟩, .inl ⟨_, rfl, hJr⟩⟩

set_option maxHeartbeats 1000000 in
theorem snapshot_c (s : Nat) (t : Int) (w : World) :
  Calls Tryz.prog 63 #[.pointer (some ⟨s, 0, none⟩), .int .i64 t] w fun e w' =>
   e = .returned (.func (.func 96) #[] #[.pointer (some ⟨w.heap.size, 0, none⟩), .pointer (some ⟨w.heap.size + 1, 0, none⟩)]) ∧
   w' = (w.alloc (.cells #[.pointer (some ⟨s, 0, none⟩)] 71)).alloc (.cells #[.int .i64 t] 105) := by
 go_enter Tryz.func63, Tryz.ntmps63
 go_wp2
 go_ret
 exact ⟨by simp, rfl⟩

theorem snapshot_stops (m n₀ s Bs Bt : Nat) (T : Nat → Prop) (z t : Int) (chs : List Ch) (hl : chs.length ≤ 1048576) (w0 W0 : World)
  (hn₁ : ∀ k, T k → k < w0.heap.size) (hS : Sto W0 n₀ s z chs) (hhi : ∀ k, n₀ ≤ k → k < W0.heap.size → T k) (hk0 : KpT (fun k => n₀ ≤ k ∧ k < W0.heap.size) W0 w0)
  (hBs : Blk w0 Bs 71 #[.pointer (some ⟨s, 0, none⟩)]) (hBt : Blk w0 Bt 105 #[.int .i64 t]) (hBs1 : T Bs) (hBt1 : T Bt) :
  SeqStopsK Fence.wide m Tryz.prog 96 #[.pointer (some ⟨Bs, 0, none⟩), .pointer (some ⟨Bt, 0, none⟩)] (fun x : R => #[encR x]) (KpT T) (fun ys => ys = snapL t chs) (fun _ => True) chs.length w0 :=
 fun l0 J Jx W hW hJ _ hY h0 => callsIn_wide.2 (snapshot1_c m l0 n₀ s Bs Bt T z t chs hl J Jx W W0 hJ hY (fun k h => Nat.lt_of_lt_of_le (hn₁ k h) hW.size) hS hhi (hk0.trans (KpT.below hW (fun k h => Nat.lt_of_lt_of_le h.2 hk0.1))) (hBs.next hW) (hBt.next hW) hBs1 hBt1 h0)

end Go.Proofs.YtnijgbinjbikbaaGreat

namespace Go.Proofs.YtnijgbinjbikbaaGreat
open Go.RowKit Go.Shelf
set_option linter.unusedVariables false
set_option maxRecDepth 100000
attribute [local go_sem] Oper.semAt_some

def markD (D : Nat) : Deferred := { target := .collected D, args := #[] }
/-- a function leaves by its marks: each hands no call over -/
theorem leaves_marks {F : Fence} {n : Nat} {fn : Func} {tmps : Array Value} {R : Ending → World → Prop} (v : Value) (hres : ∀ w, (results fn tmps).run Tryz.prog w = .ok v w) (w0 : World) (hR : ∀ W, Below w0.heap.size w0 W → R (.returned v) W) :
  (ds : List Nat) → (W : World) → Below w0.heap.size w0 W → (∀ D ∈ ds, w0.heap.size ≤ D ∧ W.heap[D]? = some (.deferred (some []))) → ds.Nodup → LeavesInM F n Tryz.prog fn tmps R (ds.map markD) .returning W
 | [], W, hb, _, _ => ⟨v, hres W, hR W hb⟩
 | D :: ds, W, hb, hds, hnd => by
  obtain ⟨hD, hK⟩ := hds D (by simp)
  refine ⟨by simp, .inl ⟨D, _, rfl, run_takeDeferred hK, ?_⟩⟩
  have hbD := belowK_b (w := w0) (Nat.le_refl _) W D _ (.deferred none) hD hK rfl rfl
  rw [List.nodup_cons] at hnd
  refine leaves_marks v hres w0 hR ds _ (hb.trans hbD) (fun D' h' => ⟨(hds D' (by simp [h'])).1, ?_⟩) hnd.2
  have hne : D' ≠ D := by rintro rfl; exact hnd.1 h'
  rw [← (hds D' (by simp [h'])).2]
  simp [World.putObj, hne.symm]

open Classical in
noncomputable def fitB (z : Int) (chs : List Ch) : Bool := decide (∀ t : Int, 0 ≤ t → t ≤ z → (snapL t chs).length ≤ 10)
theorem fitB_no {z : Int} {chs : List Ch} {t : Int} (h0 : 0 ≤ t) (h1 : t ≤ z) (h : 10 < (snapL t chs).length) : fitB z chs = false := by
 unfold fitB; simp only [decide_eq_false_iff_not]; intro hh; have := hh t h0 h1; omega
theorem fitB_yes {z : Int} {chs : List Ch} (h : ∀ t : Int, 0 ≤ t → t ≤ z → (snapL t chs).length ≤ 10) : fitB z chs = true := by
 unfold fitB; simp only [decide_eq_true_eq]; exact h

/-- what the loop keeps: the count lies in its box, all else is as it was -/
def CntI (w2 : World) (cb : Nat) (pre : List R) (W : World) : Prop := Boxed W cb 3 (.int .i64 (pre.length : Int)) ∧ Chg (fun b => b = cb) w2 W
theorem cntI_own (w2 : World) (cb : Nat) (hcb : cb < w2.heap.size) : OwnFrom w2.heap.size (CntI w2 cb) := by
 rintro s W W' row ⟨hv, hc⟩ hg hr
 refine ⟨(hg.block cb hv.lt (fun e => by have := (hr cb e.symm).1; omega)).trans hv, ⟨hg.os.trans hc.os, hg.tape.trans hc.tape, hg.output.trans hc.output, Nat.le_trans hc.size hg.size, fun k hk hn => ?_⟩⟩
 exact (hg.block k (Nat.lt_of_lt_of_le hk hc.size) (fun e => by have := (hr k e.symm).1; omega)).trans (hc.block k hk hn)

theorem kpT_b {T : Nat → Prop} {w : World} (hT : ∀ k, T k → k < w.heap.size) (W : World) (l : Nat) (o o' : Obj) (hl : w.heap.size ≤ l) (h : W.heap[l]? = some o) (h1 : o.isCells = false) (h2 : o.isWalk = false) : KpT T W (W.putObj l o') := by
 have hb := belowK_b (w := w) (Nat.le_refl _) W l o o' hl h h1 h2
 exact ⟨hb.size, fun k hk => hb.block k (hT k hk)⟩

set_option maxHeartbeats 4000000 in
theorem fit_c (n₀ s : Nat) (z : Int) (chs : List Ch) (w : World) (h : Sto w n₀ s z chs) (hz : z ≤ 40) (hl : chs.length ≤ 1048576) :
  Calls Tryz.prog 33 #[.pointer (some ⟨s, 0, none⟩)] w fun e w' => e = .returned (.bool (fitB z chs)) ∧ Below w.heap.size w w' := by
 refine (callsIn_wide (n := 3)).1 (callsIn_of_wp_marks Tryz.func33 rfl trivial ?_ rfl)
 simp only [Tryz.ntmps33, List.size_toArray, List.length_cons, List.length_nil, Nat.reduceAdd, Nat.reduceSub, Array.replicate_succ, Array.replicate_zero, List.push_toArray, List.append_toArray, List.nil_append, List.cons_append]
 refine wpIn_wide.2 ?_
 go_wp2
 refine wp_loop (fun a W => ∃ (tt : Nat) (u4 u5 u6 u7 u8 u9 u10 u11 u12 u13 u14 u15 u16 u17 u18 u19 u20 : Value) (ds : List Nat), a = { tmps := #[.pointer (some ⟨s, 0, none⟩), undef, .bool false, .int .i64 (tt : Int), u4, u5, u6, u7, u8, u9, u10, u11, u12, u13, u14, u15, u16, u17, u18, u19, u20], defers := ds.map markD } ∧ ((tt : Int) ≤ z + 1 ∨ tt = 0) ∧ (∀ t : Int, 0 ≤ t → t < tt → (snapL t chs).length ≤ 10) ∧ Below w.heap.size w W ∧ (∀ D ∈ ds, w.heap.size ≤ D ∧ W.heap[D]? = some (.deferred (some []))) ∧ ds.Nodup) (fun a _ => 41 - (intOf (a.tmps.getD 3 undef)).toNat) ?_ ?_
 ·
  exact ⟨0, _, _, _, _, _, _, _, _, _, _, _, _, _, _, _, _, _, [], rfl, .inr rfl, fun t h0 h1 => absurd h1 (by omega), Below.refl _ _, fun D hD => by simp at hD, List.nodup_nil⟩
 rintro a W ⟨tt, u4, u5, u6, u7, u8, u9, u10, u11, u12, u13, u14, u15, u16, u17, u18, u19, u20, ds, rfl, htz, hfew, hb, hds, hnd⟩
 have hSW := h.next hb
 obtain ⟨v, hB, hO⟩ := hSW.blk
 have c0 : W.cell? ⟨s, 0, none⟩ = some (.int .i64 z) := by rw [hB.cell]; rfl
 have HF := Lib.hid hfew
 clear hfew
 by_cases hle : (tt : Int) ≤ z
 ·
  have hbx : Below W.heap.size W (((W.alloc (.cells #[.int .i64 0] 3)).alloc (.cells #[.pointer (some ⟨s, 0, none⟩)] 71)).alloc (.cells #[.int .i64 (tt : Int)] 105)) := below_alloc (below_alloc (below_alloc (Below.refl _ _) _) _) _
  have hCb := ((blkA W #[.int .i64 0] 3).alloc (.cells #[.pointer (some ⟨s, 0, none⟩)] 71)).alloc (.cells #[.int .i64 (tt : Int)] 105)
  have hBs := (blkA (W.alloc (.cells #[.int .i64 0] 3)) #[.pointer (some ⟨s, 0, none⟩)] 71).alloc (.cells #[.int .i64 (tt : Int)] 105)
  have hBt := blkA ((W.alloc (.cells #[.int .i64 0] 3)).alloc (.cells #[.pointer (some ⟨s, 0, none⟩)] 71)) #[.int .i64 (tt : Int)] 105
  have hsz : (((W.alloc (.cells #[.int .i64 0] 3)).alloc (.cells #[.pointer (some ⟨s, 0, none⟩)] 71)).alloc (.cells #[.int .i64 (tt : Int)] 105)).heap.size = W.heap.size + 3 := by simp
  simp only [World.size_alloc] at hBs hBt
  go_wp2_with fail
  refine (snapshot_c s tt _).mono ?_
  rintro e w2 ⟨rfl, rfl⟩
  go_wp2
  generalize (((W.alloc (.cells #[.int .i64 0] 3)).alloc (.cells #[.pointer (some ⟨s, 0, none⟩)] 71)).alloc (.cells #[.int .i64 (tt : Int)] 105)) = w2 at *
  have hcb : W.heap.size < w2.heap.size := by omega
  have hWs := hSW.lt
  have hWlo := hSW.lo
  have HSZ := Lib.hid hsz
  refine (wpIn_wide (n := 3)).1 ?_
  refine wpIn_rangeFunc_ownH rfl (by omega) (gf := 96) (lb := #[.pointer (some ⟨W.heap.size + 1, 0, none⟩), .pointer (some ⟨W.heap.size + 1 + 1, 0, none⟩)]) rfl trivial (enters_of Tryz.func96 (by kernel_rfl) rfl)
   (snapshot_stops _ n₀ s (W.heap.size + 1) (W.heap.size + 1 + 1) (fun k => n₀ ≤ k ∧ k < w2.heap.size ∧ k ≠ W.heap.size) z tt chs hl w2 W (fun k hk => hk.2.1) hSW (fun k h1 h2 => ⟨h1, by omega, by omega⟩) (KpT.below hbx (fun k hk => hk.2)) hBs hBt ⟨by omega, by omega, by omega⟩ ⟨by omega, by omega, by omega⟩)
   KpT.trans (kpT_b (w := w2) (fun k hk => hk.2.1)) (Below.refl _ _) (fun _ => rfl)
   (CntI w2 W.heap.size) (fun _ _ _ => False) (cntI_own w2 W.heap.size hcb) (fun _ _ _ _ _ hs _ _ => hs)
   ⟨hCb, Chg.refl _ _⟩
   (fun x a' _ => a' = { tmps := #[.pointer (some ⟨s, 0, none⟩), undef, .bool false, .int .i64 (tt : Int), .pointer (some ⟨W.heap.size, 0, none⟩), .int .i64 (tt : Int), .pointer (some ⟨s, 0, none⟩), .pointer (some ⟨s, 0, none⟩), .pointer (some ⟨s, 0, none⟩), .int .i64 z, .bool true, u11, u12, .pointer (some ⟨s, 0, none⟩), .int .i64 (tt : Int), .func (.func 96) #[] #[.pointer (some ⟨W.heap.size + 1, 0, none⟩), .pointer (some ⟨W.heap.size + 1 + 1, 0, none⟩)], encR x, u17, u18, u19, u20], defers := [] })
   ?hAx ?assign ?body ?done ?stop
  case hAx =>
   rintro x a' _ W1 W1' row rfl hg hr'
   rfl
  case assign =>
   rintro l0 pre x W1 K hi' hK
   dsimp only [encR]
   gi_wp2
   exact hK _ _ ((KeepsOthers.refl _).from _) (KpT.refl _ _) hi' (by simp [encR])
  case body =>
   rintro l0 pre x a' W1 hl0 ⟨r, hr0⟩ ⟨hv, hc⟩ rfl hlt
   have d0 := hv.cell
   have f0 := hv.frozen
   gi_wp2
   refine ⟨(KeepsOthers.setCell _ _ _).from _, ⟨by simp [World.setCell], fun k hk => Below.heap_setCell W1 ⟨W.heap.size, 0, none⟩ _ k hk.2.2⟩, ?_, hc.setCell (a := ⟨W.heap.size, 0, none⟩) (.inl rfl) _⟩
   have hv' : Blk W1 W.heap.size 3 #[.int .i64 (pre.length : Int)] := hv
   have e : ((pre ++ [x]).length : Int) = (pre.length : Int) + 1 := by simp
   unfold Boxed
   rw [e]
   exact (hv'.set_ 0 _).cast rfl
  case done =>
   rintro D ys W1 hD rfl ⟨hv, hc⟩ hK
   have d0 := hv.cell
   have hbW1 : Below w.heap.size W W1 := (hbx.mono hb.size).trans (hc.toBelow (by have := hb.size; have := hbx.size; omega) (fun k hk => by have := hb.size; omega))
   have hbF := hb.trans hbW1
   have hds1 : ∀ D' ∈ D :: ds, w.heap.size ≤ D' ∧ W1.heap[D']? = some (.deferred (some [])) := by
    intro D' hD'
    rcases List.mem_cons.1 hD' with rfl | hD'
    ·
     exact ⟨by have := hb.size; have := hbx.size; omega, hK⟩
    ·
     obtain ⟨h1, h2⟩ := hds D' hD'
     have hlt : D' < W.heap.size := (Array.getElem?_eq_some_iff.1 h2).1
     exact ⟨h1, (hc.block D' (by omega) (by omega)).trans ((hbx.block D' hlt).trans h2)⟩
   have hnd1 : (D :: ds).Nodup := List.nodup_cons.2 ⟨fun hm => by
    have := (Array.getElem?_eq_some_iff.1 (hds D hm).2).1
    omega, hnd⟩
   have HDS := Lib.hid hds1
   have HND := Lib.hid hnd1
   clear hds hds1 hnd hnd1 hK
   by_cases h10 : 10 < (snapL tt chs).length
   ·
    have hd : decide (10 < (snapL tt chs).length) = true := decide_eq_true h10
    have hd' : decide ((10 : Int) < ((snapL tt chs).length : Int)) = true := decide_eq_true (by omega)
    have HN := Lib.hid (fitB_no (z := z) (by omega) hle h10)
    clear h10
    go_wp2
    exact leaves_marks (ds := D :: ds) (.bool false) (fun w => (results_tmp (t := 2) rfl _ _ w).trans rfl) w (fun W' hb' => ⟨by rw [HN.out], hb'⟩) W1 hbF HDS.out HND.out
   ·
    have hd : decide (10 < (snapL tt chs).length) = false := decide_eq_false h10
    have hd' : decide ((10 : Int) < ((snapL tt chs).length : Int)) = false := decide_eq_false (by omega)
    have H10 := Lib.hid h10
    clear h10
    go_wp2
    refine ⟨⟨tt + 1, _, _, _, _, _, _, _, _, _, _, _, _, _, _, _, _, _, D :: ds, rfl, .inl (by omega), fun t h0 h1 => ?_, hbF, HDS.out, HND.out⟩, ?_⟩
    ·
     by_cases e : t = tt
     ·
      subst e; have := H10.out; omega
     ·
      exact HF.out t h0 (by omega)
    ·
     simp [intOf]; omega
  case stop =>
   rintro D c0 pre W1 _ _ h _
   exact h.elim
 ·
  have hd : decide ((tt : Int) ≤ z) = false := decide_eq_false hle
  have HN := Lib.hid (fitB_yes (z := z) (chs := chs) fun t h0 h1 => HF.out t h0 (by omega))
  have HDS := Lib.hid hds
  clear hds
  go_wp2
  exact leaves_marks (ds := ds) (.bool true) (fun w => (results_tmp (t := 2) rfl _ _ w).trans rfl) w (fun W' hb' => ⟨by rw [HN.out], hb'⟩) W hb HDS.out hnd

end Go.Proofs.YtnijgbinjbikbaaGreat
