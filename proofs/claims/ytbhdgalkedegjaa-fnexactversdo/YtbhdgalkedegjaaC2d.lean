/- The program's storage: its chains; chainOf. -/
import Derived.Test.YtbhdgalkedegjaaC2c
import Derived.Test.YtbhdgalkedegjaaMath
namespace Go.Proofs.Ytbhdgalkedegjaa
open Go.RowKit
set_option linter.unusedVariables false
set_option maxRecDepth 100000

/-- two chains share no block -/
def Dis (a b : Ch) : Prop := ∀ x, a.has x → ¬ b.has x
structure Sto (w : World) (base s : Nat) (z : Int) (chs : List Ch) : Prop where
  blk : ∃ v, Blk w s 109 #[.int .i64 z, v] ∧ OwnG w base v (pts chs)
  cok : ∀ c ∈ chs, ChOk w c
  dis : chs.Pairwise Dis
  lo : base ≤ s
  los : ∀ c ∈ chs, ∀ b, c.has b → base ≤ b
/-- the keys ascend -/
def Asc (chs : List Ch) : Prop := chs.Pairwise fun a b => lt a.k b.k = true
theorem Asc.keys {chs : List Ch} (h : Asc chs) : AscP (keysR chs) := by
  intro i hi
  rw [keysR_length] at hi
  have := (List.pairwise_iff_getElem.1 h) i (i + 1) (by omega) hi (by omega)
  simpa [keysR] using this

theorem typesSC : (109 : TypeId) ≠ 141 := by decide
theorem typesSL : (109 : TypeId) ≠ 143 := by decide
theorem typesSP : (109 : TypeId) ≠ 94 := by decide
theorem typesCP : (141 : TypeId) ≠ 94 := by decide
theorem typesLP : (143 : TypeId) ≠ 94 := by decide

theorem ChOk.ne_of {w : World} {c : Ch} {g : Nat} {t : TypeId} {cs : Array Value} (h : ChOk w c) (hg : Blk w g t cs) (h1 : t ≠ 141) (h2 : t ≠ 143) : ∀ b, c.has b → b ≠ g := by
  intro b hb
  rcases hb with rfl | hb
  · exact h.blk.ne hg h1.symm
  · obtain ⟨x, hx, rfl⟩ := List.mem_map.1 hb
    obtain ⟨i, hi, rfl⟩ := List.getElem_of_mem hx
    exact (h.ls i _ (List.getElem?_eq_getElem hi)).ne hg h2.symm
theorem OwnG.blk_of {α : Type} [Elt α] {w : World} {base : Nat} {v : Value} {l : List α} (h : OwnG w base v l) {g : Nat} (hg : v.ownBlock = some g) : ∃ cs, Blk w g (Elt.T α) cs := by
  rcases h.cases with ⟨rfl, rfl⟩ | ⟨g', cap, cur, rfl, hb, hblk, _⟩
  · simp [Value.ownBlock] at hg
  · have : g' = g := by simpa [Value.ownBlock] using hg
    subst this
    exact ⟨cur, hblk⟩

section
variable {w w' : World} {base s : Nat} {z : Int} {chs : List Ch}
theorem Sto.lt (h : Sto w base s z chs) : s < w.heap.size := by obtain ⟨v, hb, _⟩ := h.blk; exact hb.lt
theorem Sto.next (h : Sto w base s z chs) (hb : Below w.heap.size w w') : Sto w' base s z chs := by
  obtain ⟨v, h1, h2⟩ := h.blk
  exact ⟨⟨v, h1.next hb, h2.next hb⟩, fun c hc => (h.cok c hc).next hb, h.dis, h.lo, h.los⟩
theorem Sto.key (h : Sto w base s z chs) (i : Nat) (hi : i < chs.length) : w.cell? ⟨chs[i].g, 0, none⟩ = some (.string chs[i].k) := by
  rw [(h.cok _ (List.getElem_mem hi)).blk.cell]; rfl
end

def RetOf (w : World) (base s : Nat) (z : Int) (chs : List Ch) (key : ByteArray) (e : Ending) (w' : World) : Prop :=
  ∃ L c R, e = .returned (.pointer (some ⟨c.g, 0, none⟩)) ∧ c.k = key ∧ Sto w' base s z (L ++ c :: R) ∧ Asc (L ++ c :: R) ∧ Chg (fun b => b = s) w w' ∧ (chs = L ++ c :: R ∨ (chs = L ++ R ∧ c.ls = []))

theorem split_has {chs : List Ch} {key : ByteArray} (h : hasB (keysR chs) key = true) : ∃ hp : posN (keysR chs) key < chs.length, chs[posN (keysR chs) key].k = key := by
  have hlt := hasB_lt h
  refine ⟨by rwa [keysR_length] at hlt, ?_⟩
  rw [hasB_at (posN_pos _ _) hlt] at h
  have := str_eq h
  simpa [keysR] using this
theorem split_new' {chs : List Ch} {key : ByteArray} (ha : Asc chs) (h : hasB (keysR chs) key = false) (g p : Nat) (hp : Pos (keysR chs) key p) : Asc (chs.take p ++ (⟨g, key, []⟩ : Ch) :: chs.drop p) := by
  have hle : p ≤ chs.length := by have := hp.le; rwa [keysR_length] at this
  have hlow : ∀ a ∈ chs.take p, lt a.k key = true := by
    intro a ha'
    obtain ⟨i, hi, rfl⟩ := List.getElem_of_mem ha'
    rw [List.length_take] at hi
    have := hp.low i (by rw [keysR_length]; omega) (by omega)
    simpa [keysR, List.getElem_take] using this
  have hhigh : ∀ b ∈ chs.drop p, lt key b.k = true := by
    intro b hb
    obtain ⟨i, hi, rfl⟩ := List.getElem_of_mem hb
    rw [List.length_drop] at hi
    rw [List.getElem_drop]
    have hpl : p < chs.length := by omega
    have h0 : lt chs[p].k key = false := by have := hp.at_ (by rw [keysR_length]; omega); simpa [keysR] using this
    have h1 : (chs[p].k.toList == key.toList) = false := by
      have := hasB_at hp (by rw [keysR_length]; omega)
      rw [h] at this
      simpa [keysR] using this.symm
    have hk : lt key chs[p].k = true := by
      cases e : lt key chs[p].k
      · have e2 := lt_tri h0 e
        rw [e2] at h1
        simp at h1
      · rfl
    by_cases hi0 : i = 0
    · subst hi0; exact hk
    · exact lt_trans hk ((List.pairwise_iff_getElem.1 ha) p (p + i) (by omega) (by omega) (by omega))
  unfold Asc
  rw [List.pairwise_append]
  refine ⟨List.Pairwise.sublist (List.take_sublist _ _) ha, List.pairwise_cons.2 ⟨hhigh, List.Pairwise.sublist (List.drop_sublist _ _) ha⟩, ?_⟩
  intro a ha' b hb
  rcases List.mem_cons.1 hb with rfl | hb
  · exact hlow a ha'
  · exact lt_trans (hlow a ha') (hhigh b hb)
theorem split_new {chs : List Ch} {key : ByteArray} (ha : Asc chs) (h : hasB (keysR chs) key = false) (g : Nat) : Asc (chs.take (posN (keysR chs) key) ++ (⟨g, key, []⟩ : Ch) :: chs.drop (posN (keysR chs) key)) :=
  split_new' ha h g _ (posN_pos _ _)

set_option maxHeartbeats 2000000 in
theorem chainOf_c (base s : Nat) (z : Int) (chs : List Ch) (key : ByteArray) (w : World) (h : Sto w base s z chs) (ha : Asc chs) (hl : chs.length ≤ 1048576) :
    Calls Try.prog 73 #[.pointer (some ⟨s, 0, none⟩), .string key] w (RetOf w base s z chs key) := by
  obtain ⟨v, hS, hO⟩ := h.blk
  obtain ⟨A, c, rfl, hlc, hcm, hr⟩ := hO.read
  have hpl := pts_length chs
  have c1 : w.cell? ⟨s, 1, none⟩ = some (.slice A chs.length c) := by rw [hS.cell, ← hpl]; rfl
  have hf1 := hS.free 1
  have hposle : posN (keysR chs) key ≤ chs.length := by have := (posN_pos (keysR chs) key).le; rwa [keysR_length] at this
  cases hh : hasB (keysR chs) key
  · have HA := Lib.hid (fun g => split_new ha hh g)
    obtain ⟨p, HP⟩ : ∃ p, Hid (posN (keysR chs) key = p) := ⟨_, Lib.hid rfl⟩
    rw [HP.out] at hposle
    have hw2 : Below w.heap.size w ((w.alloc (.cells #[.string key, .pointer none, .pointer none] 141)).alloc (.cells #[.pointer (some ⟨w.heap.size, 0, none⟩)] 94)) := below_alloc (below_alloc (Below.refl _ _) _) _
    have hone := rdOneGAt (α := Pt) (w.alloc (.cells #[.string key, .pointer none, .pointer none] 141)) (w.heap.size + 1) (by simp) ⟨w.heap.size⟩ #[.pointer (some ⟨w.heap.size, 0, none⟩)] 94 rfl
    have hnewB := (blkA w #[.string key, .pointer none, .pointer none] 141).alloc (.cells #[.pointer (some ⟨w.heap.size, 0, none⟩)] 94)
    have hslt := hS.lt
    go_enter Try.func73, Try.ntmps73
    go_wp2_with fail
    refine (findC A c chs key w (by omega) hr h.key ha.keys).mono ?_
    rintro e w1 ⟨rfl, rfl⟩
    rw [HP.out, hh]
    go_wp2_with fail
    refine (spliceC A c chs.length (pts chs) hpl p _ 1 1 [⟨w.heap.size⟩] rfl _ hlc (by omega) (by omega) (by omega) (hr.next hw2) hone).mono ?_
    rintro e w5 ⟨v5, rfl, hO5, hb5⟩
    have hS5 := (hS.next hw2).next hb5
    have hne5 : ∀ g, v5.ownBlock = some g → g ≠ s := fun g hg => by have h1 := (hO5.block_lt hg).1; simp at h1; omega
    have hnew5 := hnewB.next hb5
    obtain ⟨A5, c5, rfl, hlc5, hcm5, hr5⟩ := hO5.read
    have hlen5 : (List.take p (pts chs) ++ [(⟨w.heap.size⟩ : Pt)] ++ List.drop p (pts chs)).length = chs.length + 1 := by simp [hpl]; omega
    obtain ⟨b, o, rfl, hbB, hc5⟩ := hr5.atPt (i := p) (by rw [hlen5]; omega)
    have hc5' : w5.cell? ⟨b, o + p, none⟩ = some (.pointer (some ⟨w.heap.size, 0, none⟩)) := by
      rw [hc5, List.getElem_append_left (by simp [hpl]; omega), List.getElem_append_right (by simp; omega)]
      simp
    have hbs : b ≠ s := by
      rintro rfl
      have h1 := hne5 b (by
        rcases hO5.cases with ⟨e, _⟩ | ⟨g, cap, cur, e, _⟩
        · injection e with e1 e2 e3; cases e1
        · injection e with e1 e2 e3
          injection e1 with e1
          injection e1 with e1 _
          subst e1; rfl)
      exact h1 rfl
    rw [hlen5] at hO5 ⊢
    have HO5 := Lib.hid hO5
    have hfr := hS5.free 1
    have hcs : w5.cell? ⟨s, 1, none⟩ = some (.slice A chs.length c) := by rw [hS5.cell, ← hpl]; rfl
    have hpI : (p : Int) < (chs.length : Int) + 1 := by omega
    have hpI2 : (p : Int) < ((chs.length + 1 : Nat) : Int) := by omega
    clear hc5 hO5 hr5
    go_wp2
    go_ret
    refine ⟨chs.take p, ⟨w.heap.size, key, []⟩, chs.drop p, rfl, rfl, ?_, by have := HA.out w.heap.size; rwa [HP.out] at this, ?_, .inr ⟨(List.take_append_drop p chs).symm, rfl⟩⟩
    · have hlo := h.lo
      have hch : ∀ x ∈ chs, ChOk (w5.setCell ⟨s, 1, none⟩ (.slice (some ⟨b, o, none⟩) (chs.length + 1) c5)) x := fun x hx =>
        (((h.cok x hx).next hw2).next hb5).chg (S := fun q => q = s) ((Chg.refl (fun q => q = s) w5).setCell (a := ⟨s, 1, none⟩) (.inl rfl) _) fun q hq => (((h.cok x hx).next hw2).next hb5).ne_of hS5 typesSC typesSL q hq
      refine ⟨⟨.slice (some ⟨b, o, none⟩) (chs.length + 1) c5, (hS5.set_ 1 _).cast rfl, ?_⟩, ?_, ?_, hlo, ?_⟩
      · refine ((HO5.out.setCell (a := ⟨s, 1, none⟩) hne5 _).low (by have := hO.rd'; have := h.lt; simp; omega)).cast' ?_
        simp [pts, List.map_take, List.map_drop]
      · intro x hx
        rcases List.mem_append.1 hx with hx | hx
        · exact hch x (List.mem_of_mem_take hx)
        · rcases List.mem_cons.1 hx with rfl | hx
          · refine ⟨(hnew5.setOther (a := ⟨s, 1, none⟩) (show w.heap.size ≠ s from by omega) _).cast rfl, fun i y hy => by simp at hy, by simp⟩
          · exact hch x (List.mem_of_mem_drop hx)
      · rw [List.pairwise_append]
        have hfresh : ∀ x ∈ chs, ∀ q, x.has q → q ≠ w.heap.size := fun x hx q hq => by have := (h.cok x hx).lt hq; omega
        refine ⟨List.Pairwise.sublist (List.take_sublist _ _) h.dis, List.pairwise_cons.2 ⟨?_, List.Pairwise.sublist (List.drop_sublist _ _) h.dis⟩, ?_⟩
        · intro x hx q hq hq'
          have : q = w.heap.size := by rcases hq with rfl | hq; rfl; simp at hq
          exact hfresh x (List.mem_of_mem_drop hx) q hq' this
        · intro x hx y hy
          rcases List.mem_cons.1 hy with rfl | hy
          · intro q hq hq'
            have : q = w.heap.size := by rcases hq' with rfl | hq'; rfl; simp at hq'
            exact hfresh x (List.mem_of_mem_take hx) q hq this
          · have hpw := h.dis
            rw [← List.take_append_drop p chs, List.pairwise_append] at hpw
            exact hpw.2.2 x hx y hy
      · intro x hx q hq
        rcases List.mem_append.1 hx with hx | hx
        · exact h.los x (List.mem_of_mem_take hx) q hq
        · rcases List.mem_cons.1 hx with rfl | hx
          · have : q = w.heap.size := by rcases hq with rfl | hq; rfl; simp at hq
            have := h.lt
            omega
          · exact h.los x (List.mem_of_mem_drop hx) q hq
    · exact ((Chg.of_below (S := fun b => b = s) hw2).below hb5).setCell (a := ⟨s, 1, none⟩) (.inl rfl) _
  · obtain ⟨hplt, hkey⟩ := split_has hh
    obtain ⟨p, HP⟩ : ∃ p, Hid (posN (keysR chs) key = p) := ⟨_, Lib.hid rfl⟩
    simp only [HP.out] at hplt hkey
    obtain ⟨b, o, rfl, hbB, hc0⟩ := hr.atPt (i := p) (by rw [hpl]; exact hplt)
    have hc5 : w.cell? ⟨b, o + p, none⟩ = some (.pointer (some ⟨chs[p].g, 0, none⟩)) := by rw [hc0]; simp [pts]
    have hpI := lenI _ _ hplt
    clear hc0
    go_enter Try.func73, Try.ntmps73
    go_wp2_with fail
    refine (findC _ c chs key w (by omega) hr h.key ha.keys).mono ?_
    rintro e w1 ⟨rfl, rfl⟩
    rw [HP.out, hh]
    go_wp2
    go_ret
    have e := (List.take_append_drop p chs).symm
    rw [List.drop_eq_getElem_cons hplt] at e
    exact ⟨chs.take p, chs[p], chs.drop (p + 1), rfl, hkey, by rw [← e]; exact h, by rw [← e]; exact ha, Chg.refl _ _, .inl e⟩

end Go.Proofs.Ytbhdgalkedegjaa
