/- The program's storageOf. -/
import Derived.Test.YtbhdgalkedegjaaC2d
namespace Go.Proofs.Ytbhdgalkedegjaa
open Go.RowKit
set_option linter.unusedVariables false
set_option maxRecDepth 100000

/-- one chain has turned, in blocks of its own and new ones -/
theorem Sto.upd {w w' : World} {base s : Nat} {z : Int} {L R : List Ch} {c c' : Ch} (h : Sto w base s z (L ++ c :: R)) (hc : ChOk w' c') (hg : c'.g = c.g) (hch : Chg c.has w w') (hnew : ∀ b, c'.has b → c.has b ∨ w.heap.size ≤ b) : Sto w' base s z (L ++ c' :: R) := by
  obtain ⟨v, hB, hO⟩ := h.blk
  have hcc := h.cok c (by simp)
  have hpw := h.dis
  rw [List.pairwise_append, List.pairwise_cons] at hpw
  have hother : ∀ x, x ∈ L ∨ x ∈ R → ∀ b, x.has b → ¬ c.has b := by
    intro x hx b hb hb'
    rcases hx with hx | hx
    · exact hpw.2.2 x hx c (by simp) b hb hb'
    · exact hpw.2.1.1 x hx b hb' hb
  have hmem : ∀ x, x ∈ L ∨ x ∈ R → x ∈ L ++ c :: R := fun x hx => by rcases hx with hx | hx <;> simp [hx]
  refine ⟨⟨v, hB.chg hch fun hb => hcc.ne_of hB typesSC typesSL _ hb rfl, ?_⟩, ?_, ?_, h.lo, ?_⟩
  · have e : pts (L ++ c' :: R) = pts (L ++ c :: R) := by simp [pts, hg]
    rw [e]
    refine hO.keep fun g hgo => ?_
    obtain ⟨cs, hbk⟩ := hO.blk_of hgo
    exact hch.block g hbk.lt fun hb => hcc.ne_of hbk typesCP.symm typesLP.symm _ hb rfl
  · intro x hx
    rcases List.mem_append.1 hx with hx | hx
    · exact (h.cok x (by simp [hx])).chg hch (hother x (.inl hx))
    · rcases List.mem_cons.1 hx with rfl | hx
      · exact hc
      · exact (h.cok x (by simp [hx])).chg hch (hother x (.inr hx))
  · rw [List.pairwise_append, List.pairwise_cons]
    refine ⟨hpw.1, ⟨fun x hx b hb hb' => ?_, hpw.2.1.2⟩, fun x hx y hy b hb hb' => ?_⟩
    · rcases hnew b hb with h1 | h1
      · exact hother x (.inr hx) b hb' h1
      · have := (h.cok x (by simp [hx])).lt hb'; omega
    · rcases List.mem_cons.1 hy with rfl | hy
      · rcases hnew b hb' with h1 | h1
        · exact hother x (.inl hx) b hb h1
        · have := (h.cok x (by simp [hx])).lt hb; omega
      · exact hpw.2.2 x hx y (by simp [hy]) b hb hb'
  · intro x hx b hb
    rcases List.mem_append.1 hx with hx | hx
    · exact h.los x (by simp [hx]) b hb
    · rcases List.mem_cons.1 hx with rfl | hx
      · rcases hnew b hb with h1 | h1
        · exact h.los c (by simp) b h1
        · have h2 := h.lo; have h3 := h.lt; omega
      · exact h.los x (by simp [hx]) b hb
theorem Sto.far {w : World} {base s : Nat} {z : Int} {chs : List Ch} (h : Sto w base s z chs) {c : Ch} (hc : c ∈ chs) : ∀ b, c.has b → base ≤ b := h.los c hc

/-- the chains hold these versions, in their order -/
structure Cons (chs : List Ch) (l : List V) : Prop where
  flat : chs.flatMap Ch.vs = l
  each : ∀ c ∈ chs, c.vs ≠ [] ∧ ∀ x ∈ c.vs, x.k = c.k
  asc : Asc chs
theorem Cons.length {chs : List Ch} {l : List V} (h : Cons chs l) : chs.length ≤ l.length := by
  have h1 := h.each
  rw [← h.flat]
  clear h
  induction chs with
  | nil => simp
  | cons c chs ih =>
    have h2 := ih fun x hx => h1 x (by simp [hx])
    have h3 : 0 < c.vs.length := List.length_pos_iff.2 (h1 c (by simp)).1
    simp only [List.flatMap_cons, List.length_append, List.length_cons]
    omega
/-- the keys do not descend -/
def KeyLe (l : List V) : Prop := ∀ i (h : i + 1 < l.length), l[i].k = l[i + 1].k ∨ lt l[i].k l[i + 1].k = true
theorem KeyLe.le {l : List V} (h : KeyLe l) : ∀ j (hj : j < l.length) i (hi : i < j), (l[i]'(by omega)).k = l[j].k ∨ lt (l[i]'(by omega)).k l[j].k = true := by
  intro j
  induction j with
  | zero => intro hj i h; omega
  | succ j ih =>
    intro hj i hi
    by_cases e : i = j
    · subst e; exact h i hj
    · rcases ih (by omega) i (by omega) with h1 | h1 <;> rcases h j hj with h2 | h2
      · exact .inl (h1.trans h2)
      · right; rw [h1]; exact h2
      · right; rw [← h2]; exact h1
      · exact .inr (lt_trans h1 h2)

theorem cons_step {chs L R : List Ch} {c : Ch} {l : List V} {k g : Nat} (hl : KeyLe l) (hk : k < l.length) (hC : Cons chs (l.take k)) (hck : c.k = l[k].k) (hA : Asc (L ++ c :: R)) (hor : chs = L ++ c :: R ∨ (chs = L ++ R ∧ c.ls = [])) :
    Cons (L ++ (⟨c.g, c.k, c.ls ++ [⟨g, l[k]⟩]⟩ : Ch) :: R) (l.take (k + 1)) := by
  have hR : R = [] := by
    cases R with
    | nil => rfl
    | cons r R =>
      exfalso
      have hr : r ∈ chs := by rcases hor with rfl | ⟨rfl, _⟩ <;> simp
      have hlt : lt c.k r.k = true := by
        unfold Asc at hA
        rw [List.pairwise_append, List.pairwise_cons] at hA
        exact hA.2.1.1 r (by simp)
      obtain ⟨hne, hall⟩ := hC.each r hr
      obtain ⟨x, hx⟩ := List.exists_mem_of_ne_nil _ hne
      have hxk := hall x hx
      have hxl : x ∈ l.take k := by rw [← hC.flat]; exact List.mem_flatMap.2 ⟨r, hr, hx⟩
      obtain ⟨i, hi, rfl⟩ := List.getElem_of_mem hxl
      rw [List.length_take] at hi
      rw [List.getElem_take] at hxk
      rcases hl.le k hk i (by omega) with h1 | h1
      · rw [← hxk, h1, hck, lt_irrefl] at hlt; cases hlt
      · rw [hxk] at h1
        have := lt_trans hlt h1
        rw [hck, lt_irrefl] at this; cases this
  subst hR
  refine ⟨?_, ?_, ?_⟩
  · rw [List.take_succ_eq_append_getElem hk, ← hC.flat]
    rcases hor with rfl | ⟨rfl, he⟩
    · simp [Ch.vs]
    · simp [Ch.vs, he]
  · intro x hx
    rcases List.mem_append.1 hx with hx | hx
    · exact hC.each x (by rcases hor with rfl | ⟨rfl, _⟩ <;> simp [hx])
    · simp only [List.mem_singleton] at hx
      subst hx
      refine ⟨by simp [Ch.vs], fun y hy => ?_⟩
      simp only [Ch.vs, List.map_append, List.map_cons, List.map_nil, List.mem_append, List.mem_singleton] at hy
      rcases hy with hy | rfl
      · rcases hor with rfl | ⟨rfl, he⟩
        · exact (hC.each c (by simp)).2 y hy
        · rw [he] at hy; simp at hy
      · exact hck.symm
  · unfold Asc at hA ⊢
    rw [List.pairwise_append] at hA ⊢
    refine ⟨hA.1, by simp, fun a ha b hb => ?_⟩
    simp only [List.mem_singleton] at hb
    subst hb
    exact hA.2.2 a ha c (by simp)

def RetSto (w : World) (z : Int) (l : List V) (e : Ending) (w' : World) : Prop := ∃ s chs, e = .returned (.pointer (some ⟨s, 0, none⟩)) ∧ Sto w' w.heap.size s z chs ∧ Cons chs l ∧ Below w.heap.size w w'

set_option maxHeartbeats 2000000 in
theorem storageOf_c (z : Int) (A : Option Addr) (c : Nat) (l : List V) (w : World) (hc : l.length ≤ 1048576) (hk : KeyLe l) (hr : RdG w w.heap.size A l) :
    Calls Try.prog 65 #[.agg #[.int .i64 z, .slice A l.length c]] w (RetSto w z l) := by
  have hb0 : Below w.heap.size w ((w.alloc (.cells #[.int .i64 z, .slice A l.length c] 29)).alloc (.cells #[.int .i64 z, .slice none 0 0] 109)) := below_alloc (below_alloc (Below.refl _ _) _) _
  have hB0 := blkA (w.alloc (.cells #[.int .i64 z, .slice A l.length c] 29)) #[.int .i64 z, .slice none 0 0] 109
  simp only [World.size_alloc] at hB0
  obtain ⟨s, HS, hsge⟩ : ∃ s, Hid (w.heap.size + 1 = s) ∧ w.heap.size ≤ s := ⟨_, Lib.hid rfl, by omega⟩
  rw [HS.out] at hB0
  have HK := Lib.hid hk
  clear hk
  go_enter Try.func65, Try.ntmps65
  go_wp2
  rw [HS.out]
  go_loopw [13] (fun i W => ∃ k : Nat, k ≤ l.length ∧ i = .int .i64 k ∧ ∃ chs, Sto W w.heap.size s z chs ∧ Cons chs (l.take k) ∧ Below w.heap.size w W) (fun i _ => l.length - (intOf i).toNat)
  case atStart => exact ⟨0, Nat.zero_le _, rfl, [], ⟨⟨_, hB0, OwnG.nil _ _⟩, fun c hc => by simp at hc, List.Pairwise.nil, by omega, fun c hc => by simp at hc⟩, ⟨by simp, fun c hc => by simp at hc, List.Pairwise.nil⟩, hb0⟩
  case round =>
    obtain ⟨k, hkl0, rfl, chs, hS, hC, hb⟩ := hrel
    by_cases hkl : k < l.length
    · obtain ⟨b, o, rfl, hbB, hc0, hc1, hc2, hc3⟩ := (hr.below hb).atV hkl
      have hkI := lenI _ _ hkl
      have hslt := hS.lt
      have HC := Lib.hid hC
      go_wp2
      have hbX : Below wr.heap.size wr (wr.alloc (.cells #[.string l[k].k, .int .i64 l[k].n, .int .i64 l[k].f, .int .i64 l[k].t] 68)).drew := (below_alloc (Below.refl _ _) _).drew
      have hX : Blk (wr.alloc (.cells #[.string l[k].k, .int .i64 l[k].n, .int .i64 l[k].f, .int .i64 l[k].t] 68)).drew wr.heap.size 68 #[.string l[k].k, .int .i64 l[k].n, .int .i64 l[k].f, .int .i64 l[k].t] := blkA wr _ _
      have hSd := hS.next hbX
      refine wp_region_held_drew (S := (fun W => W.cell? ⟨wr.heap.size, 0, none⟩ = some (.string l[k].k) ∧ W.cell? ⟨wr.heap.size, 1, none⟩ = some (.int .i64 l[k].n) ∧ W.cell? ⟨wr.heap.size, 2, none⟩ = some (.int .i64 l[k].f) ∧ W.cell? ⟨wr.heap.size, 3, none⟩ = some (.int .i64 l[k].t))) (by kernel_rfl) ?_ (fun hHeld => ?_)
      focus ((try dsimp only); (exact ⟨by rw [hX.cell]; rfl, by rw [hX.cell]; rfl, by rw [hX.cell]; rfl, by rw [hX.cell]; rfl⟩))
      (refine tkW (i := 0) (v := ?_) (by (simp only [ga, gb, gc]; rfl)) (by kernel_rfl) (by (intro _ _ _ h; exact h)) (by rfl) ?_ (by assumption) ?_; rotate_left; (focus ((intro w hSw; (try dsimp only at hSw); go_simp) <;> with_reducible rfl)); (try simp only [Act.put, pa, pb, pc]))
      (refine tkW (i := 1) (v := ?_) (by (simp only [ga, gb, gc]; rfl)) (by kernel_rfl) (by (intro _ _ _ h; exact h)) (by rfl) ?_ (by assumption) ?_; rotate_left; (focus ((intro w hSw; (try dsimp only at hSw); go_simp) <;> with_reducible rfl)); (try simp only [Act.put, pa, pb, pc]))
      (refine tkW (i := 2) (v := ?_) (by (simp only [ga, gb, gc]; rfl)) (by kernel_rfl) (by (intro _ _ _ h; exact h)) (by rfl) ?_ (by assumption) ?_; rotate_left; (focus ((intro w hSw; (try dsimp only at hSw); go_simp) <;> with_reducible rfl)); (try simp only [Act.put, pa, pb, pc]))
      (refine tkW (i := 4) (v := ?_) (by (simp only [ga, gb, gc]; rfl)) (by kernel_rfl) (by (intro _ _ _ h; exact h)) (by rfl) ?_ (by assumption) ?_; rotate_left; (focus ((intro w hSw; (try dsimp only at hSw); go_simp) <;> with_reducible rfl)); (try simp only [Act.put, pa, pb, pc]))
      (refine wpAnyH_ready (rs := [3]) (by kernel_rfl) (by simp) ?_; refine AllReadyH.cons (by (simp only [ga, gb, gc]; rfl)) (fun K hK => ?_) AllReadyH.nil; go_simp; (go_at_call 73; refine (chainOf_c w.heap.size s z chs l[k].k _ hSd hC.asc (by have := hC.length; rw [List.length_take] at this; omega)).mono ?_; rintro e w1 ⟨L, c, R, rfl, hck, hS1, hA1, hch1, hor⟩; have hX1 := hX.chg hch1 (by omega)); go_wp2_with fail; refine hK.out _ _ ?_ (fun hHeld => ?_); (focus ((try dsimp only); (exact ⟨by rw [hX1.cell]; rfl, by rw [hX1.cell]; rfl, by rw [hX1.cell]; rfl, by rw [hX1.cell]; rfl⟩))); clear hK K; (try simp only [Act.put, pa, pb, pc]))
      (refine wpAnyH_ready (rs := [5]) (by kernel_rfl) (by simp) ?_; refine AllReadyH.cons (by (simp only [ga, gb, gc]; rfl)) (fun K hK => ?_) AllReadyH.nil; go_simp; (go_at_call 109; refine (add_c c l[k] _ (hS1.cok c (by simp))).mono ?_; rintro e w2 ⟨⟨v, rfl⟩, g, hg, hCh, hch2⟩; have hX2 := hX1.chg hch2 (fun hb => (hS1.cok c (by simp)).ne_of hX1 (by decide) (by decide) _ hb rfl)); go_wp2_with fail; refine hK.out _ _ ?_ (fun hHeld => ?_); (focus ((try dsimp only); (exact ⟨by rw [hX2.cell]; rfl, by rw [hX2.cell]; rfl, by rw [hX2.cell]; rfl, by rw [hX2.cell]; rfl⟩))); clear hK K; (try simp only [Act.put, pa, pb, pc]))
      refine wpAnyH_done (by kernel_rfl) ?_ _
      have hlen := List.length_take (l := l) (i := k)
      have hS2 := hS1.upd hCh rfl hch2 (fun q hq => by
        rcases hq with rfl | hq
        · exact .inl (.inl rfl)
        · simp only [List.map_append, List.mem_append, List.map_cons, List.map_nil, List.mem_singleton] at hq
          rcases hq with hq | rfl
          · exact .inl (.inr hq)
          · exact .inr hg)
      have hfar := hS1.los c (by simp)
      have hbA : Below w.heap.size wr w1 := (hbX.mono hb.size).trans (hch1.toBelow (by have := hbX.size; have := hb.size; omega) (fun q hq => by omega))
      have hbF := (hb.trans hbA).trans (hch2.toBelow (by have := hbA.size; have := hb.size; omega) hfar)
      go_wp2
      go_roundw
      case rel => exact ⟨k + 1, by omega, by go_num, _, hS2, cons_step HK.out hkl HC.out hck hA1 hor, hbF⟩
      case measure => simp [intOf]; omega
    · have hkI : decide ((k : Int) < (l.length : Int)) = false := decide_eq_false (by omega)
      have HN := Lib.hid (show k = l.length from by omega)
      go_wp2
      go_ret
      refine ⟨s, chs, rfl, hS, ?_, hb⟩
      have := hC
      rwa [HN.out, List.take_length] at this

end Go.Proofs.Ytbhdgalkedegjaa
