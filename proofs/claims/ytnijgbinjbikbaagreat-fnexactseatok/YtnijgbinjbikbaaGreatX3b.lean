/- The program's cursor over its writes, and what a write shows. -/
import Derived.Test.YtnijgbinjbikbaaGreatX3a
namespace Go.Proofs.YtnijgbinjbikbaaGreat
open Go.RowKit Go.Maps
set_option linter.unusedVariables false
set_option maxRecDepth 100000
attribute [local go_sem] Oper.semAt_some

theorem rd_same {W W' : World} {A : Option Addr} {ys : List X} (h : RdG W W.heap.size A ys) (hs : W.heap.size ≤ W'.heap.size) (hk : ∀ b o, A = some ⟨b, o, none⟩ → ys ≠ [] → W'.heap[b]? = W.heap[b]?) : RdG W' W'.heap.size A ys := fun i r hi => by
 obtain ⟨b, o, e, hb, hc⟩ := h i r hi
 refine ⟨b, o, e, Nat.lt_of_lt_of_le hb hs, fun j u hj => ?_⟩
 rw [← hc j u hj]
 simp only [World.cell?, hk b o e (fun e => by subst e; simp at hi)]
/-- the writes that are left: a box that holds a slice of them, in blocks of a set -/
structure Rest (W : World) (T : Nat → Prop) (rb : Nat) (ys : List X) : Prop where
 box : ∃ A c, Blk W rb 23 #[.slice A ys.length c] ∧ ys.length ≤ c ∧ RdG W W.heap.size A ys ∧ ∀ b o, A = some ⟨b, o, none⟩ → ys ≠ [] → T b
 mem : T rb
theorem Rest.kp {W W' : World} {T : Nat → Prop} {rb : Nat} {ys : List X} (h : Rest W T rb ys) (hk : KpT T W W') : Rest W' T rb ys := by
 obtain ⟨A, c, h1, h2, h3, h4⟩ := h.box
 exact ⟨⟨A, c, h1.kp hk h.mem, h2, rd_same h3 hk.1 (fun b o e hn => hk.2 b (h4 b o e hn)), h4⟩, h.mem⟩
theorem cells_of {W : World} {b o : Nat} {u : Value} (h : W.cell? ⟨b, o, none⟩ = some u) : ∃ ob, W.heap[b]? = some ob ∧ ob.isCells = true := by
 unfold World.cell? at h
 split at h
 ·
  rename_i h1; exact ⟨_, h1, rfl⟩
 ·
  cases h
theorem Rest.keep {W W' : World} {T : Nat → Prop} {rb : Nat} {ys : List X} (h : Rest W T rb ys) (hs : W.heap.size ≤ W'.heap.size) (hk : ∀ k o, T k → W.heap[k]? = some o → o.isCells = true → W'.heap[k]? = W.heap[k]?) : Rest W' T rb ys := by
 obtain ⟨A, c, h1, h2, h3, h4⟩ := h.box
 refine ⟨⟨A, c, (hk rb _ h.mem h1 rfl).trans h1, h2, rd_same h3 hs (fun b o e hn => ?_), h4⟩, h.mem⟩
 obtain ⟨r, hr⟩ : ∃ r, ys[0]? = some r := by cases ys with | nil => exact absurd rfl hn | cons r ys => exact ⟨r, rfl⟩
 obtain ⟨b', o', e', _, hc⟩ := h3 0 r hr
 rw [e] at e'; injection e' with e'; injection e' with e1 e2; subst e1 e2
 obtain ⟨ob, h5, h6⟩ := cells_of (hc 0 (.string r.k) rfl)
 exact hk b ob (h4 b o e hn) h5 h6
theorem Rest.mono {W : World} {T T' : Nat → Prop} {rb : Nat} {ys : List X} (h : Rest W T rb ys) (hT : ∀ k, T k → T' k) : Rest W T' rb ys := by
 obtain ⟨A, c, h1, h2, h3, h4⟩ := h.box
 exact ⟨⟨A, c, h1, h2, h3, fun b o e hn => hT _ (h4 b o e hn)⟩, hT _ h.mem⟩

def RetCur (w : World) (xs : List X) (e : Ending) (w' : World) : Prop := ∃ rb, e = .returned (.func (.func 120) #[] #[.pointer (some ⟨rb, 0, none⟩)]) ∧ Rest w' (fun k => w.heap.size ≤ k ∧ k < w'.heap.size) rb xs ∧ Below w.heap.size w w'
set_option maxHeartbeats 1000000 in
theorem cursor_c (b n : Nat) (xs : List X) (w : World) (ha : AscW xs) (hfx : FitXs xs) (hl : xs.length ≤ 1048576) (h : Buf w b n xs) :
  Calls Tryz.prog 112 #[.map (some b)] w (RetCur w xs) := by
 go_enter Tryz.func112, Tryz.ntmps112
 go_wp2_with (go_at_call 119; refine (list_c b n xs _ ha hfx hl h).mono ?_; rintro e w1 ⟨v, rfl, hO, hb1⟩; obtain ⟨A, c, rfl, hc1, hc2, hr⟩ := hO.read)
 go_ret
 have hba : Below w1.heap.size w1 (w1.alloc (.cells #[.slice A xs.length c] 23)) := below_alloc (Below.refl _ _) _
 refine ⟨w1.heap.size, rfl, ⟨⟨A, c, blkA _ _ _, hc1, hr.next hba, fun b' o' e hne => ?_⟩, ⟨hb1.size, by simp⟩⟩, below_next hb1 hba⟩
 subst e
 have := hO.block_lt (g := b') rfl
 exact ⟨this.1, by simp; omega⟩

def zeroX : X := ⟨ByteArray.empty, 0, false⟩
/-- what the cursor gives -/
def curT : List X → Value
 | [] => .tuple #[.agg #[.string ByteArray.empty, .int .i64 0, .bool false], .bool false]
 | x :: _ => .tuple #[.agg #[.string x.k, .int .i64 x.n, .bool x.g], .bool true]
def RetNext (w : World) (T : Nat → Prop) (rb : Nat) (ys : List X) (e : Ending) (w' : World) : Prop := e = .returned (curT ys) ∧ Rest w' T rb ys.tail ∧ Chg (fun k => k = rb) w w'
set_option maxHeartbeats 1000000 in
theorem next_c (T : Nat → Prop) (rb : Nat) (ys : List X) (w : World) (hl : ys.length ≤ 4194304) (h : Rest w T rb ys) :
  Calls Tryz.prog 120 #[.pointer (some ⟨rb, 0, none⟩)] w (RetNext w T rb ys) := by
 obtain ⟨⟨A, c, h1, h2, h3, h4⟩, h5⟩ := h
 have c0 : w.cell? ⟨rb, 0, none⟩ = some (.slice A ys.length c) := by rw [h1.cell]; rfl
 have f0 : w.frozen? ⟨rb, 0, none⟩ = false := h1.free 0
 have hlt := h1.lt
 cases ys with
 | nil =>
  go_enter Tryz.func120, Tryz.ntmps120
  go_wp2
  have hbe : Below w.heap.size w (w.alloc (.cells #[.string ⟨#[]⟩, .int .i64 0, .bool false] 98)) := below_alloc (Below.refl _ _) _
  refine bodyPost_ret (v := curT []) (by simp [results, Tryz.results120, go_sem, curT] <;> rfl) rfl ⟨rfl, ⟨⟨A, c, h1.next hbe, h2, RdG.nil, fun b o e hn => absurd rfl hn⟩, h5⟩, Chg.of_below hbe⟩
 | cons x ys =>
  obtain ⟨b, o, rfl, hbB, d0, d1, d2⟩ := h3.atX (i := 0) (by simp)
  simp only [Nat.zero_mul, Nat.add_zero, List.getElem_cons_zero] at d0 d1 d2
  have hT := h4 b o rfl (by simp)
  have hr' : RdG w w.heap.size (cutG X (some ⟨b, o, none⟩) c 1) ys := by have := h3.drop 1 c h2; simpa using this
  have hcb : ∀ b' o', cutG X (some ⟨b, o, none⟩) c 1 = some ⟨b', o', none⟩ → b' = b := fun b' o' e => by
   unfold cutG at e
   split at e
   ·
    injection e with e; injection e with e; exact e.symm
   ·
    simp only [Option.map_some, Option.some.injEq] at e
    unfold Addr.add at e
    split at e <;> (injection e with e; exact e.symm)
  obtain ⟨n, hn⟩ : ∃ n, (x :: ys).length = n := ⟨_, rfl⟩
  have hn' : ys.length = n - 1 := by simp at hn; omega
  have hn1 : 1 ≤ n := by simp at hn; omega
  rw [hn] at h1 h2 c0 hl
  have hcut : ∀ W, (Instr.slice 23 (.slice (some ⟨b, o, none⟩) n c) (some (.int .i64 1)) none none).run Tryz.prog W = .ok (.slice (cutG X (some ⟨b, o, none⟩) c 1) (n - 1) (c - 1)) W := fun W => runCutG (α := X) 23 Tryz.underlying23 (some ⟨b, o, none⟩) n c 1 hn1 h2 W
  have hz : ((n : Int) == 0) = false := beq_eq_false_iff_ne.2 (by omega)
  have hi0 : (0 : Int) < (n : Int) := by omega
  have HN := Lib.hid hn'
  clear hn hn' h3 h4
  go_enter Tryz.func120, Tryz.ntmps120
  go_wp2
  have hne : b ≠ rb := by
   rintro rfl
   rw [h1.cell] at d0
   cases o <;> simp at d0
  refine bodyPost_ret (v := curT (x :: ys)) (by simp [results, Tryz.results120, go_sem, curT] <;> rfl) rfl ⟨rfl, ⟨⟨cutG X (some ⟨b, o, none⟩) c 1, c - 1, ?_, ?_, ?_, ?_⟩, h5⟩, ?_⟩
  ·
   show Blk _ _ _ #[.slice _ ys.length _]
   rw [HN.out]
   exact (((h1.set_ 0 _).cast rfl).alloc _).alloc _
  ·
   have := HN.out; show ys.length ≤ _; omega
  ·
   refine rd_same hr' (by simp [World.setCell] <;> omega) (fun b' o' e _ => ?_)
   rw [hcb b' o' e]
   rw [Below.heap_alloc _ _ b (by simp [World.setCell] <;> omega), Below.heap_alloc _ _ b (by simp [World.setCell] <;> omega)]
   exact Below.heap_setCell w ⟨rb, 0, none⟩ _ b hne
  ·
   exact fun b' o' e _ => by rw [hcb b' o' e]; exact hT
  ·
   exact ((Chg.setCell (Chg.refl (fun k => k = rb) w) (a := ⟨rb, 0, none⟩) (.inl rfl) _).alloc _).alloc _

def RetNxt (w : World) (T : Nat → Prop) (rb : Nat) (ys : List X) (e : Ending) (w' : World) : Prop := ∃ (h : X) (mo : Bool), e = .returned (.tuple #[.agg #[.string h.k, .int .i64 h.n, .bool h.g], .bool mo]) ∧ Hid (mo = !ys.isEmpty) ∧ Hid (ys ≠ [] → ys.head? = some h) ∧ Rest w' T rb ys.tail ∧ Chg (fun k => k = rb) w w'
theorem next_h (T : Nat → Prop) (rb : Nat) (ys : List X) (w : World) (hl : ys.length ≤ 4194304) (h : Rest w T rb ys) :
  Calls Tryz.prog 120 #[.pointer (some ⟨rb, 0, none⟩)] w (RetNxt w T rb ys) := by
 refine (next_c T rb ys w hl h).mono ?_
 rintro e w' ⟨rfl, h1, h2⟩
 cases ys with
 | nil => exact ⟨zeroX, false, rfl, Lib.hid rfl, Lib.hid (fun h => absurd rfl h), h1, h2⟩
 | cons x ys => exact ⟨x, true, rfl, Lib.hid rfl, Lib.hid (fun _ => rfl), h1, h2⟩

/-- what a write shows -/
def RetShow (w : World) (x : X) (R : Bool → World → Prop) (e : Ending) (w' : World) : Prop := ∃ t, e = .returned (.bool t) ∧ ((x.g = true ∧ t = true ∧ w' = w.alloc (.cells #[.string x.k, .int .i64 x.n, .bool x.g] 98)) ∨ (x.g = false ∧ R t w'))
set_option maxHeartbeats 1000000 in
theorem show_c (n l0 : Nat) (x : X) (w : World) (R : Bool → World → Prop)
  (hY : x.g = false → YieldAt Fence.wide (n - 1) Tryz.prog l0 #[encR (x.k, x.n)] (w.alloc (.cells #[.string x.k, .int .i64 x.n, .bool x.g] 98)) fun e W' => ∃ t, e = .returned (.bool t) ∧ R t W') :
  Calls Tryz.prog 113 #[.agg #[.string x.k, .int .i64 x.n, .bool x.g], .func (.yield l0) #[] #[]] w (RetShow w x R) := by
 cases hg : x.g
 ·
  obtain ⟨fn, tmps, assign, body, hy, hR⟩ := hY hg
  rw [hg] at hy hR
  dsimp only [encR] at hy
  go_enter Tryz.func113, Tryz.ntmps113
  refine (wpIn_wide (n := n)).1 ?_
  gi_wp2_with (first
   | (refine ⟨(fun h => by cases h), hR.mono ?_⟩; rintro e w5 ⟨tt, rfl, hT⟩))
  go_ret
  exact ⟨tt, rfl, .inr ⟨hg, hT⟩⟩
 ·
  go_enter Tryz.func113, Tryz.ntmps113
  go_wp2
  go_ret
  exact ⟨true, rfl, .inl ⟨hg, rfl, by rw [hg]⟩⟩

end Go.Proofs.YtnijgbinjbikbaaGreat
