/- Chapter 2, plain mathematics: what one write does to a list of versions, and to chains.
The program's storage: write.
Copies of a history: of the program, of the model.
The program's commit and VersDo.
The program's VersDo. -/
import Derived.Test.YtbeklnhngjmpiaaGreatB4
import Derived.Test.YtbeklnhngjmpiaaGreatS2w
namespace Go.Proofs.YtbeklnhngjmpiaaGreat
open Go.RowKit
set_option linter.unusedVariables false

/-- what stands under the key ends now -/
def endF (key : ByteArray) (now : Int) (v : V) : V := if v.k.toList == key.toList then endV now v else v
/-- how many versions stand ahead of the place of a key -/
def placeL (l : List V) (key : ByteArray) : Nat := l.foldl (fun (p : Nat × Nat) v => (p.1 + 1, if lt key v.k then p.2 else p.1 + 1)) (0, 0) |>.2
def writeL (l : List V) (x : X) (now : Int) : List V :=
 if x.g then l.map (endF x.k now) else (l.map (endF x.k now)).take (placeL l x.k) ++ [⟨x.k, x.n, now, 0⟩] ++ (l.map (endF x.k now)).drop (placeL l x.k)
def doAll (l : List V) (ws : List X) (now : Int) : List V := ws.foldl (fun l x => writeL l x now) l

theorem place_fst (key : ByteArray) : (l : List V) → (n p : Nat) → (l.foldl (fun (p : Nat × Nat) v => (p.1 + 1, if lt key v.k then p.2 else p.1 + 1)) (n, p)).1 = n + l.length
 | [], n, p => rfl
 | v :: l, n, p => by rw [List.foldl_cons, place_fst key l]; simp; omega
theorem place_snoc (l : List V) (v : V) (key : ByteArray) : placeL (l ++ [v]) key = if lt key v.k then placeL l key else l.length + 1 := by
 unfold placeL
 rw [List.foldl_append]
 simp only [List.foldl_cons, List.foldl_nil]
 rw [place_fst key l 0 0, Nat.zero_add]
theorem placeL_le (l : List V) (key : ByteArray) : placeL l key ≤ l.length := by
 rcases nil_or_snoc l with rfl | ⟨i, y, rfl⟩
 ·
  simp [placeL]
 ·
  rw [place_snoc]
  have := placeL_le i key
  split <;> simp <;> omega
termination_by l.length
decreasing_by simp_all
theorem place_high (l r : List V) (key : ByteArray) (h : ∀ v ∈ r, lt key v.k = true) : placeL (l ++ r) key = placeL l key := by
 rcases nil_or_snoc r with rfl | ⟨i, y, rfl⟩
 ·
  simp
 ·
  rw [← List.append_assoc, place_snoc, if_pos (h y (by simp)), place_high l i key fun v hv => h v (by simp [hv])]
termination_by r.length
decreasing_by simp_all
theorem place_low (l : List V) (key : ByteArray) (h : ∀ v ∈ l, lt key v.k = false) : placeL l key = l.length := by
 rcases nil_or_snoc l with rfl | ⟨i, y, rfl⟩
 ·
  rfl
 ·
  rw [place_snoc, if_neg (by rw [h y (by simp)]; simp)]; simp

/-- of the versions of one key the last alone may still stand -/
def Open (vs : List V) : Prop := vs.Pairwise fun a b => a.t ≠ 0
/-- the chains hold these versions; some may be empty -/
structure ConsE (chs : List Ch) (l : List V) : Prop where
 flat : chs.flatMap Ch.vs = l
 each : ∀ c ∈ chs, (∀ x ∈ c.vs, x.k = c.k) ∧ Open c.vs
 asc : Asc chs
theorem Cons.toE {chs : List Ch} {l : List V} (h : Cons chs l) (ho : Ord2 l) : ConsE chs l :=
 ⟨h.flat, fun c hc => ⟨(h.each c hc).2, List.Pairwise.imp (fun hab => by omega) (h.chain ho hc)⟩, h.asc⟩

theorem endF_other {key : ByteArray} {now : Int} {vs : List V} (h : ∀ x ∈ vs, x.k ≠ key) : vs.map (endF key now) = vs := by
 rw [List.map_congr_left (g := id)]
 ·
  simp
 ·
  intro x hx
  unfold endF
  rw [str_ne (h x hx)]; rfl
theorem endF_chain {key : ByteArray} {now : Int} {ls : List Lk} (hk : ∀ x ∈ ls.map Lk.v, x.k = key) (ho : Open (ls.map Lk.v)) : (ls.map Lk.v).map (endF key now) = (endLk now ls).map Lk.v := by
 rcases nil_or_snoc ls with rfl | ⟨init, y, rfl⟩
 ·
  rfl
 ·
  rw [endLk_snoc, List.map_append, List.map_append, List.map_append]
  congr 1
  ·
   rw [List.map_congr_left (g := id)]
   ·
    simp
   ·
    intro x hx
    unfold Open at ho
    rw [List.map_append, List.pairwise_append] at ho
    have h1 := ho.2.2 x hx y.v (by simp)
    unfold endF endV
    rw [if_neg h1]
    split <;> rfl
  ·
   simp only [List.map_cons, List.map_nil]
   unfold endF
   rw [hk y.v (by simp)]
   simp

/-- the chain of a key, behind a write -/
def chWrite (c : Ch) (x : X) (now : Int) (g : Nat) : Ch := ⟨c.g, c.k, if x.g then endLk now c.ls else endLk now c.ls ++ [⟨g, ⟨x.k, x.n, now, 0⟩⟩]⟩
theorem endLk_open {now : Int} (hn : now ≠ 0) {ls : List Lk} (ho : Open (ls.map Lk.v)) : ∀ x ∈ (endLk now ls).map Lk.v, x.t ≠ 0 := by
 rcases nil_or_snoc ls with rfl | ⟨init, y, rfl⟩
 ·
  intro x hx; simp [endLk] at hx
 ·
  intro x hx
  rw [endLk_snoc, List.map_append, List.mem_append] at hx
  rcases hx with hx | hx
  ·
   unfold Open at ho
   rw [List.map_append, List.pairwise_append] at ho
   exact ho.2.2 x hx y.v (by simp)
  ·
   simp only [List.map_cons, List.map_nil, List.mem_singleton] at hx
   subst hx
   unfold endV
   split
   ·
    exact hn
   ·
    assumption
theorem endLk_keys {now : Int} {ls : List Lk} {key : ByteArray} (hk : ∀ x ∈ ls.map Lk.v, x.k = key) : ∀ x ∈ (endLk now ls).map Lk.v, x.k = key := by
 rcases nil_or_snoc ls with rfl | ⟨init, y, rfl⟩
 ·
  intro x hx; simp [endLk] at hx
 ·
  intro x hx
  rw [endLk_snoc, List.map_append, List.mem_append] at hx
  rcases hx with hx | hx
  ·
   exact hk x (by simp only [List.map_append, List.mem_append]; exact .inl hx)
  ·
   simp only [List.map_cons, List.map_nil, List.mem_singleton] at hx
   subst hx
   have := hk y.v (by simp)
   unfold endV
   split <;> exact this

theorem write_flat {chs L R : List Ch} {c : Ch} {l : List V} {x : X} {now : Int} {g : Nat} (hn : now ≠ 0) (hC : ConsE chs l) (hck : c.k = x.k) (hA : Asc (L ++ c :: R)) (hor : chs = L ++ c :: R ∨ (chs = L ++ R ∧ c.ls = [])) :
  ConsE (L ++ chWrite c x now g :: R) (writeL l x now) := by
 have hA' := hA
 unfold Asc at hA'
 rw [List.pairwise_append, List.pairwise_cons] at hA'
 have hLm : ∀ d ∈ L, d ∈ chs := fun d hd => by rcases hor with rfl | ⟨rfl, _⟩ <;> simp [hd]
 have hRm : ∀ d ∈ R, d ∈ chs := fun d hd => by rcases hor with rfl | ⟨rfl, _⟩ <;> simp [hd]
 have hLk : ∀ v ∈ L.flatMap Ch.vs, lt v.k x.k = true := fun v hv => by
  obtain ⟨d, hd, hv⟩ := List.mem_flatMap.1 hv
  rw [(hC.each d (hLm d hd)).1 v hv, ← hck]
  exact hA'.2.2 d hd c (by simp)
 have hRk : ∀ v ∈ R.flatMap Ch.vs, lt x.k v.k = true := fun v hv => by
  obtain ⟨d, hd, hv⟩ := List.mem_flatMap.1 hv
  rw [(hC.each d (hRm d hd)).1 v hv, ← hck]
  exact hA'.2.1.1 d hd
 have hce : (∀ y ∈ c.vs, y.k = c.k) ∧ Open c.vs := by
  rcases hor with rfl | ⟨rfl, he⟩
  ·
   exact hC.each c (by simp)
  ·
   unfold Ch.vs; rw [he]; exact ⟨fun y hy => by simp at hy, List.Pairwise.nil⟩
 have hl : l = L.flatMap Ch.vs ++ (c.vs ++ R.flatMap Ch.vs) := by
  rw [← hC.flat]
  rcases hor with rfl | ⟨rfl, he⟩
  ·
   simp
  ·
   simp [Ch.vs, he]
 have hne : ∀ {a b : ByteArray}, lt a b = true → a ≠ b := fun h e => by rw [e, lt_irrefl] at h; cases h
 have hmap : l.map (endF x.k now) = L.flatMap Ch.vs ++ ((endLk now c.ls).map Lk.v ++ R.flatMap Ch.vs) := by
  rw [hl, List.map_append, List.map_append, endF_other fun v hv => hne (hLk v hv), endF_other fun v hv => (hne (hRk v hv)).symm]
  congr 2
  exact endF_chain (fun y hy => by rw [← hck]; exact hce.1 y hy) hce.2
 have hlen : ((endLk now c.ls).map Lk.v).length = c.vs.length := by
  have := congrArg List.length hmap
  rw [List.length_map, hl] at this
  simp only [List.length_append] at this
  omega
 have hplace : placeL l x.k = (L.flatMap Ch.vs).length + c.vs.length := by
  rw [hl, ← List.append_assoc, place_high _ _ _ hRk, place_low, List.length_append]
  intro v hv
  rcases List.mem_append.1 hv with hv | hv
  ·
   exact lt_asymm (hLk v hv)
  ·
   rw [hce.1 v hv, hck, lt_irrefl]
 refine ⟨?_, ?_, ?_⟩
 ·
  unfold writeL
  rw [hmap, hplace]
  cases hg : x.g
  ·
   have e1 : (L.flatMap Ch.vs ++ ((endLk now c.ls).map Lk.v ++ R.flatMap Ch.vs)).take ((L.flatMap Ch.vs).length + c.vs.length) = L.flatMap Ch.vs ++ (endLk now c.ls).map Lk.v := by
    rw [← List.append_assoc, ← hlen, ← List.length_append, List.take_left]
   have e2 : (L.flatMap Ch.vs ++ ((endLk now c.ls).map Lk.v ++ R.flatMap Ch.vs)).drop ((L.flatMap Ch.vs).length + c.vs.length) = R.flatMap Ch.vs := by
    rw [← List.append_assoc, ← hlen, ← List.length_append, List.drop_left]
   rw [if_neg (by simp), e1, e2]
   simp [chWrite, Ch.vs, hg]
  ·
   rw [if_pos rfl]
   simp [chWrite, Ch.vs, hg]
 ·
  intro d hd
  rcases List.mem_append.1 hd with hd | hd
  ·
   exact hC.each d (hLm d hd)
  ·
   rcases List.mem_cons.1 hd with rfl | hd
   ·
    have hk1 := endLk_keys (now := now) (key := c.k) hce.1
    have ho1 := endLk_open hn hce.2
    unfold chWrite Ch.vs
    cases hg : x.g
    ·
     refine ⟨fun y hy => ?_, ?_⟩
     ·
      simp only [Bool.false_eq_true, if_false, List.map_append, List.mem_append, List.map_cons, List.map_nil, List.mem_singleton] at hy
      rcases hy with hy | rfl
      ·
       exact hk1 y hy
      ·
       exact hck.symm
     ·
      unfold Open
      simp only [Bool.false_eq_true, if_false, List.map_append]
      rw [List.pairwise_append]
      exact ⟨List.Pairwise.imp_of_mem (fun ha _ _ => ho1 _ ha) (List.pairwise_of_forall (l := (endLk now c.ls).map Lk.v) (R := fun _ _ => True) fun _ _ => trivial), by simp, fun a ha b _ => ho1 a ha⟩
    ·
     refine ⟨fun y hy => hk1 y (by simpa [hg] using hy), ?_⟩
     unfold Open
     simp only [if_true]
     exact List.Pairwise.imp_of_mem (fun ha _ _ => ho1 _ ha) (List.pairwise_of_forall (l := (endLk now c.ls).map Lk.v) (R := fun _ _ => True) fun _ _ => trivial)
   ·
    exact hC.each d (hRm d hd)
 ·
  unfold Asc
  rw [List.pairwise_append, List.pairwise_cons]
  exact ⟨hA'.1, ⟨hA'.2.1.1, hA'.2.1.2⟩, fun a ha b hb => by
   rcases List.mem_cons.1 hb with rfl | hb
   ·
    exact hA'.2.2 a ha c (by simp)
   ·
    exact hA'.2.2 a ha b (by simp [hb])⟩

end Go.Proofs.YtbeklnhngjmpiaaGreat

namespace Go.Proofs.YtbeklnhngjmpiaaGreat
open Go.RowKit
set_option linter.unusedVariables false
set_option maxRecDepth 100000

theorem endLk_g (t : Int) (ls : List Lk) : (endLk t ls).map Lk.g = ls.map Lk.g := by
 rcases nil_or_snoc ls with rfl | ⟨init, y, rfl⟩
 ·
  rfl
 ·
  rw [endLk_snoc]; simp

def RetWrite (w : World) (base s : Nat) (z : Int) (n : Nat) (l : List V) (x : X) (e : Ending) (w' : World) : Prop :=
 (∃ v, e = .returned v) ∧ ∃ chs', Sto w' base s z chs' ∧ ConsE chs' (writeL l x z) ∧ chs'.length ≤ n + 1 ∧ Chg (fun b => base ≤ b) w w'

set_option maxHeartbeats 2000000 in
theorem write_c (base s : Nat) (z : Int) (chs : List Ch) (l : List V) (x : X) (w : World) (h : Sto w base s z chs) (hC : ConsE chs l) (hz : z ≠ 0) (hl : chs.length ≤ 1048576) :
  Calls Tryz.prog 136 #[.pointer (some ⟨s, 0, none⟩), .agg #[.string x.k, .int .i64 x.n, .bool x.g]] w (RetWrite w base s z chs.length l x) := by
 have hb0 : Below w.heap.size w (w.alloc (.cells #[.string x.k, .int .i64 x.n, .bool x.g] 52)) := below_alloc (Below.refl _ _) _
 have hX0 := blkA w #[.string x.k, .int .i64 x.n, .bool x.g] 52
 have hslt := h.lt
 have hlo := h.lo
 go_enter Tryz.func136, Tryz.ntmps136
 go_wp2_with fail
 refine (chainOf_c base s z chs x.k _ (h.next hb0) hC.asc hl).mono ?_
 rintro e w2 ⟨L, c, R, rfl, hck, hS2, hA2, hch2, hor⟩
 have hX2 := hX0.chg hch2 (show w.heap.size ≠ s from by omega)
 have HC := Lib.hid (fun g => write_flat (g := g) hz hC hck hA2 hor)
 have HLEN := Lib.hid (show (L ++ c :: R).length ≤ chs.length + 1 from by rcases hor with rfl | ⟨rfl, _⟩ <;> simp <;> omega)
 have hw2 : Chg (fun b => base ≤ b) w w2 := (Chg.of_below hb0).trans hch2 (fun b _ hb => by have : b = s := hb; omega)
 have hcm : c ∈ L ++ c :: R := List.mem_append_right _ List.mem_cons_self
 have hCh2 := hS2.cok c hcm
 obtain ⟨v2, hB2, hO2⟩ := hS2.blk
 have s0 : w2.cell? ⟨s, 0, none⟩ = some (.int .i64 z) := by rw [hB2.cell]; rfl
 have HS2 := Lib.hid hS2
 have HCh2 := Lib.hid hCh2
 clear hA2 hor hS2
 go_wp2_with fail
 refine (end_c c z w2 hCh2).mono ?_
 rintro e w3 ⟨⟨v3, rfl⟩, hCh3, hch3⟩
 have hX3 := hX2.chg hch3 (fun hb => hCh2.ne_of hX2 (by decide) (by decide) _ hb rfl)
 have hB3 := hB2.chg hch3 (fun hb => hCh2.ne_of hB2 typesSC typesSL _ hb rfl)
 have hS3 := HS2.out.upd hCh3 rfl hch3 (fun b hb => .inl (by
  rcases hb with rfl | hb
  ·
   exact .inl rfl
  ·
   right; rwa [endLk_g] at hb))
 have hw3 : Chg (fun b => base ≤ b) w w3 := hw2.trans hch3 (fun b _ hb => HS2.out.los c hcm b hb)
 have b0 : w3.cell? ⟨w.heap.size, 0, none⟩ = some (.string x.k) := by rw [hX3.cell]; rfl
 have b1 : w3.cell? ⟨w.heap.size, 1, none⟩ = some (.int .i64 x.n) := by rw [hX3.cell]; rfl
 have b2 : w3.cell? ⟨w.heap.size, 2, none⟩ = some (.bool x.g) := by rw [hX3.cell]; rfl
 have s0 : w3.cell? ⟨s, 0, none⟩ = some (.int .i64 z) := by rw [hB3.cell]; rfl
 have HS3 := Lib.hid hS3
 clear hS3 hX2 hB2 hO2
 cases hg : x.g
 ·
  have hbD : Below w3.heap.size w3 w3.drew := (Below.refl _ _).drew
  have hCh3d := hCh3.next hbD
  have hX3d := hX3.next hbD
  have hB3d := hB3.next hbD
  have hS3d := HS3.out.next hbD
  go_wp2
  refine wp_region_held_drew (S := (fun W => W.cell? ⟨w.heap.size, 0, none⟩ = some (.string x.k) ∧ W.cell? ⟨w.heap.size, 1, none⟩ = some (.int .i64 x.n) ∧ W.cell? ⟨s, 0, none⟩ = some (.int .i64 z))) (by kernel_rfl) ?_ (fun hHeld => ?_)
  focus ((try dsimp only); (exact ⟨b0, b1, s0⟩))
  refine tk 0 ?_
  refine tk 1 ?_
  refine tk 2 ?_
  refine tk 3 ?_
  refine tk 4 ?_
  refine tk 5 ?_
  refine tk 6 ?_
  refine tk 7 ?_
  refine tk 8 ?_
  refine tk 9 ?_
  (refine rd1 10 (fun K hK => ?_); go_simp; (go_at_call 113; refine (add_c ⟨c.g, c.k, endLk z c.ls⟩ ⟨x.k, x.n, z, 0⟩ _ hCh3d).mono ?_; rintro e w4 ⟨⟨v4, rfl⟩, g, hg1, hCh4, hch4⟩; have hX4 := hX3d.chg hch4 (fun hb => hCh3d.ne_of hX3d (by decide) (by decide) _ hb rfl); have hB4 := hB3d.chg hch4 (fun hb => hCh3d.ne_of hB3d typesSC typesSL _ hb rfl)); go_wp2_with fail; refine hK.out _ _ ?_ (fun hHeld => ?_); (focus ((try dsimp only); (exact ⟨by rw [hX4.cell]; rfl, by rw [hX4.cell]; rfl, by rw [hB4.cell]; rfl⟩))); clear hK K; (try simp only [Act.put, pa, pb, pc]))
  refine wpAnyH_done (by kernel_rfl) ?_ _
  have hS4 := hS3d.upd hCh4 rfl hch4 (fun b hb => by
   rcases hb with rfl | hb
   ·
    exact .inl (.inl rfl)
   ·
    simp only [List.map_append, List.mem_append, List.map_cons, List.map_nil, List.mem_singleton] at hb
    rcases hb with hb | rfl
    ·
     exact .inl (Or.inr hb : (⟨c.g, c.k, endLk z c.ls⟩ : Ch).has b)
    ·
     exact .inr hg1)
  have hw4 : Chg (fun b => base ≤ b) w w4 := (hw3.below hbD).trans hch4 (fun b _ hb => HS3.out.los _ (List.mem_append_right _ List.mem_cons_self) b hb)
  go_wp2
  go_end0
  refine ⟨⟨_, rfl⟩, _, hS4, ?_, ?_, hw4⟩
  ·
   have := HC.out g
   unfold chWrite at this
   simp only [hg] at this
   exact this
  ·
   have := HLEN.out
   simp only [List.length_append, List.length_cons] at this ⊢
   omega
 ·
  go_wp2
  go_end0
  refine ⟨⟨_, rfl⟩, _, HS3.out, ?_, ?_, hw3⟩
  ·
   have := HC.out 0
   unfold chWrite at this
   simp only [hg] at this
   exact this
  ·
   have := HLEN.out
   simp only [List.length_append, List.length_cons] at this ⊢
   omega

end Go.Proofs.YtbeklnhngjmpiaaGreat

namespace Go.Proofs.YtbeklnhngjmpiaaGreat
open Go.RowKit
set_option linter.unusedVariables false
set_option maxRecDepth 100000

set_option maxHeartbeats 2000000 in
theorem copyVers_c (z : Int) (A : Option Addr) (c : Nat) (l : List V) (w : World) (hl : l.length ≤ 2097152) (hr : RdG w w.heap.size A l) :
  Calls Tryz.prog 83 #[.agg #[.int .i64 z, .slice A l.length c]] w (RetV w z l) := by
 have hb0 : Below w.heap.size w ((w.alloc (.cells #[.int .i64 z, .slice A l.length c] 34)).alloc (.cells #[.int .i64 0, .slice none 0 0] 34)) := below_alloc (below_alloc (Below.refl _ _) _) _
 have hB0 := (blkA w #[.int .i64 z, .slice A l.length c] 34).alloc (.cells #[.int .i64 0, .slice none 0 0] 34)
 have hR0 := blkA (w.alloc (.cells #[.int .i64 z, .slice A l.length c] 34)) #[.int .i64 0, .slice none 0 0] 34
 have hsz : ((w.alloc (.cells #[.int .i64 z, .slice A l.length c] 34)).alloc (.cells #[.int .i64 0, .slice none 0 0] 34)).heap.size = w.heap.size + 2 := by simp
 simp only [World.size_alloc] at hR0
 obtain ⟨wn, HW⟩ : ∃ wn, Hid ((w.alloc (.cells #[.int .i64 z, .slice A l.length c] 34)).alloc (.cells #[.int .i64 0, .slice none 0 0] 34) = wn) := ⟨_, Lib.hid rfl⟩
 rw [HW.out] at hb0 hB0 hR0 hsz
 have q0 : wn.cell? ⟨w.heap.size, 0, none⟩ = some (.int .i64 z) := by rw [hB0.cell]; rfl
 have q1 : wn.cell? ⟨w.heap.size, 1, none⟩ = some (.slice A l.length c) := by rw [hB0.cell]; rfl
 have hrn := (hr.next hb0.drew)
 have HSZ := Lib.hid hsz
 have hBx : Blk wn.drew w.heap.size 34 #[.int .i64 z, .slice A l.length c] := hB0
 have hRx : Blk wn.drew (w.heap.size + 1) 34 #[.int .i64 0, .slice none 0 0] := hR0
 have HNB : Hid (some w.heap.size ≠ (Value.slice none 0 0).ownBlock ∧ some (w.heap.size + 1) ≠ (Value.slice none 0 0).ownBlock) := ⟨by simp [Value.ownBlock], by simp [Value.ownBlock]⟩
 have HBL : Hid (∀ w', wn.drew.grownBy w' (Value.slice none 0 0).ownBlock → Below w.heap.size w w') := fun w' hg => (OwnG.nil (α := V) wn.drew w.heap.size).below hb0.drew hg (Nat.le_refl _)
 go_enter Tryz.func83, Tryz.ntmps83
 go_wp2
 rw [HW.out]
 refine wp_region_held_drew (S := (fun W => W.cell? ⟨w.heap.size, 0, none⟩ = some (.int .i64 z) ∧ W.cell? ⟨w.heap.size, 1, none⟩ = some (.slice A l.length c))) (by kernel_rfl) ?_ (fun hHeld => ?_)
 focus ((try dsimp only); (exact ⟨q0, q1⟩))
 refine tk 0 ?_
 refine tk 1 ?_
 refine tk 2 ?_
 refine tk 3 ?_
 refine rd1 4 (fun K hK => ?_)
 refine step_appG (α := V) wn.drew rfl _ _ _ _ 118 rfl Tryz.underlying32 Tryz.underlying32 wn.heap.size (.slice none 0 0) [] rfl (OwnG.nil _ _) A c _ l.length l rfl rfl hrn (by simp; omega) (Nat.le_refl _) ?_
 intro v' w' hown hgr hat
 rw [List.nil_append] at hown
 obtain ⟨bv, nv, cv, rfl⟩ := hown.slice
 have hBw := hBx.grown hgr HNB.out.1
 have hRw := hRx.grown hgr HNB.out.2
 have hbw : Below w.heap.size w w' := HBL.out _ hgr
 have d0 : w'.cell? ⟨w.heap.size + 1, 0, none⟩ = some (.int .i64 0) := (by rw [hRw.cell]; rfl)
 have d1 : w'.cell? ⟨w.heap.size + 1, 1, none⟩ = some (.slice none 0 0) := (by rw [hRw.cell]; rfl)
 have f0 := hRw.free 0
 have f1 := hRw.free 1
 refine hK.out _ _ ?_ (fun hHeld => ?_)
 focus ((try dsimp only); (exact ⟨by rw [hBw.cell]; rfl, by rw [hBw.cell]; rfl⟩))
 clear hK K
 try simp only [Act.put, pa, pb, pc]
 refine tk 5 ?_
 refine rd1 6 (fun K hK => ?_)
 go_simp
 refine hK.out _ _ ?_ (fun hHeld => ?_)
 focus ((try dsimp only); (exact ⟨by rw [((hBw.setOther (a := ⟨w.heap.size + 1, 0, none⟩) (show w.heap.size ≠ w.heap.size + 1 from by omega) _).setOther (a := ⟨w.heap.size + 1, 1, none⟩) (show w.heap.size ≠ w.heap.size + 1 from by omega) _).cell]; rfl, by rw [((hBw.setOther (a := ⟨w.heap.size + 1, 0, none⟩) (show w.heap.size ≠ w.heap.size + 1 from by omega) _).setOther (a := ⟨w.heap.size + 1, 1, none⟩) (show w.heap.size ≠ w.heap.size + 1 from by omega) _).cell]; rfl⟩))
 clear hK K
 try simp only [Act.put, pa, pb, pc]
 refine wpAnyH_done (by kernel_rfl) ?_ _
 go_wp2
 refine bodyPost_ret (v := .agg #[.int .i64 z, .slice bv nv cv]) (by simp [results, Tryz.results83, go_sem, d0, d1]) rfl ⟨.slice bv nv cv, rfl, ?_, ?_⟩
 ·
  have hne : ∀ g, (Value.slice bv nv cv).ownBlock = some g → g ≠ w.heap.size + 1 := fun g hg => by have := (hown.block_lt hg).1; have := HSZ.out; omega
  exact ((hown.setCell (a := ⟨w.heap.size + 1, 0, none⟩) hne _).setCell (a := ⟨w.heap.size + 1, 1, none⟩) hne _).low (by have := HSZ.out; omega)
 ·
  exact (hbw.setCell (by simp <;> omega) _).setCell (by simp <;> omega) _

set_option maxHeartbeats 2000000 in
theorem l2Copy_c (z : Int) (A : Option Addr) (c : Nat) (l : List V) (w : World) (hl : l.length ≤ 2097152) (hr : RdG w w.heap.size A l) :
  Calls Tryz.prog 81 #[.agg #[.int .i64 z, .slice A l.length c]] w (RetV w z l) := by
 have hb0 : Below w.heap.size w ((w.alloc (.cells #[.int .i64 z, .slice A l.length c] 34)).alloc (.cells #[.int .i64 0, .slice none 0 0] 34)) := below_alloc (below_alloc (Below.refl _ _) _) _
 have hB0 := (blkA w #[.int .i64 z, .slice A l.length c] 34).alloc (.cells #[.int .i64 0, .slice none 0 0] 34)
 have hR0 := blkA (w.alloc (.cells #[.int .i64 z, .slice A l.length c] 34)) #[.int .i64 0, .slice none 0 0] 34
 have hsz : ((w.alloc (.cells #[.int .i64 z, .slice A l.length c] 34)).alloc (.cells #[.int .i64 0, .slice none 0 0] 34)).heap.size = w.heap.size + 2 := by simp
 simp only [World.size_alloc] at hR0
 obtain ⟨wn, HW⟩ : ∃ wn, Hid ((w.alloc (.cells #[.int .i64 z, .slice A l.length c] 34)).alloc (.cells #[.int .i64 0, .slice none 0 0] 34) = wn) := ⟨_, Lib.hid rfl⟩
 rw [HW.out] at hb0 hB0 hR0 hsz
 have q0 : wn.cell? ⟨w.heap.size, 0, none⟩ = some (.int .i64 z) := by rw [hB0.cell]; rfl
 have q1 : wn.cell? ⟨w.heap.size, 1, none⟩ = some (.slice A l.length c) := by rw [hB0.cell]; rfl
 have hrn := (hr.next hb0.drew)
 have HSZ := Lib.hid hsz
 have hBx : Blk (wn.alloc (.cells #[] 118)).drew w.heap.size 34 #[.int .i64 z, .slice A l.length c] := hB0.alloc (.cells #[] 118)
 have hRx : Blk (wn.alloc (.cells #[] 118)).drew (w.heap.size + 1) 34 #[.int .i64 0, .slice none 0 0] := hR0.alloc (.cells #[] 118)
 have hOf : OwnG (α := V) (wn.alloc (.cells #[] 118)).drew (w.heap.size + 2) (.slice (some ⟨w.heap.size + 2, 0, none⟩) 0 0) [] := by
  have h := OwnG.fresh (α := V) wn (w.heap.size + 2) (by omega)
  rw [hsz] at h
  exact h
 have HNB : Hid (some w.heap.size ≠ (Value.slice (some ⟨w.heap.size + 2, 0, none⟩) 0 0).ownBlock ∧ some (w.heap.size + 1) ≠ (Value.slice (some ⟨w.heap.size + 2, 0, none⟩) 0 0).ownBlock) := ⟨by simp [Value.ownBlock], by simp [Value.ownBlock]⟩
 have HBL : Hid (∀ w', (wn.alloc (.cells #[] 118)).drew.grownBy w' (Value.slice (some ⟨w.heap.size + 2, 0, none⟩) 0 0).ownBlock → Below w.heap.size w w') := fun w' hg => hOf.below (below_alloc hb0 _).drew hg (by omega)
 have hrx : RdG (wn.alloc (.cells #[] 118)).drew (wn.alloc (.cells #[] 118)).drew.heap.size A l := (hr.next (below_alloc hb0 (.cells #[] 118)).drew)
 have hsx : w.heap.size + 2 ≤ (wn.alloc (.cells #[] 118)).drew.heap.size := by show _ ≤ (wn.alloc (.cells #[] 118)).heap.size; rw [World.size_alloc]; omega
 go_enter Tryz.func81, Tryz.ntmps81
 go_wp2
 rw [HW.out]
 refine wp_region_held_drew (S := (fun W => W.cell? ⟨w.heap.size, 0, none⟩ = some (.int .i64 z) ∧ W.cell? ⟨w.heap.size, 1, none⟩ = some (.slice A l.length c))) (by kernel_rfl) ?_ (fun hHeld => ?_)
 focus ((try dsimp only); (exact ⟨q0, q1⟩))
 refine tk 0 ?_
 refine tk 1 ?_
 refine tk 3 ?_
 refine tk 4 ?_
 refine rd1 2 (fun K hK => ?_)
 go_simp
 refine hK.out _ _ ?_ (fun hHeld => ?_)
 focus ((try dsimp only); (exact ⟨by rw [hBx.cell]; rfl, by rw [hBx.cell]; rfl⟩))
 clear hK K
 try simp only [Act.put, pa, pb, pc]
 refine rd1 5 (fun K hK => ?_)
 refine step_appG (α := V) (wn.alloc (.cells #[] 118)).drew rfl _ _ _ _ 118 rfl Tryz.underlying32 Tryz.underlying32 (w.heap.size + 2) (.slice (some ⟨w.heap.size + 2, 0, none⟩) 0 0) [] rfl hOf A c _ l.length l rfl rfl hrx (by simp; omega) hsx ?_
 intro v' w' hown hgr hat
 rw [List.nil_append] at hown
 obtain ⟨bv, nv, cv, rfl⟩ := hown.slice
 have hBw := hBx.grown hgr HNB.out.1
 have hRw := hRx.grown hgr HNB.out.2
 have hbw : Below w.heap.size w w' := HBL.out _ hgr
 have d0 : w'.cell? ⟨w.heap.size + 1, 0, none⟩ = some (.int .i64 0) := (by rw [hRw.cell]; rfl)
 have d1 : w'.cell? ⟨w.heap.size + 1, 1, none⟩ = some (.slice none 0 0) := (by rw [hRw.cell]; rfl)
 have f0 := hRw.free 0
 have f1 := hRw.free 1
 refine hK.out _ _ ?_ (fun hHeld => ?_)
 focus ((try dsimp only); (exact ⟨by rw [hBw.cell]; rfl, by rw [hBw.cell]; rfl⟩))
 clear hK K
 try simp only [Act.put, pa, pb, pc]
 refine tk 6 ?_
 refine rd1 7 (fun K hK => ?_)
 go_simp
 refine hK.out _ _ ?_ (fun hHeld => ?_)
 focus ((try dsimp only); (exact ⟨by rw [((hBw.setOther (a := ⟨w.heap.size + 1, 0, none⟩) (show w.heap.size ≠ w.heap.size + 1 from by omega) _).setOther (a := ⟨w.heap.size + 1, 1, none⟩) (show w.heap.size ≠ w.heap.size + 1 from by omega) _).cell]; rfl, by rw [((hBw.setOther (a := ⟨w.heap.size + 1, 0, none⟩) (show w.heap.size ≠ w.heap.size + 1 from by omega) _).setOther (a := ⟨w.heap.size + 1, 1, none⟩) (show w.heap.size ≠ w.heap.size + 1 from by omega) _).cell]; rfl⟩))
 clear hK K
 try simp only [Act.put, pa, pb, pc]
 refine wpAnyH_done (by kernel_rfl) ?_ _
 go_wp2
 refine bodyPost_ret (v := .agg #[.int .i64 z, .slice bv nv cv]) (by simp [results, Tryz.results81, go_sem, d0, d1]) rfl ⟨.slice bv nv cv, rfl, ?_, ?_⟩
 ·
  have hne : ∀ g, (Value.slice bv nv cv).ownBlock = some g → g ≠ w.heap.size + 1 := fun g hg => by have := (hown.block_lt hg).1; have := HSZ.out; omega
  exact ((hown.setCell (a := ⟨w.heap.size + 1, 0, none⟩) hne _).setCell (a := ⟨w.heap.size + 1, 1, none⟩) hne _).low (by have := HSZ.out; omega)
 ·
  exact (hbw.setCell (by simp <;> omega) _).setCell (by simp <;> omega) _

end Go.Proofs.YtbeklnhngjmpiaaGreat

namespace Go.Proofs.YtbeklnhngjmpiaaGreat
open Go.RowKit
set_option linter.unusedVariables false
set_option maxRecDepth 100000

/-- the time goes on -/
theorem Sto.setNow {w : World} {base s : Nat} {z : Int} {chs : List Ch} (h : Sto w base s z chs) (z' : Int) : Sto (w.setCell ⟨s, 0, none⟩ (.int .i64 z')) base s z' chs := by
 obtain ⟨v, hB, hO⟩ := h.blk
 have hch : Chg (fun b => b = s) w (w.setCell ⟨s, 0, none⟩ (.int .i64 z')) := (Chg.refl (fun b => b = s) w).setCell (a := ⟨s, 0, none⟩) (.inl rfl) _
 refine ⟨⟨v, (hB.set_ 0 _).cast rfl, hO.setCell (a := ⟨s, 0, none⟩) (fun g hg e => ?_) _⟩, fun c hc => (h.cok c hc).chg hch fun b hb => (h.cok c hc).ne_of hB typesSC typesSL b hb, h.dis, h.lo, h.los⟩
 obtain ⟨cs, hbk⟩ := hO.blk_of hg
 exact hB.ne hbk typesSP e.symm

theorem writeL_length (l : List V) (x : X) (z : Int) : (writeL l x z).length ≤ l.length + 1 := by
 unfold writeL
 split
 ·
  simp
 ·
  simp only [List.length_append, List.length_take, List.length_drop, List.length_map, List.length_cons, List.length_nil]; omega
theorem doAll_length : (ws : List X) → (l : List V) → (z : Int) → (doAll l ws z).length ≤ l.length + ws.length
 | [], l, z => by simp [doAll]
 | x :: ws, l, z => by
  have h1 := doAll_length ws (writeL l x z) z
  have h2 := writeL_length l x z
  show (doAll (writeL l x z) ws z).length ≤ _
  rw [List.length_cons]; omega
theorem doAll_succ {l : List V} {ws : List X} {z : Int} {k : Nat} (hk : k < ws.length) : doAll l (ws.take (k + 1)) z = writeL (doAll l (ws.take k) z) ws[k] z := by
 unfold doAll
 rw [List.take_succ_eq_append_getElem hk, List.foldl_append]; rfl
theorem FitVs.write {l : List V} {x : X} {z : Int} (h : FitVs l) (hx : FitX x) (hz : FitI z) : FitVs (writeL l x z) := by
 have h1 : ∀ v ∈ l.map (endF x.k z), FitV v := by
  intro v hv
  obtain ⟨u, hu, rfl⟩ := List.mem_map.1 hv
  have := h u hu
  unfold endF endV
  obtain ⟨a1, a2, a3, a4, a5, a6, a7⟩ := this
  split
  ·
   split
   ·
    exact ⟨a1, a2, a3, a4, a5, hz.1, hz.2⟩
   ·
    exact ⟨a1, a2, a3, a4, a5, a6, a7⟩
  ·
   exact ⟨a1, a2, a3, a4, a5, a6, a7⟩
 unfold writeL
 split
 ·
  exact h1
 ·
  intro v hv
  simp only [List.mem_append, List.mem_singleton] at hv
  rcases hv with (hv | rfl) | hv
  ·
   exact h1 v (List.mem_of_mem_take hv)
  ·
   exact ⟨hx.1, hx.2.1, hx.2.2, hz.1, hz.2, by show (-9223372036854775808 : Int) ≤ 0; omega, by show (0 : Int) ≤ 9223372036854775807; omega⟩
  ·
   exact h1 v (List.mem_of_mem_drop hv)
theorem FitVs.doAll : {ws : List X} → {l : List V} → {z : Int} → FitVs l → FitXs ws → FitI z → FitVs (Go.Proofs.YtbeklnhngjmpiaaGreat.doAll l ws z)
 | [], l, z, h, _, _ => h
 | x :: ws, l, z, h, hx, hz => FitVs.doAll (ws := ws) (FitVs.write h (hx x (by simp)) hz) (fun r hr => hx r (by simp [hr])) hz
theorem fitI_small {z : Int} (h0 : 0 ≤ z) (h1 : z ≤ 40) : FitI (z + 1) := ⟨by omega, by omega⟩

/-- the call returns a history in new memory, and a word -/
def RetVB (w : World) (z : Int) (l : List V) (b : Bool) (e : Ending) (w' : World) : Prop := ∃ v, e = .returned (.tuple #[.agg #[.int .i64 z, v], .bool b]) ∧ OwnG w' w.heap.size v l ∧ Below w.heap.size w w'

set_option maxHeartbeats 4000000 in
theorem commit_c (z : Int) (A : Option Addr) (c : Nat) (l : List V) (B : Option Addr) (d : Nat) (ws : List X) (w : World) (hP : VersP z l) (hW : WritesP ws) (hfit : FitVs l) (hfx : FitXs ws) (hr : RdG w w.heap.size A l) (hrx : RdG w w.heap.size B ws) :
  Calls Tryz.prog 97 #[.agg #[.int .i64 z, .slice A l.length c], .slice B ws.length d] w (RetVB w (z + 1) (doAll l ws (z + 1)) (versB (z + 1) (doAll l ws (z + 1)))) := by
 have hz0 := hP.now0
 have hz1 := hP.now
 have hl0 := hP.len
 have hx0 := hW.len
 have HO := Lib.hid hP.ord2
 have HFD := Lib.hid (FitVs.doAll hfit hfx (fitI_small hz0 hz1))
 have HLD := Lib.hid (doAll_length ws l (z + 1))
 have hzo : decide (z + 1 = 0) = false := decide_eq_false (by omega)
 clear hP hW
 have hb0 : Below w.heap.size w ((w.alloc (.cells #[.int .i64 z, .slice A l.length c] 34)).alloc (.cells #[.int .i64 0, .slice none 0 0] 34)) := below_alloc (below_alloc (Below.refl _ _) _) _
 have hB0 := (blkA w #[.int .i64 z, .slice A l.length c] 34).alloc (.cells #[.int .i64 0, .slice none 0 0] 34)
 have hR0 := blkA (w.alloc (.cells #[.int .i64 z, .slice A l.length c] 34)) #[.int .i64 0, .slice none 0 0] 34
 have hsz : ((w.alloc (.cells #[.int .i64 z, .slice A l.length c] 34)).alloc (.cells #[.int .i64 0, .slice none 0 0] 34)).heap.size = w.heap.size + 2 := by simp
 simp only [World.size_alloc] at hR0
 obtain ⟨wn, HW⟩ : ∃ wn, Hid ((w.alloc (.cells #[.int .i64 z, .slice A l.length c] 34)).alloc (.cells #[.int .i64 0, .slice none 0 0] 34) = wn) := ⟨_, Lib.hid rfl⟩
 rw [HW.out] at hb0 hB0 hR0 hsz
 have q0 : wn.cell? ⟨w.heap.size, 0, none⟩ = some (.int .i64 z) := by rw [hB0.cell]; rfl
 have q1 : wn.cell? ⟨w.heap.size, 1, none⟩ = some (.slice A l.length c) := by rw [hB0.cell]; rfl
 go_enter Tryz.func97, Tryz.ntmps97
 go_wp2_with fail
 rw [HW.out]
 refine (storageOf_c z A c l wn (by omega) HO.out.keyLe (hr.next hb0)).mono ?_
 rintro e w1 ⟨s, chs, rfl, hS, hC, hb1⟩
 have hw1 := below_next hb0 hb1
 have hR1 := hR0.next hb1
 have hCl := hC.length
 have HC1 := Lib.hid (hC.toE HO.out)
 obtain ⟨v0, hBs, hOs⟩ := hS.blk
 have s0 : w1.cell? ⟨s, 0, none⟩ = some (.int .i64 z) := by rw [hBs.cell]; rfl
 have sf := hBs.free 0
 have hslt := hS.lt
 have hslo := hS.lo
 have hS2 := hS.setNow (z + 1)
 have hR2 := hR1.setOther (a := ⟨s, 0, none⟩) (show w.heap.size + 1 ≠ s from by omega) (.int .i64 (z + 1))
 have hw2 : Below w.heap.size w (w1.setCell ⟨s, 0, none⟩ (.int .i64 (z + 1))) := hw1.setCell (show w.heap.size ≤ s from by omega) _
 have HAR : Hid (wn.heap.size = w.heap.size + 2 ∧ chs.length ≤ l.length ∧ wn.heap.size ≤ s) := ⟨hsz, hCl, hslo⟩
 have HSt := Lib.hid hS2
 clear hS hC hBs hOs hCl hslo hS2
 go_wp2
 clear s0 sf hslt hzo q0 q1
 go_loopw [21] (fun i W => ∃ k : Nat, k ≤ ws.length ∧ i = .int .i64 k ∧ ∃ ch2, Sto W wn.heap.size s (z + 1) ch2 ∧ ConsE ch2 (doAll l (ws.take k) (z + 1)) ∧ ch2.length ≤ l.length + k ∧ Blk W (w.heap.size + 1) 34 #[.int .i64 0, .slice none 0 0] ∧ Below w.heap.size w W) (fun i _ => ws.length - (intOf i).toNat)
 case atStart => exact ⟨0, Nat.zero_le _, rfl, chs, HSt.out, HC1.out, by have := HAR.out.2.1; omega, hR2, hw2⟩
 case round =>
  obtain ⟨k, hkl0, rfl, ch2, hS, hC, hcl, hR, hb⟩ := hrel
  have HCE := Lib.hid hC
  have HCL := Lib.hid hcl
  clear hcl
  by_cases hkl : k < ws.length
  ·
   obtain ⟨b, o, rfl, hbB, hc0, hc1, hc2⟩ := (hrx.below hb).atX hkl
   have hkI := lenI _ _ hkl
   have hbX : Below wr.heap.size wr (wr.alloc (.cells #[.string ws[k].k, .int .i64 ws[k].n, .bool ws[k].g] 52)) := below_alloc (Below.refl _ _) _
   have HST := Lib.hid (doAll_succ (l := l) (z := z + 1) hkl)
   obtain ⟨DL, HD⟩ : ∃ DL, Hid (doAll l (ws.take k) (z + 1) = DL) := ⟨_, Lib.hid rfl⟩
   rw [HD.out] at hC
   go_wp2_with ((go_at_call 136; refine (write_c wn.heap.size s (z + 1) ch2 DL ws[k] _ (hS.next hbX) hC (by omega) (by have := HCL.out; omega)).mono ?_; rintro e w' ⟨⟨vr, rfl⟩, ch3, hS3, hC3, hl3, hch3⟩))
   have hchW : Chg (fun b => wn.heap.size ≤ b) wr w' := (Chg.of_below hbX).trans hch3 (fun b _ hb => hb)
   have hR3 := hR.chg hchW (by have := HAR.out.1; omega)
   have hb3 := hb.trans (hchW.toBelow hb.size (fun q hq => by have : wn.heap.size ≤ q := hq; have := HAR.out.1; omega))
   go_roundw
   case rel => exact ⟨k + 1, by omega, by go_num, ch3, hS3, by rw [HST.out, HD.out]; exact hC3, by have := HCL.out; omega, hR3, hb3⟩
   case measure => simp [intOf]; omega
  ·
   have hkI : decide ((k : Int) < (ws.length : Int)) = false := decide_eq_false (by omega)
   have e : ws.take k = ws := List.take_of_length_le (by omega)
   rw [e] at hC
   have HFL := Lib.hid hC.flat
   have HF2 : Hid ((ch2.flatMap Ch.vs).length ≤ 1048577) := by show (ch2.flatMap Ch.vs).length ≤ 1048577; rw [HFL.out]; have := HLD.out; omega
   have hRl := hR.lt
   clear hC e
   go_wp2_with fail
   refine (vers_c wn.heap.size s (z + 1) ch2 wr hS (by have := HCL.out; omega) HF2.out).mono ?_
   rw [HFL.out]
   obtain ⟨DL, HD⟩ : ∃ DL, Hid (doAll l ws (z + 1) = DL) := ⟨_, Lib.hid rfl⟩
   rw [HD.out]
   have hfD := HFD.out
   rw [HD.out] at hfD
   rintro e w5 ⟨v5, rfl, hO5, hb5⟩
   have hR5 := hR.next hb5
   have hw5 := hb.trans (hb5.mono hb.size)
   obtain ⟨A5, c5, rfl, hlc5, hcm5, hr5⟩ := hO5.read
   obtain ⟨n5, HN5⟩ : ∃ n5, Hid (DL.length = n5) := ⟨_, Lib.hid rfl⟩
   have hb6 : Below w5.heap.size w5 (w5.alloc (.cells #[.int .i64 (z + 1), .slice A5 DL.length c5] 34)).drew := (below_alloc (Below.refl _ _) _).drew
   have hX6 : Blk (w5.alloc (.cells #[.int .i64 (z + 1), .slice A5 DL.length c5] 34)).drew w5.heap.size 34 #[.int .i64 (z + 1), .slice A5 DL.length c5] := blkA w5 _ _
   have hR6 := hR5.next hb6
   have hw6 := below_next hw5 hb6
   have hO6 := hO5.next hb6
   have hr6 := hr5.next hb6
   have h55 := hb5.size
   clear hr5
   go_wp2
   refine wp_region_held_drew (S := (fun W => W.cell? ⟨w5.heap.size, 0, none⟩ = some (.int .i64 (z + 1)) ∧ W.cell? ⟨w5.heap.size, 1, none⟩ = some (.slice A5 DL.length c5))) (by kernel_rfl) ?_ (fun hHeld => ?_)
   focus ((try dsimp only); (exact ⟨by rw [hX6.cell]; rfl, by rw [hX6.cell]; rfl⟩))
   refine tk 0 ?_
   refine tk 1 ?_
   (refine rd1 2 (fun K hK => ?_); go_simp; (go_at_call 50; refine (implVersOk (z + 1) A5 c5 DL _ hfD hlc5 hcm5 hr6).mono ?_; rintro e w7 ⟨rfl, hb7⟩; have hX7 := hX6.next hb7; have hR7 := hR6.next hb7; have hw7 := below_next hw6 hb7; have hO7 := hO6.next hb7; have d0 : w7.cell? ⟨w.heap.size + 1, 0, none⟩ = some (.int .i64 0) := (by rw [hR7.cell]; rfl); have d1 : w7.cell? ⟨w.heap.size + 1, 1, none⟩ = some (.slice none 0 0) := (by rw [hR7.cell]; rfl); have f0 := hR7.free 0; have f1 := hR7.free 1); go_wp2_with fail; refine hK.out _ _ ?_ (fun hHeld => ?_); (focus ((try dsimp only); (exact ⟨by rw [hX7.cell]; rfl, by rw [hX7.cell]; rfl⟩))); clear hK K; (try simp only [Act.put, pa, pb, pc]))
   refine rd1 3 (fun K hK => ?_)
   go_simp
   refine hK.out _ _ ?_ (fun hHeld => ?_)
   focus ((try dsimp only); (exact ⟨by rw [((hX7.setOther (a := ⟨w.heap.size + 1, 0, none⟩) (show w5.heap.size ≠ w.heap.size + 1 from by omega) _).setOther (a := ⟨w.heap.size + 1, 1, none⟩) (show w5.heap.size ≠ w.heap.size + 1 from by omega) _).cell]; rfl, by rw [((hX7.setOther (a := ⟨w.heap.size + 1, 0, none⟩) (show w5.heap.size ≠ w.heap.size + 1 from by omega) _).setOther (a := ⟨w.heap.size + 1, 1, none⟩) (show w5.heap.size ≠ w.heap.size + 1 from by omega) _).cell]; rfl⟩))
   clear hK K
   try simp only [Act.put, pa, pb, pc]
   refine tk 4 ?_
   refine wpAnyH_done (by kernel_rfl) ?_ _
   go_wp2
   refine bodyPost_ret (v := .tuple #[.agg #[.int .i64 (z + 1), .slice A5 DL.length c5], .bool (versB (z + 1) DL)]) (by simp [results, Tryz.results97, go_sem, d0, d1]) rfl ⟨.slice A5 DL.length c5, by rw [HD.out], ?_, ?_⟩
   ·
    have hne : ∀ g, (Value.slice A5 DL.length c5).ownBlock = some g → g ≠ w.heap.size + 1 := fun g hg => by have := (hO5.block_lt hg).1; omega
    rw [HD.out]
    exact ((hO7.setCell (a := ⟨w.heap.size + 1, 0, none⟩) hne _).setCell (a := ⟨w.heap.size + 1, 1, none⟩) hne _).low (by have := hb.size; omega)
   ·
    exact (hw7.setCell (by simp <;> omega) _).setCell (by simp <;> omega) _

end Go.Proofs.YtbeklnhngjmpiaaGreat

namespace Go.Proofs.YtbeklnhngjmpiaaGreat
open Go.RowKit
set_option linter.unusedVariables false
set_option maxRecDepth 100000

noncomputable def doB (z : Int) (l : List V) (ws : List X) : Bool := versB z l && writesB ws && versB (z + 1) (doAll l ws (z + 1))
noncomputable def doZ (z : Int) (l : List V) (ws : List X) : Int := if versB z l then (if doB z l ws then z + 1 else z) else 0
noncomputable def doL (z : Int) (l : List V) (ws : List X) : List V := if versB z l then (if doB z l ws then doAll l ws (z + 1) else l) else []
theorem do_bad {z : Int} {l : List V} {ws : List X} (h : versB z l = false) : doB z l ws = false ∧ doZ z l ws = 0 ∧ doL z l ws = [] := by
 unfold doZ doL doB; rw [h]; simp
theorem do_no {z : Int} {l : List V} {ws : List X} (h : versB z l = true) (hw : (writesB ws && versB (z + 1) (doAll l ws (z + 1))) = false) : doB z l ws = false ∧ doZ z l ws = z ∧ doL z l ws = l := by
 have e : doB z l ws = false := by unfold doB; rw [Bool.and_assoc, hw, Bool.and_false]
 refine ⟨e, ?_, ?_⟩
 ·
  unfold doZ; rw [h, e]; simp
 ·
  unfold doL; rw [h, e]; simp
theorem do_yes {z : Int} {l : List V} {ws : List X} (h : versB z l = true) (hw : writesB ws = true) (hd : versB (z + 1) (doAll l ws (z + 1)) = true) : doB z l ws = true ∧ doZ z l ws = z + 1 ∧ doL z l ws = doAll l ws (z + 1) := by
 have e : doB z l ws = true := by unfold doB; rw [h, hw, hd]; rfl
 refine ⟨e, ?_, ?_⟩
 ·
  unfold doZ; rw [h, e]; simp
 ·
  unfold doL; rw [h, e]; simp
theorem doL_len (z : Int) (l : List V) (ws : List X) (hl : l.length ≤ 1048576) : (doL z l ws).length ≤ 1048577 := by
 unfold doL
 split
 ·
  split
  ·
   rename_i h1 h2
   unfold doB at h2
   simp only [Bool.and_eq_true] at h2
   have := (versB_iff.1 h2.2).len
   omega
  ·
   omega
 ·
  simp

set_option maxHeartbeats 4000000 in
theorem implVersDo (z : Int) (A : Option Addr) (c : Nat) (l : List V) (B : Option Addr) (d : Nat) (ws : List X) (w : World) (hfit : FitVs l) (hfx : FitXs ws) (hlc : l.length ≤ c) (hcm : c ≤ maxLen) (hl : l.length ≤ 1048576) (hld : ws.length ≤ 1048576) (hr : RdG w w.heap.size A l) (hrx : RdG w w.heap.size B ws) :
  Calls Tryz.prog 46 #[.agg #[.int .i64 z, .slice A l.length c], .slice B ws.length d] w (RetVB w (doZ z l ws) (doL z l ws) (doB z l ws)) := by
 have hb0 : Below w.heap.size w ((w.alloc (.cells #[.int .i64 z, .slice A l.length c] 34)).alloc (.cells #[.int .i64 0, .slice none 0 0] 34)) := below_alloc (below_alloc (Below.refl _ _) _) _
 have hB0 := (blkA w #[.int .i64 z, .slice A l.length c] 34).alloc (.cells #[.int .i64 0, .slice none 0 0] 34)
 have hR0 := blkA (w.alloc (.cells #[.int .i64 z, .slice A l.length c] 34)) #[.int .i64 0, .slice none 0 0] 34
 have hsz : ((w.alloc (.cells #[.int .i64 z, .slice A l.length c] 34)).alloc (.cells #[.int .i64 0, .slice none 0 0] 34)).heap.size = w.heap.size + 2 := by simp
 simp only [World.size_alloc] at hR0
 obtain ⟨wn, HW⟩ : ∃ wn, Hid ((w.alloc (.cells #[.int .i64 z, .slice A l.length c] 34)).alloc (.cells #[.int .i64 0, .slice none 0 0] 34) = wn) := ⟨_, Lib.hid rfl⟩
 rw [HW.out] at hb0 hB0 hR0 hsz
 have q0 : wn.cell? ⟨w.heap.size, 0, none⟩ = some (.int .i64 z) := by rw [hB0.cell]; rfl
 have q1 : wn.cell? ⟨w.heap.size, 1, none⟩ = some (.slice A l.length c) := by rw [hB0.cell]; rfl
 cases hv : versB z l
 ·
  have HE := Lib.hid (do_bad (ws := ws) hv)
  rw [HE.out.1, HE.out.2.1, HE.out.2.2]
  go_enter Tryz.func46, Tryz.ntmps46
  go_wp2_with fail
  rw [HW.out]
  refine (implVersOk z A c l _ hfit hlc hcm (hr.next hb0)).mono ?_
  rintro e w1 ⟨rfl, hb1⟩
  rw [hv]
  have hw1 := below_next hb0 hb1
  have hR1 := hR0.next hb1
  have d0 : w1.cell? ⟨w.heap.size + 1, 0, none⟩ = some (.int .i64 0) := by rw [hR1.cell]; rfl
  have d1 : w1.cell? ⟨w.heap.size + 1, 1, none⟩ = some (.slice none 0 0) := by rw [hR1.cell]; rfl
  have f0 := hR1.free 0
  have f1 := hR1.free 1
  go_wp2
  refine bodyPost_ret (v := .tuple #[.agg #[.int .i64 0, .slice none 0 0], .bool false]) (by simp [results, Tryz.results46, go_sem, d0, d1]) rfl ⟨.slice none 0 0, rfl, OwnG.nil _ _, ?_⟩
  exact (hw1.setCell (by simp <;> omega) _).setCell (by simp <;> omega) _
 have HP := Lib.hid (versB_iff.1 hv)
 cases hx : writesB ws
 ·
  have HE := Lib.hid (do_no (ws := ws) hv (by rw [hx]; rfl))
  rw [HE.out.1, HE.out.2.1, HE.out.2.2]
  go_enter Tryz.func46, Tryz.ntmps46
  go_wp2_with fail
  rw [HW.out]
  refine (implVersOk z A c l _ hfit hlc hcm (hr.next hb0)).mono ?_
  rintro e w1 ⟨rfl, hb1⟩
  rw [hv]
  have hw1 := below_next hb0 hb1
  have hR1 := hR0.next hb1
  have hB1 := hB0.next hb1
  go_wp2_with fail
  refine (implWritesOk B d ws _ hfx (by omega) (hrx.next hw1)).mono ?_
  rintro e w2 ⟨rfl, hb2⟩
  rw [hx]
  have hw2 := below_next hw1 hb2
  have hR2 := hR1.next hb2
  have hB2 := hB1.next hb2
  have g0 : w2.cell? ⟨w.heap.size, 0, none⟩ = some (.int .i64 z) := by rw [hB2.cell]; rfl
  have g1 : w2.cell? ⟨w.heap.size, 1, none⟩ = some (.slice A l.length c) := by rw [hB2.cell]; rfl
  go_wp2_with fail
  refine (copyVers_c z A c l _ (by omega) (hr.next hw2)).mono ?_
  rintro e w3 ⟨v3, rfl, hO3, hb3⟩
  have hw3 := below_next hw2 hb3
  have hR3 := hR2.next hb3
  have hs2 := hw2.size
  have hRl := hR2.lt
  have d0 : w3.cell? ⟨w.heap.size + 1, 0, none⟩ = some (.int .i64 0) := by rw [hR3.cell]; rfl
  have d1 : w3.cell? ⟨w.heap.size + 1, 1, none⟩ = some (.slice none 0 0) := by rw [hR3.cell]; rfl
  have f0 := hR3.free 0
  have f1 := hR3.free 1
  obtain ⟨b5, n5, c5, rfl⟩ := hO3.slice
  go_wp2
  refine bodyPost_ret (v := .tuple #[.agg #[.int .i64 z, .slice b5 n5 c5], .bool false]) (by simp [results, Tryz.results46, go_sem, d0, d1]) rfl ⟨.slice b5 n5 c5, rfl, ?_, ?_⟩
  ·
   have hne : ∀ g, (Value.slice b5 n5 c5).ownBlock = some g → g ≠ w.heap.size + 1 := fun g hg => by have := (hO3.block_lt hg).1; omega
   exact ((hO3.setCell (a := ⟨w.heap.size + 1, 0, none⟩) hne _).setCell (a := ⟨w.heap.size + 1, 1, none⟩) hne _).low hs2
  ·
   exact (hw3.setCell (by simp <;> omega) _).setCell (by simp <;> omega) _
 have HX := Lib.hid (writesB_iff.1 hx)
 cases hd : versB (z + 1) (doAll l ws (z + 1))
 ·
  have HE := Lib.hid (do_no (ws := ws) hv (by rw [hx, hd]; rfl))
  rw [HE.out.1, HE.out.2.1, HE.out.2.2]
  go_enter Tryz.func46, Tryz.ntmps46
  go_wp2_with fail
  rw [HW.out]
  refine (implVersOk z A c l _ hfit hlc hcm (hr.next hb0)).mono ?_
  rintro e w1 ⟨rfl, hb1⟩
  rw [hv]
  have hw1 := below_next hb0 hb1
  have hR1 := hR0.next hb1
  have hB1 := hB0.next hb1
  go_wp2_with fail
  refine (implWritesOk B d ws _ hfx (by omega) (hrx.next hw1)).mono ?_
  rintro e w2 ⟨rfl, hb2⟩
  rw [hx]
  have hw2 := below_next hw1 hb2
  have hR2 := hR1.next hb2
  have hB2 := hB1.next hb2
  have g0 : w2.cell? ⟨w.heap.size, 0, none⟩ = some (.int .i64 z) := by rw [hB2.cell]; rfl
  have g1 : w2.cell? ⟨w.heap.size, 1, none⟩ = some (.slice A l.length c) := by rw [hB2.cell]; rfl
  have hs2 := hw2.size
  have hRl := hR2.lt
  go_wp2_with fail
  refine (commit_c z A c l B d ws _ HP.out HX.out hfit hfx (hr.next hw2) (hrx.next hw2)).mono ?_
  rw [hd]
  obtain ⟨DL, HD⟩ : ∃ DL, Hid (doAll l ws (z + 1) = DL) := ⟨_, Lib.hid rfl⟩
  try rw [HD.out]
  rintro e w3 ⟨v3, rfl, hO3, hb3⟩
  obtain ⟨b3, n3, c3, rfl⟩ := hO3.slice
  have hw3 := below_next hw2 hb3
  have hb4 : Below w3.heap.size w3 (w3.alloc (.cells #[.int .i64 (z + 1), .slice b3 n3 c3] 34)) := below_alloc (Below.refl _ _) _
  have hX5 := blkA w3 #[.int .i64 (z + 1), .slice b3 n3 c3] 34
  have hw5 := below_next hw3 hb4
  have hR5 := (hR2.next hb3).next hb4
  have hB5 := (hB2.next hb3).next hb4
  have hO5 := hO3.next hb4
  have hs3 := hb3.size
  have hB3 := hB2.next hb3
  have y0' : w3.cell? ⟨w.heap.size, 0, none⟩ = some (.int .i64 z) := by rw [hB3.cell]; rfl
  have y1' : w3.cell? ⟨w.heap.size, 1, none⟩ = some (.slice A l.length c) := by rw [hB3.cell]; rfl
  have y0 : (w3.alloc (.cells #[.int .i64 (z + 1), .slice b3 n3 c3] 34)).cell? ⟨w.heap.size, 0, none⟩ = some (.int .i64 z) := by rw [hB5.cell]; rfl
  have y1 : (w3.alloc (.cells #[.int .i64 (z + 1), .slice b3 n3 c3] 34)).cell? ⟨w.heap.size, 1, none⟩ = some (.slice A l.length c) := by rw [hB5.cell]; rfl
  go_wp2_with fail
  refine (copyVers_c z A c l _ (by omega) (hr.next hw5)).mono ?_
  rintro e w6 ⟨v3, rfl, hO6, hb6⟩
  have hw6 := below_next hw5 hb6
  have hR6 := hR5.next hb6
  have hs2 := hw5.size
  have hRl := hR5.lt
  have d0 : w6.cell? ⟨w.heap.size + 1, 0, none⟩ = some (.int .i64 0) := by rw [hR6.cell]; rfl
  have d1 : w6.cell? ⟨w.heap.size + 1, 1, none⟩ = some (.slice none 0 0) := by rw [hR6.cell]; rfl
  have f0 := hR6.free 0
  have f1 := hR6.free 1
  obtain ⟨b5, n5, c5, rfl⟩ := hO6.slice
  go_wp2
  refine bodyPost_ret (v := .tuple #[.agg #[.int .i64 z, .slice b5 n5 c5], .bool false]) (by simp [results, Tryz.results46, go_sem, d0, d1]) rfl ⟨.slice b5 n5 c5, rfl, ?_, ?_⟩
  ·
   have hne : ∀ g, (Value.slice b5 n5 c5).ownBlock = some g → g ≠ w.heap.size + 1 := fun g hg => by have := (hO6.block_lt hg).1; omega
   exact ((hO6.setCell (a := ⟨w.heap.size + 1, 0, none⟩) hne _).setCell (a := ⟨w.heap.size + 1, 1, none⟩) hne _).low hs2
  ·
   exact (hw6.setCell (by simp <;> omega) _).setCell (by simp <;> omega) _
 ·
  have HE := Lib.hid (do_yes (ws := ws) hv hx hd)
  rw [HE.out.1, HE.out.2.1, HE.out.2.2]
  go_enter Tryz.func46, Tryz.ntmps46
  go_wp2_with fail
  rw [HW.out]
  refine (implVersOk z A c l _ hfit hlc hcm (hr.next hb0)).mono ?_
  rintro e w1 ⟨rfl, hb1⟩
  rw [hv]
  have hw1 := below_next hb0 hb1
  have hR1 := hR0.next hb1
  have hB1 := hB0.next hb1
  go_wp2_with fail
  refine (implWritesOk B d ws _ hfx (by omega) (hrx.next hw1)).mono ?_
  rintro e w2 ⟨rfl, hb2⟩
  rw [hx]
  have hw2 := below_next hw1 hb2
  have hR2 := hR1.next hb2
  have hB2 := hB1.next hb2
  have g0 : w2.cell? ⟨w.heap.size, 0, none⟩ = some (.int .i64 z) := by rw [hB2.cell]; rfl
  have g1 : w2.cell? ⟨w.heap.size, 1, none⟩ = some (.slice A l.length c) := by rw [hB2.cell]; rfl
  have hs2 := hw2.size
  have hRl := hR2.lt
  go_wp2_with fail
  refine (commit_c z A c l B d ws _ HP.out HX.out hfit hfx (hr.next hw2) (hrx.next hw2)).mono ?_
  rw [hd]
  obtain ⟨DL, HD⟩ : ∃ DL, Hid (doAll l ws (z + 1) = DL) := ⟨_, Lib.hid rfl⟩
  try rw [HD.out]
  rintro e w3 ⟨v3, rfl, hO3, hb3⟩
  obtain ⟨b3, n3, c3, rfl⟩ := hO3.slice
  have hw3 := below_next hw2 hb3
  have hb4 : Below w3.heap.size w3 (w3.alloc (.cells #[.int .i64 (z + 1), .slice b3 n3 c3] 34)) := below_alloc (Below.refl _ _) _
  have hX5 := blkA w3 #[.int .i64 (z + 1), .slice b3 n3 c3] 34
  have hw5 := below_next hw3 hb4
  have hR5 := (hR2.next hb3).next hb4
  have hB5 := (hB2.next hb3).next hb4
  have hO5 := hO3.next hb4
  have hs3 := hb3.size
  have hB3 := hB2.next hb3
  have y0' : w3.cell? ⟨w.heap.size, 0, none⟩ = some (.int .i64 z) := by rw [hB3.cell]; rfl
  have y1' : w3.cell? ⟨w.heap.size, 1, none⟩ = some (.slice A l.length c) := by rw [hB3.cell]; rfl
  have y0 : (w3.alloc (.cells #[.int .i64 (z + 1), .slice b3 n3 c3] 34)).cell? ⟨w.heap.size, 0, none⟩ = some (.int .i64 z) := by rw [hB5.cell]; rfl
  have y1 : (w3.alloc (.cells #[.int .i64 (z + 1), .slice b3 n3 c3] 34)).cell? ⟨w.heap.size, 1, none⟩ = some (.slice A l.length c) := by rw [hB5.cell]; rfl
  have d0 : (w3.alloc (.cells #[.int .i64 (z + 1), .slice b3 n3 c3] 34)).cell? ⟨w.heap.size + 1, 0, none⟩ = some (.int .i64 0) := by rw [hR5.cell]; rfl
  have d1 : (w3.alloc (.cells #[.int .i64 (z + 1), .slice b3 n3 c3] 34)).cell? ⟨w.heap.size + 1, 1, none⟩ = some (.slice none 0 0) := by rw [hR5.cell]; rfl
  have f0 := hR5.free 0
  have f1 := hR5.free 1
  have x0 : (w3.alloc (.cells #[.int .i64 (z + 1), .slice b3 n3 c3] 34)).cell? ⟨w3.heap.size, 0, none⟩ = some (.int .i64 (z + 1)) := by rw [hX5.cell]; rfl
  have x1 : (w3.alloc (.cells #[.int .i64 (z + 1), .slice b3 n3 c3] 34)).cell? ⟨w3.heap.size, 1, none⟩ = some (.slice b3 n3 c3) := by rw [hX5.cell]; rfl
  go_wp2
  refine bodyPost_ret (v := .tuple #[.agg #[.int .i64 (z + 1), .slice b3 n3 c3], .bool true]) (by simp [results, Tryz.results46, go_sem, d0, d1]) rfl ⟨.slice b3 n3 c3, rfl, ?_, ?_⟩
  ·
   have hne : ∀ g, (Value.slice b3 n3 c3).ownBlock = some g → g ≠ w.heap.size + 1 := fun g hg => by have := (hO3.block_lt hg).1; omega
   rw [HD.out]
   exact ((hO5.setCell (a := ⟨w.heap.size + 1, 0, none⟩) hne _).setCell (a := ⟨w.heap.size + 1, 1, none⟩) hne _).low (by omega)
  ·
   exact (hw5.setCell (by simp <;> omega) _).setCell (by simp <;> omega) _
theorem implVersDoO {v u : Value} {z : Int} {l : List V} {ws : List X} {base base' : Nat} {w : World} (h : OwnG w base v l) (h' : OwnG w base' u ws) (hf : FitVs l) (hf' : FitXs ws) (hl : l.length ≤ 1048576) (hl' : ws.length ≤ 1048576) :
  Calls Tryz.prog 46 #[.agg #[.int .i64 z, v], u] w (RetVB w (doZ z l ws) (doL z l ws) (doB z l ws)) := by
 obtain ⟨A, c, rfl, h1, h2, hr⟩ := h.read
 obtain ⟨B, d, rfl, h3, h4, hr'⟩ := h'.read
 exact implVersDo z A c l B d ws w hf hf' h1 h2 hl hl' hr hr'

end Go.Proofs.YtbeklnhngjmpiaaGreat
