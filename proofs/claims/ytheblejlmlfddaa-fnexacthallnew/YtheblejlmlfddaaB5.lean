/- Chapter 2, plain mathematics: what one write does to a list of versions, and to chains.
The program's storage: write.
Copies of a history: of the program, of the model.
The program's commit and VersDo.
The program's VersDo. -/
import Derived.Test.YtheblejlmlfddaaB4
import Derived.Test.YtheblejlmlfddaaS2w
namespace Go.Proofs.Ytheblejlmlfddaa
open Go.RowKit
set_option linter.unusedVariables false

/-- what stands under the key ends now -/
def endF (key : ByteArray) (now : Int) (v : V) : V := if v.k.toList == key.toList then endV now v else v
/-- how many versions stand ahead of the place of a key -/
def placeL (l : List V) (key : ByteArray) : Nat := l.foldl (fun (p : Nat × Nat) v => (p.1 + 1, if lt key v.k then p.2 else p.1 + 1)) (0, 0) |>.2
def writeL (l : List V) (x : X) (now : Int) : List V :=
 if x.g then l.map (endF x.k now) else (l.map (endF x.k now)).take (placeL l x.k) ++ [⟨x.k, x.n, now, 0⟩] ++ (l.map (endF x.k now)).drop (placeL l x.k)
def doAll (l : List V) (ws : List X) (now : Int) : List V := ws.foldl (fun l x => writeL l x now) l

theorem place_fst (key : ByteArray) : (l : List V) → (n p : Nat) → (l.foldl (fun (p : Nat × Nat) v => (p.1 + 1, if lt key v.k then p.2 else p.1 + 1)) (n, p)).1 = n + l.length
 | [], n, p => rfl
 | v :: l, n, p => by rw [List.foldl_cons, place_fst key l]; simp; omega
theorem place_snoc (l : List V) (v : V) (key : ByteArray) : placeL (l ++ [v]) key = if lt key v.k then placeL l key else l.length + 1 := by
 unfold placeL
 rw [List.foldl_append]
 simp only [List.foldl_cons, List.foldl_nil]
 rw [place_fst key l 0 0, Nat.zero_add]
theorem placeL_le (l : List V) (key : ByteArray) : placeL l key ≤ l.length := by
 rcases nil_or_snoc l with rfl | ⟨i, y, rfl⟩
 ·
  simp [placeL]
 ·
  rw [place_snoc]
  have := placeL_le i key
  split <;> simp <;> omega
termination_by l.length
decreasing_by simp_all
theorem place_high (l r : List V) (key : ByteArray) (h : ∀ v ∈ r, lt key v.k = true) : placeL (l ++ r) key = placeL l key := by
 rcases nil_or_snoc r with rfl | ⟨i, y, rfl⟩
 ·
  simp
 ·
  rw [← List.append_assoc, place_snoc, if_pos (h y (by simp)), place_high l i key fun v hv => h v (by simp [hv])]
termination_by r.length
decreasing_by simp_all
theorem place_low (l : List V) (key : ByteArray) (h : ∀ v ∈ l, lt key v.k = false) : placeL l key = l.length := by
 rcases nil_or_snoc l with rfl | ⟨i, y, rfl⟩
 ·
  rfl
 ·
  rw [place_snoc, if_neg (by rw [h y (by simp)]; simp)]; simp

/-- of the versions of one key the last alone may still stand -/
def Open (vs : List V) : Prop := vs.Pairwise fun a b => a.t ≠ 0
/-- the chains hold these versions; some may be empty -/
structure ConsE (chs : List Ch) (l : List V) : Prop where
 flat : chs.flatMap Ch.vs = l
 each : ∀ c ∈ chs, (∀ x ∈ c.vs, x.k = c.k) ∧ Open c.vs
 asc : Asc chs
theorem Cons.toE {chs : List Ch} {l : List V} (h : Cons chs l) (ho : Ord2 l) : ConsE chs l :=
 ⟨h.flat, fun c hc => ⟨(h.each c hc).2, List.Pairwise.imp (fun hab => by omega) (h.chain ho hc)⟩, h.asc⟩

theorem endF_other {key : ByteArray} {now : Int} {vs : List V} (h : ∀ x ∈ vs, x.k ≠ key) : vs.map (endF key now) = vs := by
 rw [List.map_congr_left (g := id)]
 ·
  simp
 ·
  intro x hx
  unfold endF
  rw [str_ne (h x hx)]; rfl
theorem endF_chain {key : ByteArray} {now : Int} {ls : List Lk} (hk : ∀ x ∈ ls.map Lk.v, x.k = key) (ho : Open (ls.map Lk.v)) : (ls.map Lk.v).map (endF key now) = (endLk now ls).map Lk.v := by
 rcases nil_or_snoc ls with rfl | ⟨init, y, rfl⟩
 ·
  rfl
 ·
  rw [endLk_snoc, List.map_append, List.map_append, List.map_append]
  congr 1
  ·
   rw [List.map_congr_left (g := id)]
   ·
    simp
   ·
    intro x hx
    unfold Open at ho
    rw [List.map_append, List.pairwise_append] at ho
    have h1 := ho.2.2 x hx y.v (by simp)
    unfold endF endV
    rw [if_neg h1]
    split <;> rfl
  ·
   simp only [List.map_cons, List.map_nil]
   unfold endF
   rw [hk y.v (by simp)]
   simp

/-- the chain of a key, behind a write -/
def chWrite (c : Ch) (x : X) (now : Int) (g : Nat) : Ch := ⟨c.g, c.k, if x.g then endLk now c.ls else endLk now c.ls ++ [⟨g, ⟨x.k, x.n, now, 0⟩⟩]⟩
theorem endLk_open {now : Int} (hn : now ≠ 0) {ls : List Lk} (ho : Open (ls.map Lk.v)) : ∀ x ∈ (endLk now ls).map Lk.v, x.t ≠ 0 := by
 rcases nil_or_snoc ls with rfl | ⟨init, y, rfl⟩
 ·
  intro x hx; simp [endLk] at hx
 ·
  intro x hx
  rw [endLk_snoc, List.map_append, List.mem_append] at hx
  rcases hx with hx | hx
  ·
   unfold Open at ho
   rw [List.map_append, List.pairwise_append] at ho
   exact ho.2.2 x hx y.v (by simp)
  ·
   simp only [List.map_cons, List.map_nil, List.mem_singleton] at hx
   subst hx
   unfold endV
   split
   ·
    exact hn
   ·
    assumption
theorem endLk_keys {now : Int} {ls : List Lk} {key : ByteArray} (hk : ∀ x ∈ ls.map Lk.v, x.k = key) : ∀ x ∈ (endLk now ls).map Lk.v, x.k = key := by
 rcases nil_or_snoc ls with rfl | ⟨init, y, rfl⟩
 ·
  intro x hx; simp [endLk] at hx
 ·
  intro x hx
  rw [endLk_snoc, List.map_append, List.mem_append] at hx
  rcases hx with hx | hx
  ·
   exact hk x (by simp only [List.map_append, List.mem_append]; exact .inl hx)
  ·
   simp only [List.map_cons, List.map_nil, List.mem_singleton] at hx
   subst hx
   have := hk y.v (by simp)
   unfold endV
   split <;> exact this

theorem write_flat {chs L R : List Ch} {c : Ch} {l : List V} {x : X} {now : Int} {g : Nat} (hn : now ≠ 0) (hC : ConsE chs l) (hck : c.k = x.k) (hA : Asc (L ++ c :: R)) (hor : chs = L ++ c :: R ∨ (chs = L ++ R ∧ c.ls = [])) :
  ConsE (L ++ chWrite c x now g :: R) (writeL l x now) := by
 have hA' := hA
 unfold Asc at hA'
 rw [List.pairwise_append, List.pairwise_cons] at hA'
 have hLm : ∀ d ∈ L, d ∈ chs := fun d hd => by rcases hor with rfl | ⟨rfl, _⟩ <;> simp [hd]
 have hRm : ∀ d ∈ R, d ∈ chs := fun d hd => by rcases hor with rfl | ⟨rfl, _⟩ <;> simp [hd]
 have hLk : ∀ v ∈ L.flatMap Ch.vs, lt v.k x.k = true := fun v hv => by
  obtain ⟨d, hd, hv⟩ := List.mem_flatMap.1 hv
  rw [(hC.each d (hLm d hd)).1 v hv, ← hck]
  exact hA'.2.2 d hd c (by simp)
 have hRk : ∀ v ∈ R.flatMap Ch.vs, lt x.k v.k = true := fun v hv => by
  obtain ⟨d, hd, hv⟩ := List.mem_flatMap.1 hv
  rw [(hC.each d (hRm d hd)).1 v hv, ← hck]
  exact hA'.2.1.1 d hd
 have hce : (∀ y ∈ c.vs, y.k = c.k) ∧ Open c.vs := by
  rcases hor with rfl | ⟨rfl, he⟩
  ·
   exact hC.each c (by simp)
  ·
   unfold Ch.vs; rw [he]; exact ⟨fun y hy => by simp at hy, List.Pairwise.nil⟩
 have hl : l = L.flatMap Ch.vs ++ (c.vs ++ R.flatMap Ch.vs) := by
  rw [← hC.flat]
  rcases hor with rfl | ⟨rfl, he⟩
  ·
   simp
  ·
   simp [Ch.vs, he]
 have hne : ∀ {a b : ByteArray}, lt a b = true → a ≠ b := fun h e => by rw [e, lt_irrefl] at h; cases h
 have hmap : l.map (endF x.k now) = L.flatMap Ch.vs ++ ((endLk now c.ls).map Lk.v ++ R.flatMap Ch.vs) := by
  rw [hl, List.map_append, List.map_append, endF_other fun v hv => hne (hLk v hv), endF_other fun v hv => (hne (hRk v hv)).symm]
  congr 2
  exact endF_chain (fun y hy => by rw [← hck]; exact hce.1 y hy) hce.2
 have hlen : ((endLk now c.ls).map Lk.v).length = c.vs.length := by
  have := congrArg List.length hmap
  rw [List.length_map, hl] at this
  simp only [List.length_append] at this
  omega
 have hplace : placeL l x.k = (L.flatMap Ch.vs).length + c.vs.length := by
  rw [hl, ← List.append_assoc, place_high _ _ _ hRk, place_low, List.length_append]
  intro v hv
  rcases List.mem_append.1 hv with hv | hv
  ·
   exact lt_asymm (hLk v hv)
  ·
   rw [hce.1 v hv, hck, lt_irrefl]
 refine ⟨?_, ?_, ?_⟩
 ·
  unfold writeL
  rw [hmap, hplace]
  cases hg : x.g
  ·
   have e1 : (L.flatMap Ch.vs ++ ((endLk now c.ls).map Lk.v ++ R.flatMap Ch.vs)).take ((L.flatMap Ch.vs).length + c.vs.length) = L.flatMap Ch.vs ++ (endLk now c.ls).map Lk.v := by
    rw [← List.append_assoc, ← hlen, ← List.length_append, List.take_left]
   have e2 : (L.flatMap Ch.vs ++ ((endLk now c.ls).map Lk.v ++ R.flatMap Ch.vs)).drop ((L.flatMap Ch.vs).length + c.vs.length) = R.flatMap Ch.vs := by
    rw [← List.append_assoc, ← hlen, ← List.length_append, List.drop_left]
   rw [if_neg (by simp), e1, e2]
   simp [chWrite, Ch.vs, hg]
  ·
   rw [if_pos rfl]
   simp [chWrite, Ch.vs, hg]
 ·
  intro d hd
  rcases List.mem_append.1 hd with hd | hd
  ·
   exact hC.each d (hLm d hd)
  ·
   rcases List.mem_cons.1 hd with rfl | hd
   ·
    have hk1 := endLk_keys (now := now) (key := c.k) hce.1
    have ho1 := endLk_open hn hce.2
    unfold chWrite Ch.vs
    cases hg : x.g
    ·
     refine ⟨fun y hy => ?_, ?_⟩
     ·
      simp only [Bool.false_eq_true, if_false, List.map_append, List.mem_append, List.map_cons, List.map_nil, List.mem_singleton] at hy
      rcases hy with hy | rfl
      ·
       exact hk1 y hy
      ·
       exact hck.symm
     ·
      unfold Open
      simp only [Bool.false_eq_true, if_false, List.map_append]
      rw [List.pairwise_append]
      exact ⟨List.Pairwise.imp_of_mem (fun ha _ _ => ho1 _ ha) (List.pairwise_of_forall (l := (endLk now c.ls).map Lk.v) (R := fun _ _ => True) fun _ _ => trivial), by simp, fun a ha b _ => ho1 a ha⟩
    ·
     refine ⟨fun y hy => hk1 y (by simpa [hg] using hy), ?_⟩
     unfold Open
     simp only [if_true]
     exact List.Pairwise.imp_of_mem (fun ha _ _ => ho1 _ ha) (List.pairwise_of_forall (l := (endLk now c.ls).map Lk.v) (R := fun _ _ => True) fun _ _ => trivial)
   ·
    exact hC.each d (hRm d hd)
 ·
  unfold Asc
  rw [List.pairwise_append, List.pairwise_cons]
  exact ⟨hA'.1, ⟨hA'.2.1.1, hA'.2.1.2⟩, fun a ha b hb => by
   rcases List.mem_cons.1 hb with rfl | hb
   ·
    exact hA'.2.2 a ha c (by simp)
   ·
    exact hA'.2.2 a ha b (by simp [hb])⟩

end Go.Proofs.Ytheblejlmlfddaa

namespace Go.Proofs.Ytheblejlmlfddaa
open Go.RowKit
set_option linter.unusedVariables false
set_option maxRecDepth 100000

theorem endLk_g (t : Int) (ls : List Lk) : (endLk t ls).map Lk.g = ls.map Lk.g := by
 rcases nil_or_snoc ls with rfl | ⟨init, y, rfl⟩
 ·
  rfl
 ·
  rw [endLk_snoc]; simp

def RetWrite (w : World) (base s : Nat) (z : Int) (n : Nat) (l : List V) (x : X) (e : Ending) (w' : World) : Prop :=
 (∃ v, e = .returned v) ∧ ∃ chs', Sto w' base s z chs' ∧ ConsE chs' (writeL l x z) ∧ chs'.length ≤ n + 1 ∧ Chg (fun b => base ≤ b) w w'

end Go.Proofs.Ytheblejlmlfddaa

namespace Go.Proofs.Ytheblejlmlfddaa
open Go.RowKit
set_option linter.unusedVariables false
set_option maxRecDepth 100000

end Go.Proofs.Ytheblejlmlfddaa

namespace Go.Proofs.Ytheblejlmlfddaa
open Go.RowKit
set_option linter.unusedVariables false
set_option maxRecDepth 100000

/-- the time goes on -/
theorem Sto.setNow {w : World} {base s : Nat} {z : Int} {chs : List Ch} (h : Sto w base s z chs) (z' : Int) : Sto (w.setCell ⟨s, 0, none⟩ (.int .i64 z')) base s z' chs := by
 obtain ⟨v, hB, hO⟩ := h.blk
 have hch : Chg (fun b => b = s) w (w.setCell ⟨s, 0, none⟩ (.int .i64 z')) := (Chg.refl (fun b => b = s) w).setCell (a := ⟨s, 0, none⟩) (.inl rfl) _
 refine ⟨⟨v, (hB.set_ 0 _).cast rfl, hO.setCell (a := ⟨s, 0, none⟩) (fun g hg e => ?_) _⟩, fun c hc => (h.cok c hc).chg hch fun b hb => (h.cok c hc).ne_of hB typesSC typesSL b hb, h.dis, h.lo, h.los⟩
 obtain ⟨cs, hbk⟩ := hO.blk_of hg
 exact hB.ne hbk typesSP e.symm

theorem writeL_length (l : List V) (x : X) (z : Int) : (writeL l x z).length ≤ l.length + 1 := by
 unfold writeL
 split
 ·
  simp
 ·
  simp only [List.length_append, List.length_take, List.length_drop, List.length_map, List.length_cons, List.length_nil]; omega
theorem doAll_length : (ws : List X) → (l : List V) → (z : Int) → (doAll l ws z).length ≤ l.length + ws.length
 | [], l, z => by simp [doAll]
 | x :: ws, l, z => by
  have h1 := doAll_length ws (writeL l x z) z
  have h2 := writeL_length l x z
  show (doAll (writeL l x z) ws z).length ≤ _
  rw [List.length_cons]; omega
theorem doAll_succ {l : List V} {ws : List X} {z : Int} {k : Nat} (hk : k < ws.length) : doAll l (ws.take (k + 1)) z = writeL (doAll l (ws.take k) z) ws[k] z := by
 unfold doAll
 rw [List.take_succ_eq_append_getElem hk, List.foldl_append]; rfl
theorem FitVs.write {l : List V} {x : X} {z : Int} (h : FitVs l) (hx : FitX x) (hz : FitI z) : FitVs (writeL l x z) := by
 have h1 : ∀ v ∈ l.map (endF x.k z), FitV v := by
  intro v hv
  obtain ⟨u, hu, rfl⟩ := List.mem_map.1 hv
  have := h u hu
  unfold endF endV
  obtain ⟨a1, a2, a3, a4, a5, a6, a7⟩ := this
  split
  ·
   split
   ·
    exact ⟨a1, a2, a3, a4, a5, hz.1, hz.2⟩
   ·
    exact ⟨a1, a2, a3, a4, a5, a6, a7⟩
  ·
   exact ⟨a1, a2, a3, a4, a5, a6, a7⟩
 unfold writeL
 split
 ·
  exact h1
 ·
  intro v hv
  simp only [List.mem_append, List.mem_singleton] at hv
  rcases hv with (hv | rfl) | hv
  ·
   exact h1 v (List.mem_of_mem_take hv)
  ·
   exact ⟨hx.1, hx.2.1, hx.2.2, hz.1, hz.2, by show (-9223372036854775808 : Int) ≤ 0; omega, by show (0 : Int) ≤ 9223372036854775807; omega⟩
  ·
   exact h1 v (List.mem_of_mem_drop hv)
theorem FitVs.doAll : {ws : List X} → {l : List V} → {z : Int} → FitVs l → FitXs ws → FitI z → FitVs (Go.Proofs.Ytheblejlmlfddaa.doAll l ws z)
 | [], l, z, h, _, _ => h
 | x :: ws, l, z, h, hx, hz => FitVs.doAll (ws := ws) (FitVs.write h (hx x (by simp)) hz) (fun r hr => hx r (by simp [hr])) hz
theorem fitI_small {z : Int} (h0 : 0 ≤ z) (h1 : z ≤ 40) : FitI (z + 1) := ⟨by omega, by omega⟩

/-- the call returns a history in new memory, and a word -/
def RetVB (w : World) (z : Int) (l : List V) (b : Bool) (e : Ending) (w' : World) : Prop := ∃ v, e = .returned (.tuple #[.agg #[.int .i64 z, v], .bool b]) ∧ OwnG w' w.heap.size v l ∧ Below w.heap.size w w'

end Go.Proofs.Ytheblejlmlfddaa

namespace Go.Proofs.Ytheblejlmlfddaa
open Go.RowKit
set_option linter.unusedVariables false
set_option maxRecDepth 100000

noncomputable def doB (z : Int) (l : List V) (ws : List X) : Bool := versB z l && writesB ws && versB (z + 1) (doAll l ws (z + 1))
noncomputable def doZ (z : Int) (l : List V) (ws : List X) : Int := if versB z l then (if doB z l ws then z + 1 else z) else 0
noncomputable def doL (z : Int) (l : List V) (ws : List X) : List V := if versB z l then (if doB z l ws then doAll l ws (z + 1) else l) else []
theorem do_bad {z : Int} {l : List V} {ws : List X} (h : versB z l = false) : doB z l ws = false ∧ doZ z l ws = 0 ∧ doL z l ws = [] := by
 unfold doZ doL doB; rw [h]; simp
theorem do_no {z : Int} {l : List V} {ws : List X} (h : versB z l = true) (hw : (writesB ws && versB (z + 1) (doAll l ws (z + 1))) = false) : doB z l ws = false ∧ doZ z l ws = z ∧ doL z l ws = l := by
 have e : doB z l ws = false := by unfold doB; rw [Bool.and_assoc, hw, Bool.and_false]
 refine ⟨e, ?_, ?_⟩
 ·
  unfold doZ; rw [h, e]; simp
 ·
  unfold doL; rw [h, e]; simp
theorem do_yes {z : Int} {l : List V} {ws : List X} (h : versB z l = true) (hw : writesB ws = true) (hd : versB (z + 1) (doAll l ws (z + 1)) = true) : doB z l ws = true ∧ doZ z l ws = z + 1 ∧ doL z l ws = doAll l ws (z + 1) := by
 have e : doB z l ws = true := by unfold doB; rw [h, hw, hd]; rfl
 refine ⟨e, ?_, ?_⟩
 ·
  unfold doZ; rw [h, e]; simp
 ·
  unfold doL; rw [h, e]; simp
theorem doL_len (z : Int) (l : List V) (ws : List X) (hl : l.length ≤ 1048576) : (doL z l ws).length ≤ 1048577 := by
 unfold doL
 split
 ·
  split
  ·
   rename_i h1 h2
   unfold doB at h2
   simp only [Bool.and_eq_true] at h2
   have := (versB_iff.1 h2.2).len
   omega
  ·
   omega
 ·
  simp

end Go.Proofs.Ytheblejlmlfddaa
