/- Chapter 3, plain mathematics: views, transactions, what one does in order. -/
import Derived.Test.YtheblejlmlfddaaM2d

namespace Go.Proofs.Ytheblejlmlfddaa
open Go.RowKit
set_option linter.unusedVariables false

/-- one write on rows -/
def viewF (l : List R) (x : X) : List R := if x.g then del x.k l else ins x.k x.n l
/-- rows with what one did -/
def viewL (rows : List R) (ws : List X) : List R := ws.foldl viewF rows
theorem viewL_succ (rows : List R) {ws : List X} {k : Nat} (hk : k < ws.length) : viewL rows (ws.take (k + 1)) = viewF (viewL rows (ws.take k)) ws[k] := by
 unfold viewL; rw [List.take_succ_eq_append_getElem hk, List.foldl_append]; rfl
theorem viewF_length (l : List R) (x : X) : (viewF l x).length ≤ l.length + 1 := by
 unfold viewF
 split
 ·
  rw [del_length]; split <;> omega
 ·
  rw [ins_length]; split <;> omega
theorem viewL_length : (ws : List X) → (rows : List R) → (viewL rows ws).length ≤ rows.length + ws.length
 | [], rows => Nat.le_refl _
 | x :: ws, rows => by
  show (viewL (viewF rows x) ws).length ≤ _
  have h1 := viewL_length ws (viewF rows x)
  have h2 := viewF_length rows x
  simp only [List.length_cons]
  omega
theorem FitR.viewF {l : List R} (h : FitR l) {x : X} (hx : FitX x) : FitR (viewF l x) := by
 unfold Go.Proofs.Ytheblejlmlfddaa.viewF
 split
 ·
  exact h.del x.k
 ·
  exact h.ins (fun r hr => by simp only [List.mem_singleton] at hr; subst hr; exact hx)
theorem FitR.viewL : {ws : List X} → {l : List R} → FitR l → FitXs ws → FitR (viewL l ws)
 | [], l, h, _ => h
 | x :: ws, l, h, hx => FitR.viewL (ws := ws) (h.viewF (hx x (by simp))) fun y hy => hx y (by simp [hy])
theorem viewF_srt {l : List R} (h : Srt l) (x : X) : Srt (viewF l x) := by
 unfold viewF
 split
 ·
  exact del_srt h
 ·
  exact ins_srt h
theorem viewL_srt : (ws : List X) → {l : List R} → Srt l → Srt (viewL l ws)
 | [], _, h => h
 | x :: ws, _, h => viewL_srt ws (viewF_srt h x)
theorem look_viewF {l : List R} (h : Srt l) (x : X) (k : ByteArray) : look k (viewF l x) = if k = x.k then (if x.g then none else some x.n) else look k l := by
 unfold viewF
 cases x.g
 ·
  simp only [Bool.false_eq_true, if_false]
  rw [look_ins k h]
 ·
  simp only [if_true]
  rw [look_del k h]
/-- what one sees under a key -/
theorem look_view {n : Int} {k : ByteArray} : (ws : List X) → AscW ws → {l : List R} → Srt l → (look k (viewL l ws) = some n ↔ (∃ x ∈ ws, x.g = false ∧ x.k = k ∧ x.n = n) ∨ ((¬ ∃ x ∈ ws, x.k = k) ∧ look k l = some n))
 | [], _, l, h => by unfold viewL; simp
 | x :: ws, ha, l, h => by
  have ha' := List.pairwise_cons.1 ha
  show look k (viewL (viewF l x) ws) = some n ↔ _
  rw [look_view ws ha'.2 (viewF_srt h x), look_viewF h]
  constructor
  ·
   rintro (⟨y, hy, hh⟩ | ⟨hn, hh⟩)
   ·
    exact .inl ⟨y, by simp [hy], hh⟩
   ·
    by_cases hk : k = x.k
    ·
     rw [if_pos hk] at hh
     cases hg : x.g
     ·
      rw [hg] at hh
      exact .inl ⟨x, by simp, hg, hk.symm, Option.some.inj hh⟩
     ·
      rw [hg] at hh; cases hh
    ·
     rw [if_neg hk] at hh
     refine .inr ⟨?_, hh⟩
     rintro ⟨y, hy, h4⟩
     rcases List.mem_cons.1 hy with rfl | hy
     ·
      exact hk h4.symm
     ·
      exact hn ⟨y, hy, h4⟩
  ·
   rintro (⟨y, hy, h3, h4, h5⟩ | ⟨hn, hh⟩)
   ·
    rcases List.mem_cons.1 hy with rfl | hy
    ·
     refine .inr ⟨?_, by rw [if_pos h4.symm, h3, ← h5]; rfl⟩
     rintro ⟨u, hu, hk⟩
     have := ha'.1 u hu
     rw [hk, h4, lt_irrefl] at this; cases this
    ·
     exact .inl ⟨y, hy, h3, h4, h5⟩
   ·
    have hk : k ≠ x.k := fun hk => hn ⟨x, by simp, hk.symm⟩
    rw [if_neg hk]
    exact .inr ⟨fun ⟨y, hy, h⟩ => hn ⟨y, by simp [hy], h⟩, hh⟩

/-- it is right -/
noncomputable def workB (z : Int) (l : List V) (a : Int) (ws : List X) : Bool := versB z l && decide (0 ≤ a) && decide (a ≤ z) && writesB ws && rowsB (viewL (atL l a) ws)
noncomputable def workRows (z : Int) (l : List V) (a : Int) (ws : List X) : List R := if workB z l a ws then viewL (atL l a) ws else []
structure WorkP (z : Int) (l : List V) (a : Int) (ws : List X) : Prop where
 vers : VersP z l
 at0 : 0 ≤ a
 at1 : a ≤ z
 wr : WritesP ws
 rows : RowsP (viewL (atL l a) ws)
theorem workB_iff {z : Int} {l : List V} {a : Int} {ws : List X} : workB z l a ws = true ↔ WorkP z l a ws := by
 unfold workB
 simp only [Bool.and_eq_true, decide_eq_true_eq, versB_iff, writesB_iff, rowsB_iff]
 exact ⟨fun ⟨⟨⟨⟨h1, h2⟩, h3⟩, h4⟩, h5⟩ => ⟨h1, h2, h3, h4, h5⟩, fun h => ⟨⟨⟨⟨h.vers, h.at0⟩, h.at1⟩, h.wr⟩, h.rows⟩⟩

/-- one thing more, in its place -/
def putS (x : X) (s : List X × Bool) (y : X) : List X × Bool :=
 let t : List X × Bool := if !s.2 && !lt y.k x.k then (s.1 ++ [x], true) else s
 if y.k.toList == x.k.toList then t else (t.1 ++ [y], t.2)
def putT (x : X) (ws : List X) : List X × Bool := ws.foldl (putS x) ([], false)
def putXs (ws : List X) (x : X) : List X := if (putT x ws).2 then (putT x ws).1 else (putT x ws).1 ++ [x]
theorem putT_succ (x : X) {ws : List X} {k : Nat} (hk : k < ws.length) : putT x (ws.take (k + 1)) = putS x (putT x (ws.take k)) ws[k] := by
 unfold putT; rw [List.take_succ_eq_append_getElem hk, List.foldl_append]; rfl
theorem putS_length (x : X) (s : List X × Bool) (y : X) : (putS x s y).1.length ≤ s.1.length + 2 := by
 unfold putS
 dsimp only
 split <;> split <;> simp
theorem putT_length (x : X) : (ws : List X) → (s : List X × Bool) → (ws.foldl (putS x) s).1.length ≤ s.1.length + 2 * ws.length
 | [], s => by simp
 | y :: ws, s => by
  rw [List.foldl_cons]
  have h1 := putT_length x ws (putS x s y)
  have h2 := putS_length x s y
  simp only [List.length_cons]
  omega
theorem putXs_length (ws : List X) (x : X) : (putXs ws x).length ≤ 2 * ws.length + 1 := by
 have h := putT_length x ws ([], false)
 unfold putXs
 split
 ·
  simp only [List.length_nil] at h; unfold putT; omega
 ·
  simp only [List.length_nil] at h; unfold putT; rw [List.length_append, List.length_singleton]; omega
theorem putT_low {x : X} : (ws : List X) → (s : List X) → (∀ y ∈ ws, lt y.k x.k = true) → ws.foldl (putS x) (s, false) = (s ++ ws, false)
 | [], s, _ => by simp
 | y :: ws, s, h => by
  have hy := h y (by simp)
  have hne : (y.k.toList == x.k.toList) = false := str_ne fun e => by rw [e, lt_irrefl] at hy; cases hy
  rw [List.foldl_cons]
  have e : putS x (s, false) y = (s ++ [y], false) := by unfold putS; simp [hy, hne]
  rw [e, putT_low ws _ fun u hu => h u (by simp [hu])]
  simp
theorem putT_high {x : X} : (ws : List X) → (s : List X) → (∀ y ∈ ws, lt x.k y.k = true) → ws.foldl (putS x) (s, true) = (s ++ ws, true)
 | [], s, _ => by simp
 | y :: ws, s, h => by
  have hy := h y (by simp)
  have hne : (y.k.toList == x.k.toList) = false := str_ne fun e => by rw [e, lt_irrefl] at hy; cases hy
  rw [List.foldl_cons]
  have e : putS x (s, true) y = (s ++ [y], true) := by unfold putS; simp [hne]
  rw [e, putT_high ws _ fun u hu => h u (by simp [hu])]
  simp
/-- in an ordered list: what is lower, it, what is higher -/
theorem putXs_eq {ws : List X} (h : AscW ws) (x : X) : ∃ lo hi, putXs ws x = lo ++ [x] ++ hi ∧ (∀ y, y ∈ lo ↔ y ∈ ws ∧ lt y.k x.k = true) ∧ (∀ y, y ∈ hi ↔ y ∈ ws ∧ lt x.k y.k = true) ∧ AscW lo ∧ AscW hi := by
 obtain ⟨lo, rest, hws, hlo, hrest⟩ : ∃ lo rest, ws = lo ++ rest ∧ (∀ y ∈ lo, lt y.k x.k = true) ∧ (∀ y ∈ rest, lt y.k x.k = false) := by
  induction ws with
  | nil => exact ⟨[], [], rfl, by simp, by simp⟩
  | cons y ws ih =>
   have h' := List.pairwise_cons.1 h
   obtain ⟨lo, rest, e, h1, h2⟩ := ih h'.2
   cases hy : lt y.k x.k
   ·
    refine ⟨[], y :: ws, rfl, by simp, ?_⟩
    intro u hu
    rcases List.mem_cons.1 hu with rfl | hu
    ·
     exact hy
    ·
     cases hux : lt u.k x.k
     ·
      rfl
     ·
      have := lt_trans (h'.1 u hu) hux
      rw [hy] at this; cases this
   ·
    refine ⟨y :: lo, rest, by rw [e]; rfl, ?_, h2⟩
    intro u hu
    rcases List.mem_cons.1 hu with rfl | hu
    ·
     exact hy
    ·
     exact h1 u hu
 subst hws
 have hp := List.pairwise_append.1 h
 have hT : putT x (lo ++ rest) = rest.foldl (putS x) (lo, false) := by
  unfold putT; rw [List.foldl_append, putT_low lo [] hlo]; simp
 cases rest with
 | nil =>
  refine ⟨lo, [], ?_, ?_, ?_, hp.1, List.Pairwise.nil⟩
  ·
   unfold putXs; rw [hT]; simp
  ·
   intro y; simp; exact fun hy => hlo y hy
  ·
   intro y
   constructor
   ·
    intro hy; simp at hy
   ·
    rintro ⟨hy, hx⟩
    have h1 := hlo y (by simpa using hy)
    rw [lt_asymm hx] at h1; cases h1
 | cons y rest =>
  have hpr := List.pairwise_cons.1 hp.2.1
  have hy := hrest y (by simp)
  by_cases hk : y.k = x.k
  ·
   have hhi : ∀ u ∈ rest, lt x.k u.k = true := fun u hu => by rw [← hk]; exact hpr.1 u hu
   have e : putS x (lo, false) y = (lo ++ [x], true) := by
    have hy' : lt x.k x.k = false := lt_irrefl _
    unfold putS; rw [hk, hy']; simp
   refine ⟨lo, rest, ?_, ?_, ?_, hp.1, hpr.2⟩
   ·
    unfold putXs; rw [hT, List.foldl_cons, e, putT_high rest _ hhi]; simp
   ·
    intro u
    constructor
    ·
     intro hu; exact ⟨by simp [hu], hlo u hu⟩
    ·
     rintro ⟨hu, hlt⟩
     rcases List.mem_append.1 hu with hu | hu
     ·
      exact hu
     ·
      rw [hrest u hu] at hlt; cases hlt
   ·
    intro u
    constructor
    ·
     intro hu; exact ⟨by simp [hu], hhi u hu⟩
    ·
     rintro ⟨hu, hlt⟩
     rcases List.mem_append.1 hu with hu | hu
     ·
      rw [lt_asymm (hlo u hu)] at hlt; cases hlt
     ·
      rcases List.mem_cons.1 hu with rfl | hu
      ·
       rw [hk, lt_irrefl] at hlt; cases hlt
      ·
       exact hu
  ·
   have hyx : lt x.k y.k = true := gt_of hy hk
   have hhi : ∀ u ∈ rest, lt x.k u.k = true := fun u hu => lt_trans hyx (hpr.1 u hu)
   have hne : (y.k.toList == x.k.toList) = false := str_ne hk
   have e : putS x (lo, false) y = (lo ++ [x] ++ [y], true) := by unfold putS; simp [hy, hne]
   refine ⟨lo, y :: rest, ?_, ?_, ?_, hp.1, hp.2.1⟩
   ·
    unfold putXs; rw [hT, List.foldl_cons, e, putT_high rest _ hhi]; simp
   ·
    intro u
    constructor
    ·
     intro hu; exact ⟨by simp [hu], hlo u hu⟩
    ·
     rintro ⟨hu, hlt⟩
     rcases List.mem_append.1 hu with hu | hu
     ·
      exact hu
     ·
      rw [hrest u hu] at hlt; cases hlt
   ·
    intro u
    constructor
    ·
     intro hu
     refine ⟨by simp [hu], ?_⟩
     rcases List.mem_cons.1 hu with rfl | hu
     ·
      exact hyx
     ·
      exact hhi u hu
    ·
     rintro ⟨hu, hlt⟩
     rcases List.mem_append.1 hu with hu | hu
     ·
      rw [lt_asymm (hlo u hu)] at hlt; cases hlt
     ·
      exact hu
theorem putXs_asc {ws : List X} (h : AscW ws) (x : X) : AscW (putXs ws x) := by
 obtain ⟨lo, hi, e, h1, h2, h3, h4⟩ := putXs_eq h x
 rw [e]
 unfold AscW
 rw [List.pairwise_append, List.pairwise_append]
 refine ⟨⟨h3, by simp, fun a ha b hb => by rw [List.mem_singleton] at hb; subst hb; exact ((h1 a).1 ha).2⟩, h4, fun a ha b hb => ?_⟩
 have hxb := ((h2 b).1 hb).2
 rcases List.mem_append.1 ha with ha | ha
 ·
  exact lt_trans ((h1 a).1 ha).2 hxb
 ·
  rw [List.mem_singleton] at ha; subst ha; exact hxb
theorem mem_putXs {ws : List X} (h : AscW ws) (x y : X) : y ∈ putXs ws x ↔ y = x ∨ (y ∈ ws ∧ y.k ≠ x.k) := by
 obtain ⟨lo, hi, e, h1, h2, h3, h4⟩ := putXs_eq h x
 rw [e]
 simp only [List.mem_append, List.mem_singleton]
 rw [h1, h2]
 constructor
 ·
  rintro ((⟨h, hl⟩ | h) | ⟨h, hl⟩)
  ·
   exact .inr ⟨h, lt_ne hl⟩
  ·
   exact .inl h
  ·
   exact .inr ⟨h, (lt_ne hl).symm⟩
 ·
  rintro (h | ⟨h, hne⟩)
  ·
   exact .inl (.inr h)
  ·
   cases hl : lt y.k x.k
   ·
    exact .inr ⟨h, gt_of hl hne⟩
   ·
    exact .inl (.inl ⟨h, rfl⟩)
theorem mem_putS {x : X} {s : List X × Bool} {y u : X} (h : u ∈ (putS x s y).1) : u ∈ s.1 ∨ u = x ∨ u = y := by
 unfold putS at h
 dsimp only at h
 split at h
 ·
  split at h
  ·
   rcases List.mem_append.1 h with h | h
   ·
    exact .inl h
   ·
    exact .inr (.inl (List.mem_singleton.1 h))
  ·
   exact .inl h
 ·
  rcases List.mem_append.1 h with h | h
  ·
   split at h
   ·
    rcases List.mem_append.1 h with h | h
    ·
     exact .inl h
    ·
     exact .inr (.inl (List.mem_singleton.1 h))
   ·
    exact .inl h
  ·
   exact .inr (.inr (List.mem_singleton.1 h))
theorem FitXs.putXs {ws : List X} (h : FitXs ws) {x : X} (hfx : FitX x) : FitXs (putXs ws x) := by
 have key : ∀ (ws : List X) (s : List X × Bool), FitXs ws → FitXs s.1 → FitXs (ws.foldl (putS x) s).1 := by
  intro ws
  induction ws with
  | nil => intro s _ hs; exact hs
  | cons y ws ih =>
   intro s hw hs
   rw [List.foldl_cons]
   refine ih _ (fun u hu => hw u (by simp [hu])) ?_
   intro u hu
   rcases mem_putS hu with h | rfl | rfl
   ·
    exact hs u h
   ·
    exact hfx
   ·
    exact hw u (by simp)
 have h1 := key ws ([], false) h (fun u hu => by simp at hu)
 unfold Go.Proofs.Ytheblejlmlfddaa.putXs
 split
 ·
  exact h1
 ·
  intro u hu
  rcases List.mem_append.1 hu with hu | hu
  ·
   exact h1 u hu
  ·
   rw [List.mem_singleton] at hu; subst hu; exact hfx

/-! how it ends -/
noncomputable def wputC (z : Int) (l : List V) (a : Int) (ws : List X) (x : X) : Int :=
 if workB z l a ws then (if writesB [x] then (if a < lastL l x.k then 2 else if workB z l a (putXs ws x) then 0 else 3) else 1) else 1
noncomputable def wputA (z : Int) (l : List V) (a : Int) (ws : List X) : Int := if workB z l a ws then a else 0
noncomputable def wputW (z : Int) (l : List V) (a : Int) (ws : List X) (x : X) : List X := if workB z l a ws then (if wputC z l a ws x = 0 then putXs ws x else ws) else []
/-- some key was written behind the time -/
def lateB (l : List V) (a : Int) (ws : List X) : Bool := ws.any fun x => decide (a < lastL l x.k)
noncomputable def endC (z : Int) (l : List V) (a : Int) (ws : List X) : Int :=
 if workB z l a ws then (if lateB l a ws then 2 else if ws.length = 0 then 0 else if doB z l ws then 0 else 3) else 1
noncomputable def endZ (z : Int) (l : List V) (a : Int) (ws : List X) : Int := if workB z l a ws then (if lateB l a ws || decide (ws.length = 0) then z else doZ z l ws) else 0
noncomputable def endL (z : Int) (l : List V) (a : Int) (ws : List X) : List V := if workB z l a ws then (if lateB l a ws || decide (ws.length = 0) then l else doL z l ws) else []

end Go.Proofs.Ytheblejlmlfddaa
