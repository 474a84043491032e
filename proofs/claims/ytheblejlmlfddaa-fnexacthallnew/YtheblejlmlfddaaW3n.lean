/- Chapter 3, plain mathematics: what the laws say of transactions. -/
import Derived.Test.YtheblejlmlfddaaW3m
namespace Go.Proofs.Ytheblejlmlfddaa
open Go.RowKit
set_option linter.unusedVariables false

theorem ascW_ext : {a b : List X} → AscW a → AscW b → (∀ y, y ∈ a ↔ y ∈ b) → a = b
 | [], [], _, _, _ => rfl
 | [], y :: b, _, _, h => by have := (h y).2 (by simp); simp at this
 | y :: a, [], _, _, h => by have := (h y).1 (by simp); simp at this
 | x :: a, y :: b, ha, hb, h => by
  have ha' := List.pairwise_cons.1 ha
  have hb' := List.pairwise_cons.1 hb
  have e : x = y := by
   rcases List.mem_cons.1 ((h x).1 (by simp)) with e | hx
   ·
    exact e
   ·
    rcases List.mem_cons.1 ((h y).2 (by simp)) with e | hy
    ·
     exact e.symm
    ·
     have h1 := hb'.1 x hx
     have h2 := ha'.1 y hy
     rw [lt_asymm h1] at h2; cases h2
  subst e
  have : a = b := ascW_ext ha'.2 hb'.2 fun u => by
   constructor
   ·
    intro hu
    rcases List.mem_cons.1 ((h u).1 (by simp [hu])) with e | hu'
    ·
     subst e; have := ha'.1 u hu; rw [lt_irrefl] at this; cases this
    ·
     exact hu'
   ·
    intro hu
    rcases List.mem_cons.1 ((h u).2 (by simp [hu])) with e | hu'
    ·
     subst e; have := hb'.1 u hu; rw [lt_irrefl] at this; cases this
    ·
     exact hu'
  rw [this]
/-- what is done last to a key is what counts -/
theorem put_put {ws : List X} (h : AscW ws) {x y : X} (e : y.k = x.k) : putXs (putXs ws x) y = putXs ws y := by
 have h1 := putXs_asc h x
 refine ascW_ext (putXs_asc h1 y) (putXs_asc h y) fun u => ?_
 rw [mem_putXs h1, mem_putXs h, mem_putXs h]
 constructor
 ·
  rintro (h | ⟨h | ⟨h, h2⟩, h3⟩)
  ·
   exact .inl h
  ·
   subst h; exact absurd e.symm h3
  ·
   exact .inr ⟨h, h3⟩
 ·
  rintro (h | ⟨h, h3⟩)
  ·
   exact .inl h
  ·
   exact .inr ⟨.inr ⟨h, by rw [← e]; exact h3⟩, h3⟩
theorem look_put {ws : List X} (h : AscW ws) {rows : List R} (hs : Srt rows) (x : X) (k : ByteArray) : look k (viewL rows (putXs ws x)) = if k = x.k then (if x.g then none else some x.n) else look k (viewL rows ws) := by
 have h1 := putXs_asc h x
 refine look_ext2 fun n => ?_
 rw [look_view _ h1 hs]
 by_cases hk : k = x.k
 ·
  rw [if_pos hk]
  constructor
  ·
   rintro (⟨y, hy, hg, hyk, hn⟩ | ⟨hno, _⟩)
   ·
    rcases (mem_putXs h x y).1 hy with rfl | ⟨_, hne⟩
    ·
     rw [hg, hn]; rfl
    ·
     exact absurd (hyk.trans hk) hne
   ·
    exact absurd ⟨x, (mem_putXs h x x).2 (.inl rfl), hk.symm⟩ hno
  ·
   intro he
   cases hg : x.g
   ·
    rw [hg] at he
    exact .inl ⟨x, (mem_putXs h x x).2 (.inl rfl), hg, hk.symm, Option.some.inj he⟩
   ·
    rw [hg] at he; cases he
 ·
  rw [if_neg hk, look_view _ h hs]
  constructor
  ·
   rintro (⟨y, hy, hg, hyk, hn⟩ | ⟨hno, hl⟩)
   ·
    rcases (mem_putXs h x y).1 hy with rfl | ⟨hyw, _⟩
    ·
     exact absurd hyk.symm hk
    ·
     exact .inl ⟨y, hyw, hg, hyk, hn⟩
   ·
    refine .inr ⟨fun ⟨y, hy, hyk⟩ => hno ⟨y, (mem_putXs h x y).2 (.inr ⟨hy, by rw [hyk]; exact hk⟩), hyk⟩, hl⟩
  ·
   rintro (⟨y, hy, hg, hyk, hn⟩ | ⟨hno, hl⟩)
   ·
    exact .inl ⟨y, (mem_putXs h x y).2 (.inr ⟨hy, by rw [hyk]; exact hk⟩), hg, hyk, hn⟩
   ·
    refine .inr ⟨fun ⟨y, hy, hyk⟩ => ?_, hl⟩
    rcases (mem_putXs h x y).1 hy with rfl | ⟨hyw, _⟩
    ·
     exact hk hyk.symm
    ·
     exact hno ⟨y, hyw, hyk⟩
/-- all other keys one sees as before -/
theorem put_cut {ws : List X} (h : AscW ws) {rows : List R} (hs : Srt rows) (x : X) : del x.k (viewL rows (putXs ws x)) = del x.k (viewL rows ws) := by
 have s1 := viewL_srt (putXs ws x) hs
 have s2 := viewL_srt ws hs
 refine srt_ext (del_srt s1) (del_srt s2) fun k => ?_
 rw [look_del k s1, look_del k s2, look_put h hs]
 by_cases hk : k = x.k
 ·
  rw [if_pos hk, if_pos hk]
 ·
  rw [if_neg hk, if_neg hk, if_neg hk]
theorem WorkP.srt {z : Int} {l : List V} {a : Int} {ws : List X} (h : WorkP z l a ws) : Srt (atL l a) := (at_rows h.vers h.at0 h.at1).srt
theorem workRows_ok {z : Int} {l : List V} {a : Int} {ws : List X} (h : WorkP z l a ws) : workRows z l a ws = viewL (atL l a) ws := by unfold workRows; rw [workB_iff.2 h]; rfl
theorem put_fine {z : Int} {l : List V} {a : Int} {ws : List X} {x : X} (h : wputC z l a ws x = 0) : WorkP z l a ws ∧ writesB [x] = true ∧ lastL l x.k ≤ a ∧ WorkP z l a (putXs ws x) ∧ wputA z l a ws = a ∧ wputW z l a ws x = putXs ws x := by
 have h0 := h
 unfold wputC at h
 split at h
 ·
  rename_i h1
  split at h
  ·
   rename_i h2
   split at h
   ·
    cases h
   ·
    rename_i h3
    split at h
    ·
     rename_i h4
     exact ⟨workB_iff.1 h1, h2, by omega, workB_iff.1 h4, by unfold wputA; rw [h1]; rfl, by unfold wputW; rw [h1, h0]; rfl⟩
    ·
     cases h
  ·
   cases h
 ·
  cases h
theorem put_fine_of {z : Int} {l : List V} {a : Int} {ws : List X} {x : X} (h1 : WorkP z l a ws) (h2 : writesB [x] = true) (h3 : lastL l x.k ≤ a) (h4 : WorkP z l a (putXs ws x)) : wputC z l a ws x = 0 := by
 unfold wputC
 rw [workB_iff.2 h1, h2, workB_iff.2 h4]
 simp only [if_true]
 rw [if_neg (by omega)]
theorem put_not {z : Int} {l : List V} {a : Int} {ws : List X} {x : X} (h : wputC z l a ws x ≠ 0) : (workB z l a ws = true ∧ wputA z l a ws = a ∧ wputW z l a ws x = ws) ∨ (workB z l a ws = false ∧ wputA z l a ws = 0 ∧ wputW z l a ws x = []) := by
 cases hk : workB z l a ws
 ·
  exact .inr ⟨rfl, by unfold wputA; rw [hk]; rfl, by unfold wputW; rw [hk]; rfl⟩
 ·
  exact .inl ⟨rfl, by unfold wputA; rw [hk]; rfl, by unfold wputW; rw [hk, if_neg h]; rfl⟩

/-- whatever others do meanwhile, one sees the same -/
theorem sees_do {z : Int} {l : List V} {a : Int} {ws ns : List X} (h : WorkP z l a ws) (hd : doB z l ns = true) : WorkP (z + 1) (doAll l ns (z + 1)) a ws ∧ workRows (z + 1) (doAll l ns (z + 1)) a ws = workRows z l a ws := by
 obtain ⟨p1, p2, p3, -, -⟩ := do_parts hd
 have e : atL (doAll l ns (z + 1)) a = atL l a := at_doAll (by have := h.at1; omega) ns l
 have hW : WorkP (z + 1) (doAll l ns (z + 1)) a ws := ⟨p3, h.at0, by have := h.at1; omega, h.wr, by rw [e]; exact h.rows⟩
 exact ⟨hW, by rw [workRows_ok hW, workRows_ok h, e]⟩
/-- the last times only grow -/
theorem last_mono {z : Int} {l : List V} {ns : List X} (hd : doB z l ns = true) (key : ByteArray) : lastL l key ≤ lastL (doAll l ns (z + 1)) key := by
 obtain ⟨p1, p2, p3, -, -⟩ := do_parts hd
 have hz := p1.now0
 refine last_le.2 ⟨last_0 _ _, fun x hx hk => ?_⟩
 have hM := (mem_doAll (y := endAll ns (z + 1) x) (show z + 1 ≠ 0 by omega) ns p2.ascW l).2 (.inl ⟨x, hx, rfl⟩)
 have hb := verB_f (versP_mem p1 hx)
 by_cases hw : ∃ y ∈ ns, y.k = x.k
 ·
  rw [endAll_yes hw] at hM
  have h1 := last_ge hM ((endV_k _ _).trans hk)
  unfold endV at h1
  split at h1
  ·
   rename_i h0; exact ⟨h1.1, by rw [h0]; exact last_0 _ _⟩
  ·
   exact h1
 ·
  rw [endAll_no hw] at hM
  exact last_ge hM hk
theorem late_mono {z : Int} {l : List V} {a : Int} {ws ns : List X} (hd : doB z l ns = true) (h : lateB l a ws = true) : lateB (doAll l ns (z + 1)) a ws = true := by
 unfold lateB at *
 rw [List.any_eq_true] at *
 obtain ⟨x, hx, hd'⟩ := h
 refine ⟨x, hx, ?_⟩
 rw [decide_eq_true_eq] at *
 have := last_mono hd x.k
 omega
theorem end_late {z : Int} {l : List V} {a : Int} {ws : List X} : endC z l a ws = 2 ↔ WorkP z l a ws ∧ lateB l a ws = true := by
 unfold endC
 constructor
 ·
  intro h
  split at h
  ·
   rename_i h1
   split at h
   ·
    rename_i h2; exact ⟨workB_iff.1 h1, h2⟩
   ·
    split at h
    ·
     cases h
    ·
     split at h <;> cases h
  ·
   cases h
 ·
  rintro ⟨h1, h2⟩
  rw [workB_iff.2 h1, h2]; rfl
/-- how a commit that is fine ends -/
theorem end_fine {z : Int} {l : List V} {a : Int} {ws : List X} (h : endC z l a ws = 0) : WorkP z l a ws ∧ lateB l a ws = false ∧ ((ws = [] ∧ endZ z l a ws = z ∧ endL z l a ws = l) ∨ (ws ≠ [] ∧ doB z l ws = true ∧ endZ z l a ws = z + 1 ∧ endL z l a ws = doAll l ws (z + 1))) := by
 unfold endC at h
 split at h
 ·
  rename_i h1
  split at h
  ·
   cases h
  ·
   rename_i h2
   have h2 : lateB l a ws = false := by simpa using h2
   refine ⟨workB_iff.1 h1, h2, ?_⟩
   unfold endZ endL
   rw [h1, h2]
   split at h
   ·
    rename_i h3
    have e : ws = [] := List.eq_nil_of_length_eq_zero h3
    subst e
    exact .inl ⟨rfl, rfl, rfl⟩
   ·
    rename_i h3
    split at h
    ·
     rename_i h4
     obtain ⟨-, -, -, e1, e2⟩ := do_parts h4
     refine .inr ⟨fun e => h3 (by rw [e]; rfl), h4, ?_, ?_⟩
     ·
      rw [decide_eq_false h3]; simpa using e1
     ·
      rw [decide_eq_false h3]; simpa using e2
    ·
     cases h
 ·
  cases h
/-- the last time of any key, behind what is done: now, if it was there or is put -/
theorem last_done {z : Int} {l : List V} {ws : List X} (h : doB z l ws = true) {key : ByteArray} (hx : ∃ x ∈ ws, x.k = key ∧ (getB (atL l z) key = true ∨ x.g = false)) : lastL (doAll l ws (z + 1)) key = z + 1 := by
 obtain ⟨p1, p2, p3, -, -⟩ := do_parts h
 have hz := p1.now0
 have hr := rowsB_iff.2 (at_rows p1 hz (Int.le_refl z))
 obtain ⟨x, hx, hxk, hor⟩ := hx
 have hM := fun y => mem_doAll (y := y) (show z + 1 ≠ 0 by omega) ws p2.ascW l
 have h1 := last_now p3 key
 have h2 : z + 1 ≤ lastL (doAll l ws (z + 1)) key := by
  rcases hor with hg | hg
  ·
   rw [getB_eq, hr, Bool.true_and] at hg
   obtain ⟨n, hl⟩ := look_some_of hg
   obtain ⟨u, hu, huv, huk, hun⟩ := (look_at_iff p1 hz (Int.le_refl z) key n).1 hl
   have hb := verB_f (versP_mem p1 hu)
   have hut : u.t = 0 := by
    unfold visB at huv
    simp only [Bool.and_eq_true, Bool.or_eq_true, decide_eq_true_eq] at huv
    omega
   have he : endAll ws (z + 1) u = ⟨u.k, u.n, u.f, z + 1⟩ := by
    rw [endAll_yes ⟨x, hx, by rw [hxk, huk]⟩]; unfold endV; rw [if_pos hut]
   exact (last_ge ((hM _).2 (.inl ⟨u, hu, he.symm⟩)) huk).2
  ·
   exact (last_ge ((hM _).2 (.inr ⟨x, hx, hg, rfl⟩)) hxk).1
 omega
/-- if nobody did anything meanwhile all see just what one saw -/
theorem end_rows {z : Int} {l : List V} {ws : List X} (h : doB z l ws = true) (hw : WorkP z l z ws) : versAt (z + 1) (doAll l ws (z + 1)) (z + 1) = workRows z l z ws := by
 obtain ⟨p1, p2, p3, -, -⟩ := do_parts h
 have hz := p1.now0
 rw [versAt_ok (versB_yes p3) (by omega) (Int.le_refl _), workRows_ok hw]
 refine srt_ext (at_rows p3 (show 0 ≤ z + 1 by omega) (Int.le_refl _)).srt (viewL_srt ws hw.srt) fun k => look_ext2 fun n => ?_
 rw [look_do h, look_view ws p2.ascW hw.srt]
/-- an empty transaction -/
theorem view_nil (rows : List R) : viewL rows [] = rows := rfl
theorem new_ok {z : Int} {l : List V} (h : VersP z l) : WorkP z l z [] := ⟨h, h.now0, Int.le_refl z, ⟨by simp, fun i hi => by simp at hi, fun i hi => by simp at hi⟩, by rw [view_nil]; exact at_rows h h.now0 (Int.le_refl z)⟩
/-- a key taken back: it is seen no more, and the writes are as many -/
theorem undo_put {z : Int} {l : List V} {a : Int} {ws : List X} {x : X} (h : wputC z l a ws x = 0) : wputC z l a (putXs ws x) ⟨x.k, 0, true⟩ = 0 ∧ look x.k (viewL (atL l a) (putXs (putXs ws x) ⟨x.k, 0, true⟩)) = none ∧ (putXs (putXs ws x) ⟨x.k, 0, true⟩).length = (putXs ws x).length := by
 obtain ⟨p1, p2, p3, p4, -, -⟩ := put_fine h
 have ha := p1.wr.ascW
 have ha1 := putXs_asc ha x
 have e : putXs (putXs ws x) ⟨x.k, 0, true⟩ = putXs ws ⟨x.k, 0, true⟩ := put_put ha rfl
 have hlk := look_put ha p1.srt (⟨x.k, 0, true⟩ : X)
 have hlen : (putXs ws (⟨x.k, 0, true⟩ : X)).length = (putXs ws x).length := by
  obtain ⟨lo, hi, e1, h1, h2, h3, h4⟩ := putXs_eq ha x
  obtain ⟨lo', hi', e1', h1', h2', h3', h4'⟩ := putXs_eq ha (⟨x.k, 0, true⟩ : X)
  have el : lo = lo' := ascW_ext h3 h3' fun y => by rw [h1, h1']
  have eh : hi = hi' := ascW_ext h4 h4' fun y => by rw [h2, h2']
  rw [e1, e1', el, eh]; simp
 have hkx : keyB x.k = true := by
  have := (writesB_iff.1 p2).each 0 (by simp)
  unfold writeB at this
  simp only [Bool.and_eq_true] at this
  exact this.1.1
 have hw1 : writesB [(⟨x.k, 0, true⟩ : X)] = true := writesB_iff.2 ⟨by simp, fun i hi => by
  have h0 : i = 0 := by simpa using hi
  subst h0
  show writeB ⟨x.k, 0, true⟩ = true
  unfold writeB
  rw [hkx]; rfl, fun i hi => by simp at hi⟩
 have hasc := putXs_asc ha (⟨x.k, 0, true⟩ : X)
 have hWr : WritesP (putXs ws (⟨x.k, 0, true⟩ : X)) := by
  refine ⟨by rw [hlen]; exact p4.wr.len, fun i hi => ?_, fun i hi => (List.pairwise_iff_getElem.1 hasc) i (i + 1) (by omega) hi (by omega)⟩
  rcases (mem_putXs ha _ _).1 (List.getElem_mem hi) with e | ⟨hm, _⟩
  ·
   rw [e]; exact (writesB_iff.1 hw1).each 0 (by simp)
  ·
   obtain ⟨j, hj, e⟩ := List.getElem_of_mem hm
   rw [← e]; exact p1.wr.each j hj
 have hS := viewL_srt (putXs ws (⟨x.k, 0, true⟩ : X)) p1.srt
 have hrows : RowsP (viewL (atL l a) (putXs ws (⟨x.k, 0, true⟩ : X))) := by
  have hv := rowsP_iff.1 p4.rows
  refine rowsP_iff.2 ⟨Nat.le_trans (srt_len hS (viewL_srt (putXs ws x) p1.srt) fun k hk => ?_) hv.1, fun r hr => ?_, hS⟩
  ·
   rw [hlk] at hk
   rw [look_put ha p1.srt]
   by_cases he : k = x.k
   ·
    rw [if_pos he] at hk; cases hk
   ·
    rw [if_neg he] at hk ⊢; exact hk
  ·
   have h1 := mem_look hS hr
   rw [hlk] at h1
   by_cases he : r.1 = x.k
   ·
    rw [if_pos he] at h1; cases h1
   ·
    rw [if_neg he] at h1
    exact (rowsP_iff.1 p1.rows).2.1 _ (look_mem h1)
 have hW : WorkP z l a (putXs ws (⟨x.k, 0, true⟩ : X)) := ⟨p1.vers, p1.at0, p1.at1, hWr, hrows⟩
 rw [e]
 refine ⟨put_fine_of p4 hw1 p3 (by rw [e]; exact hW), by rw [hlk, if_pos rfl]; rfl, hlen⟩

end Go.Proofs.Ytheblejlmlfddaa
