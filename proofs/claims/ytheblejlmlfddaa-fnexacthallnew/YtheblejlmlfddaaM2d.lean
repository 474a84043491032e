/- Chapter 2, plain mathematics: the past, the last times, what is forgotten, what stands now. -/
import Derived.Test.YtheblejlmlfddaaB7
import Derived.Test.YtheblejlmlfddaaA4
namespace Go.Proofs.Ytheblejlmlfddaa
open Go.RowKit
set_option linter.unusedVariables false

/-! the past -/
theorem vis_endF {key : ByteArray} {now t : Int} (v : V) (ht : t < now) : visB t (endF key now v) = visB t v := by
 unfold endF endV
 split
 ·
  split
  ·
   rename_i h0
   unfold visB
   rw [Bool.eq_iff_iff]
   simp only [Bool.and_eq_true, Bool.or_eq_true, decide_eq_true_eq]
   omega
  ·
   rfl
 ·
  rfl
theorem row_endF (key : ByteArray) (now : Int) (v : V) : rowOf (endF key now v) = rowOf v := by
 unfold endF endV
 split
 ·
  split <;> rfl
 ·
  rfl
theorem at_endF {key : ByteArray} {now t : Int} (ht : t < now) : (l : List V) → atL (l.map (endF key now)) t = atL l t
 | [] => rfl
 | v :: l => by
  have ih := at_endF (key := key) ht l
  unfold atL at *
  rw [List.map_cons, List.filter_cons, List.filter_cons, vis_endF v ht]
  split
  ·
   rw [List.map_cons, List.map_cons, ih, row_endF]
  ·
   exact ih
theorem at_write {now t : Int} (ht : t < now) (l : List V) (x : X) : atL (writeL l x now) t = atL l t := by
 unfold writeL
 split
 ·
  exact at_endF ht l
 ·
  have hn : visB t (⟨x.k, x.n, now, 0⟩ : V) = false := by
   unfold visB
   rw [decide_eq_false (show ¬ (now ≤ t) from by omega)]; rfl
  rw [← at_endF (key := x.k) ht l]
  unfold atL
  rw [List.filter_append, List.filter_append, List.filter_cons_of_neg (by simp [hn]), List.filter_nil, List.append_nil, ← List.filter_append, List.take_append_drop]
theorem at_doAll {now t : Int} (ht : t < now) : (ws : List X) → (l : List V) → atL (doAll l ws now) t = atL l t
 | [], l => rfl
 | x :: ws, l => by
  show atL (doAll (writeL l x now) ws now) t = _
  rw [at_doAll ht ws, at_write ht]
theorem do_parts {z : Int} {l : List V} {ws : List X} (h : doB z l ws = true) : VersP z l ∧ WritesP ws ∧ VersP (z + 1) (doAll l ws (z + 1)) ∧ doZ z l ws = z + 1 ∧ doL z l ws = doAll l ws (z + 1) := by
 unfold doB at h
 simp only [Bool.and_eq_true] at h
 obtain ⟨⟨h1, h2⟩, h3⟩ := h
 obtain ⟨e1, e2, e3⟩ := do_yes h1 h2 h3
 exact ⟨versB_iff.1 h1, writesB_iff.1 h2, versB_iff.1 h3, e2, e3⟩
theorem do_false {z : Int} {l : List V} {ws : List X} (h : doB z l ws = false) : (versB z l = true ∧ doZ z l ws = z ∧ doL z l ws = l) ∨ (versB z l = false ∧ doZ z l ws = 0 ∧ doL z l ws = []) := by
 cases hv : versB z l
 ·
  exact .inr ⟨rfl, (do_bad hv).2⟩
 ·
  refine .inl ⟨rfl, ?_⟩
  unfold doZ doL
  rw [hv, h]
  simp
theorem two_do {z : Int} {l : List V} {ws ns : List X} (h : doB z l ws = true) (h2 : doB (z + 1) (doAll l ws (z + 1)) ns = true) :
  doZ (z + 1) (doAll l ws (z + 1)) ns = z + 2 ∧ versAt (z + 2) (doL (z + 1) (doAll l ws (z + 1)) ns) (z + 1) = versAt (z + 1) (doAll l ws (z + 1)) (z + 1) ∧ (doL (z + 1) (doAll l ws (z + 1)) ns).length ≤ l.length + ws.length + ns.length := by
 obtain ⟨p1, p2, p3, -, -⟩ := do_parts h
 obtain ⟨-, q2, q3, q4, q5⟩ := do_parts h2
 have hz := p1.now0
 have e : z + 1 + 1 = z + 2 := by omega
 rw [e] at q3 q4 q5
 rw [q4, q5]
 refine ⟨rfl, ?_, ?_⟩
 ·
  rw [versAt_ok (versB_yes q3) (by omega) (by omega), versAt_ok (versB_yes p3) (by omega) (by omega)]
  exact at_doAll (by omega) ns _
 ·
  have h1 := doAll_length ns (doAll l ws (z + 1)) (z + 2)
  have h2 := doAll_length ws l (z + 1)
  omega
theorem past_do {z t : Int} {l : List V} {ws : List X} (h : doB z l ws = true) (h0 : 0 ≤ t) (h1 : t ≤ z) : versAt (z + 1) (doAll l ws (z + 1)) t = versAt z l t := by
 obtain ⟨p1, p2, p3, -, -⟩ := do_parts h
 rw [versAt_ok (versB_yes p3) h0 (by omega), versAt_ok (versB_yes p1) h0 h1]
 exact at_doAll (by omega) ws l

/-! rows of a time -/
theorem at_rows {z t : Int} {l : List V} (h : VersP z l) (h0 : 0 ≤ t) (h1 : t ≤ z) : RowsP (atL l t) := by
 refine rowsP_iff.2 ⟨h.few t h0 h1, ?_, ?_⟩
 ·
  intro r hr
  obtain ⟨x, hx, rfl⟩ := List.mem_map.1 hr
  have hv := versP_mem h (List.mem_filter.1 hx).1
  unfold verB at hv
  simp only [Bool.and_eq_true] at hv
  exact ⟨hv.1.1.1.1, hv.1.1.1.2⟩
 ·
  unfold Srt atL
  rw [List.pairwise_map]
  refine List.Pairwise.imp_of_mem ?_ (List.Pairwise.filter (visB t) h.ord2)
  intro a b ha hb hab
  rcases hab with ⟨_, h2⟩ | h2
  ·
   have := vis_next h2 (List.mem_filter.1 ha).2
   rw [(List.mem_filter.1 hb).2] at this; cases this
  ·
   exact h2
theorem versAt_rows (z : Int) (l : List V) (t : Int) : RowsP (versAt z l t) := by
 unfold versAt
 split
 ·
  rename_i h
  simp only [Bool.and_eq_true, decide_eq_true_eq] at h
  exact at_rows (versB_iff.1 h.1.1) h.1.2 h.2
 ·
  exact rowsP_iff.2 ⟨by simp, by simp, List.Pairwise.nil⟩
theorem look_at_iff {z t : Int} {l : List V} (h : VersP z l) (h0 : 0 ≤ t) (h1 : t ≤ z) (key : ByteArray) (n : Int) : look key (atL l t) = some n ↔ ∃ x ∈ l, visB t x = true ∧ x.k = key ∧ x.n = n := by
 have hS := (at_rows h h0 h1).srt
 constructor
 ·
  intro e
  obtain ⟨x, hx, he⟩ := List.mem_map.1 (look_mem e)
  have hx := List.mem_filter.1 hx
  exact ⟨x, hx.1, hx.2, congrArg Prod.fst he, congrArg Prod.snd he⟩
 ·
  rintro ⟨x, hx, hv, rfl, rfl⟩
  exact mem_look (r := (x.k, x.n)) hS (List.mem_map.2 ⟨x, List.mem_filter.2 ⟨hx, hv⟩, rfl⟩)
theorem get_at {z t : Int} {l : List V} (h : VersP z l) (h0 : 0 ≤ t) (h1 : t ≤ z) {x : V} (hx : x ∈ l) (hv : visB t x = true) : getB (atL l t) x.k = true ∧ getN (atL l t) x.k = x.n := by
 have e := (look_at_iff h h0 h1 x.k x.n).2 ⟨x, hx, hv, rfl, rfl⟩
 have hr := rowsB_iff.2 (at_rows h h0 h1)
 exact ⟨by rw [getB_eq, hr, e]; rfl, by rw [getN_eq _ _ hr, e]; rfl⟩
theorem look_ext2 {a b : Option Int} (h : ∀ n, a = some n ↔ b = some n) : a = b := by
 cases a with
 | none =>
  cases b with
  | none => rfl
  | some n => exact ((h n).2 rfl)
 | some n => exact ((h n).1 rfl).symm

/-! last times -/
theorem last_fold (key : ByteArray) (m : Int) : (l : List V) → (a : Int) → (l.foldl (lastF key) a ≤ m ↔ a ≤ m ∧ ∀ x ∈ l, x.k = key → x.f ≤ m ∧ x.t ≤ m)
 | [], a => by simp
 | v :: l, a => by
  rw [List.foldl_cons, last_fold key m l]
  unfold lastF
  by_cases hk : v.k = key
  ·
   rw [hk]
   simp only [beq_self_eq_true, if_true, List.mem_cons, forall_eq_or_imp]
   constructor
   ·
    rintro ⟨h1, h2⟩
    exact ⟨by omega, fun _ => ⟨by omega, by omega⟩, h2⟩
   ·
    rintro ⟨h1, h2, h3⟩
    have := h2 hk
    exact ⟨by omega, h3⟩
  ·
   rw [str_ne hk]
   simp only [Bool.false_eq_true, if_false, List.mem_cons, forall_eq_or_imp]
   constructor
   ·
    rintro ⟨h1, h2⟩
    exact ⟨h1, fun h => absurd h hk, h2⟩
   ·
    rintro ⟨h1, h2, h3⟩
    exact ⟨h1, h3⟩
theorem last_le {l : List V} {key : ByteArray} {m : Int} : lastL l key ≤ m ↔ 0 ≤ m ∧ ∀ x ∈ l, x.k = key → x.f ≤ m ∧ x.t ≤ m := last_fold key m l 0
theorem last_ge {l : List V} {key : ByteArray} {x : V} (hx : x ∈ l) (hk : x.k = key) : x.f ≤ lastL l key ∧ x.t ≤ lastL l key := ((last_le (m := lastL l key)).1 (Int.le_refl _)).2 x hx hk
theorem last_0 (l : List V) (key : ByteArray) : 0 ≤ lastL l key := ((last_le (m := lastL l key)).1 (Int.le_refl _)).1
theorem last_now {z : Int} {l : List V} (h : VersP z l) (key : ByteArray) : lastL l key ≤ z := last_le.2 ⟨h.now0, fun x hx _ => ⟨(verB_from (versP_mem h hx)).2, verB_toz (versP_mem h hx)⟩⟩
theorem last_ext {a b : Int} (h : ∀ m, a ≤ m ↔ b ≤ m) : a = b := by
 have h1 := (h a).1 (Int.le_refl _)
 have h2 := (h b).2 (Int.le_refl _)
 omega
/-- behind the last time nothing turns under the key -/
theorem last_same {z k : Int} {l : List V} (h : VersP z l) (key : ByteArray) (h0 : lastL l key ≤ k) (h1 : k ≤ z) : look key (atL l k) = look key (atL l z) := by
 have hk0 := last_0 l key
 refine look_ext2 fun n => ?_
 rw [look_at_iff h (by omega) h1, look_at_iff h h.now0 (by omega)]
 constructor
 ·
  rintro ⟨x, hx, hv, rfl, rfl⟩
  refine ⟨x, hx, ?_, rfl, rfl⟩
  have := last_ge hx rfl
  have hb := verB_f (versP_mem h hx)
  unfold visB at *
  simp only [Bool.and_eq_true, Bool.or_eq_true, decide_eq_true_eq] at *
  omega
 ·
  rintro ⟨x, hx, hv, rfl, rfl⟩
  refine ⟨x, hx, ?_, rfl, rfl⟩
  have := last_ge hx rfl
  have hb := verB_f (versP_mem h hx)
  unfold visB at *
  simp only [Bool.and_eq_true, Bool.or_eq_true, decide_eq_true_eq] at *
  omega
theorem last_get {z k : Int} {l : List V} (h : VersP z l) (key : ByteArray) (h0 : lastL l key ≤ k) (h1 : k ≤ z) : getB (versAt z l k) key = getB (versAt z l z) key ∧ getN (versAt z l k) key = getN (versAt z l z) key := by
 have hk0 := last_0 l key
 have e := last_same h key h0 h1
 rw [versAt_ok (versB_yes h) (by omega) h1, versAt_ok (versB_yes h) h.now0 (by omega)]
 have r1 := rowsB_iff.2 (at_rows h (show 0 ≤ k by omega) h1)
 have r2 := rowsB_iff.2 (at_rows h h.now0 (Int.le_refl z))
 exact ⟨by rw [getB_eq, getB_eq, r1, r2, e], by rw [getN_eq _ _ r1, getN_eq _ _ r2, e]⟩

/-! what is forgotten -/
theorem at_keep {t k : Int} (h : t ≤ k) (l : List V) : atL (keepL l t) k = atL l k := by
 unfold atL keepL
 rw [List.filter_filter]
 congr 1
 refine List.filter_congr fun x _ => ?_
 unfold visB endB
 rw [Bool.eq_iff_iff]
 simp only [Bool.and_eq_true, Bool.or_eq_true, decide_eq_true_eq, Bool.not_eq_true', Bool.and_eq_false_iff, decide_eq_false_iff_not]
 omega
theorem keep_P {z : Int} {l : List V} (h : VersP z l) (t : Int) : VersP z (keepL l t) := by
 have hs : (keepL l t).Sublist l := List.filter_sublist
 have ho : (keepL l t).Pairwise Beh := List.Pairwise.sublist hs h.ord2
 refine ⟨h.now0, h.now, Nat.le_trans (keepL_length l t) h.len, fun i hi => versP_mem h (hs.subset (List.getElem_mem hi)), fun i hi => ahead_of_beh ((List.pairwise_iff_getElem.1 ho) i (i + 1) (by omega) hi (by omega)), fun s h0 h1 => Nat.le_trans ?_ (h.few s h0 h1)⟩
 unfold atL
 rw [List.length_map, List.length_map]
 exact (List.Sublist.filter _ hs).length_le
theorem keep_keep (l : List V) (t : Int) : keepL (keepL l t) t = keepL l t := by
 unfold keepL
 rw [List.filter_filter]
 refine List.filter_congr fun x _ => ?_
 simp
theorem trim_ok {z t : Int} {l : List V} (h : versB z l = true) : trimZ z l = z ∧ trimL z l t = keepL l t ∧ versB z (keepL l t) = true ∧ trimZ z (keepL l t) = z ∧ trimL z (keepL l t) t = keepL l t := by
 have h' := versB_yes (keep_P (versB_iff.1 h) t)
 unfold trimZ trimL
 rw [h, h', keep_keep]
 exact ⟨rfl, rfl, rfl, rfl, rfl⟩
theorem trim_at {z t k : Int} {l : List V} (h : versB z l = true) (htk : t ≤ k) (h0 : 0 ≤ k) (h1 : k ≤ z) : versAt z (keepL l t) k = versAt z l k := by
 rw [versAt_ok h h0 h1, versAt_ok (versB_yes (keep_P (versB_iff.1 h) t)) h0 h1]
 exact at_keep htk l

/-! one key -/
theorem ord_get {l : List V} (h : Ord2 l) {i j : Nat} (hij : i < j) (hj : j < l.length) : Beh (l[i]'(by omega)) l[j] := (List.pairwise_iff_getElem.1 h) i j (by omega) hj hij
theorem ord_same {l : List V} (h : Ord2 l) {i j : Nat} (hij : i < j) (hj : j < l.length) (e : (l[i]'(by omega)).k = l[j].k) : 0 < (l[i]'(by omega)).t ∧ (l[i]'(by omega)).t ≤ l[j].f := by
 rcases ord_get h hij hj with ⟨_, h2⟩ | h2
 ·
  exact h2
 ·
  rw [e, lt_irrefl] at h2; cases h2
theorem open_last {z : Int} {l : List V} (h : VersP z l) {i : Nat} (hi : i < l.length) (ht : l[i].t = 0) : getB (versAt z l z) l[i].k = true ∧ getN (versAt z l z) l[i].k = l[i].n ∧ versLast z l l[i].k = l[i].f := by
 have hm := List.getElem_mem hi
 have hb := verB_f (versP_mem h hm)
 rw [versAt_ok (versB_yes h) h.now0 (by omega)]
 have hv : visB z l[i] = true := by
  unfold visB
  simp only [Bool.and_eq_true, Bool.or_eq_true, decide_eq_true_eq]
  omega
 obtain ⟨g1, g2⟩ := get_at h h.now0 (Int.le_refl z) hm hv
 refine ⟨g1, g2, ?_⟩
 unfold versLast
 rw [versB_yes h, if_pos rfl]
 have h1 := last_ge hm rfl
 have h2 : lastL l l[i].k ≤ l[i].f := last_le.2 ⟨by omega, fun x hx hk => by
  obtain ⟨j, hj, rfl⟩ := List.getElem_of_mem hx
  have hbj := verB_f (versP_mem h hx)
  rcases Nat.lt_trichotomy j i with hji | rfl | hji
  ·
   have := ord_same h.ord2 hji hi hk
   omega
  ·
   omega
  ·
   have := ord_same h.ord2 hji hj hk.symm
   omega⟩
 omega

/-! what stands behind what is done -/
/-- what stands under a key of the list ends now -/
noncomputable def endAll (ws : List X) (now : Int) (v : V) : V := open Classical in if ∃ x ∈ ws, x.k = v.k then endV now v else v
theorem endV_k (now : Int) (v : V) : (endV now v).k = v.k := by unfold endV; split <;> rfl
theorem endV_endV {now : Int} (h : now ≠ 0) (v : V) : endV now (endV now v) = endV now v := by
 by_cases h0 : v.t = 0
 ·
  have e : endV now v = ⟨v.k, v.n, v.f, now⟩ := by unfold endV; rw [if_pos h0]
  rw [e]; unfold endV; rw [if_neg h]
 ·
  have e : endV now v = v := by unfold endV; rw [if_neg h0]
  rw [e, e]
theorem endF_eq (key : ByteArray) (now : Int) (v : V) : (v.k = key → endF key now v = endV now v) ∧ (v.k ≠ key → endF key now v = v) := by
 unfold endF
 constructor
 ·
  intro h; rw [h]; simp
 ·
  intro h; rw [str_ne h]; rfl
theorem endAll_yes {ws : List X} {now : Int} {v : V} (h : ∃ x ∈ ws, x.k = v.k) : endAll ws now v = endV now v := by unfold endAll; rw [if_pos h]
theorem endAll_no {ws : List X} {now : Int} {v : V} (h : ¬ ∃ x ∈ ws, x.k = v.k) : endAll ws now v = v := by unfold endAll; rw [if_neg h]
theorem endAll_cons {x : X} {ws : List X} {now : Int} (hn : now ≠ 0) (v : V) : endAll ws now (endF x.k now v) = endAll (x :: ws) now v := by
 by_cases hk : v.k = x.k
 ·
  rw [(endF_eq x.k now v).1 hk, endAll_yes (ws := x :: ws) ⟨x, by simp, hk.symm⟩]
  by_cases hw : ∃ y ∈ ws, y.k = (endV now v).k
  ·
   rw [endAll_yes hw, endV_endV hn]
  ·
   rw [endAll_no hw]
 ·
  rw [(endF_eq x.k now v).2 hk]
  by_cases hw : ∃ y ∈ ws, y.k = v.k
  ·
   obtain ⟨y, hy, e⟩ := hw
   rw [endAll_yes ⟨y, hy, e⟩, endAll_yes ⟨y, by simp [hy], e⟩]
  ·
   rw [endAll_no hw, endAll_no]
   rintro ⟨y, hy, e⟩
   rcases List.mem_cons.1 hy with rfl | hy
   ·
    exact hk e.symm
   ·
    exact hw ⟨y, hy, e⟩
theorem mem_write {l : List V} {x : X} {now : Int} {y : V} : y ∈ writeL l x now ↔ (∃ v ∈ l, y = endF x.k now v) ∨ (x.g = false ∧ y = ⟨x.k, x.n, now, 0⟩) := by
 have hm : y ∈ l.map (endF x.k now) ↔ ∃ v ∈ l, y = endF x.k now v := by
  rw [List.mem_map]
  exact ⟨fun ⟨v, h1, h2⟩ => ⟨v, h1, h2.symm⟩, fun ⟨v, h1, h2⟩ => ⟨v, h1, h2.symm⟩⟩
 unfold writeL
 split
 ·
  rename_i hg
  rw [hm]
  exact ⟨.inl, fun h => h.elim id fun h => by rw [hg] at h; cases h.1⟩
 ·
  rename_i hg
  have hg : x.g = false := by simpa using hg
  have hq : y ∈ l.map (endF x.k now) ↔ y ∈ (l.map (endF x.k now)).take (placeL l x.k) ∨ y ∈ (l.map (endF x.k now)).drop (placeL l x.k) := by
   rw [← List.mem_append, List.take_append_drop]
  simp only [List.mem_append, List.mem_cons, List.not_mem_nil, or_false]
  rw [← hm, hq]
  constructor
  ·
   rintro ((h | h) | h)
   ·
    exact .inl (.inl h)
   ·
    exact .inr ⟨hg, h⟩
   ·
    exact .inl (.inr h)
  ·
   rintro ((h | h) | ⟨_, h⟩)
   ·
    exact .inl (.inl h)
   ·
    exact .inr h
   ·
    exact .inl (.inr h)
def AscW (ws : List X) : Prop := ws.Pairwise fun a b => lt a.k b.k = true
theorem WritesP.ascW {ws : List X} (h : WritesP ws) : AscW ws := by
 have key : ∀ j (hj : j < ws.length) i (hi : i < j), lt (ws[i]'(by omega)).k ws[j].k = true := by
  intro j
  induction j with
  | zero => intro hj i h; omega
  | succ j ih =>
   intro hj i hi
   by_cases e : i = j
   ·
    subst e; exact h.asc i hj
   ·
    exact lt_trans (ih (by omega) i (by omega)) (h.asc j hj)
 exact List.pairwise_iff_getElem.2 fun i j hi hj hij => key j hj i hij
theorem mem_doAll {now : Int} (hn : now ≠ 0) {y : V} : (ws : List X) → AscW ws → (l : List V) → (y ∈ doAll l ws now ↔ (∃ v ∈ l, y = endAll ws now v) ∨ (∃ x ∈ ws, x.g = false ∧ y = ⟨x.k, x.n, now, 0⟩))
 | [], _, l => by
  show y ∈ l ↔ _
  constructor
  ·
   intro h; exact .inl ⟨y, h, by rw [endAll_no]; simp⟩
  ·
   rintro (⟨v, hv, e⟩ | ⟨x, hx, _⟩)
   ·
    rw [endAll_no (by simp)] at e; rw [e]; exact hv
   ·
    simp at hx
 | x :: ws, ha, l => by
  have ha' := List.pairwise_cons.1 ha
  show y ∈ doAll (writeL l x now) ws now ↔ _
  rw [mem_doAll hn ws ha'.2]
  have hnew : endAll ws now ⟨x.k, x.n, now, 0⟩ = ⟨x.k, x.n, now, 0⟩ := endAll_no fun ⟨u, hu, e⟩ => by
   have := ha'.1 u hu
   rw [e, lt_irrefl] at this; cases this
  constructor
  ·
   rintro (⟨v, hv, rfl⟩ | ⟨u, hu, h⟩)
   ·
    rcases mem_write.1 hv with ⟨v0, hv0, rfl⟩ | ⟨hg, rfl⟩
    ·
     exact .inl ⟨v0, hv0, endAll_cons hn v0⟩
    ·
     exact .inr ⟨x, by simp, hg, hnew⟩
   ·
    exact .inr ⟨u, by simp [hu], h⟩
  ·
   rintro (⟨v, hv, rfl⟩ | ⟨u, hu, hg, rfl⟩)
   ·
    exact .inl ⟨endF x.k now v, mem_write.2 (.inl ⟨v, hv, rfl⟩), (endAll_cons hn v).symm⟩
   ·
    rcases List.mem_cons.1 hu with rfl | hu
    ·
     exact .inl ⟨_, mem_write.2 (.inr ⟨hg, rfl⟩), hnew.symm⟩
    ·
     exact .inr ⟨u, hu, hg, rfl⟩
theorem ascW_inj {ws : List X} (h : AscW ws) {a b : X} (ha : a ∈ ws) (hb : b ∈ ws) (e : a.k = b.k) : a = b := by
 obtain ⟨i, hi, rfl⟩ := List.getElem_of_mem ha
 obtain ⟨j, hj, rfl⟩ := List.getElem_of_mem hb
 have hp := List.pairwise_iff_getElem.1 h
 rcases Nat.lt_trichotomy i j with hij | rfl | hij
 ·
  have := hp i j hi hj hij; rw [e, lt_irrefl] at this; cases this
 ·
  rfl
 ·
  have := hp j i hj hi hij; rw [e, lt_irrefl] at this; cases this
/-- the rows behind what is done: what is written stands, all else stands as it stood -/
theorem look_do {z : Int} {l : List V} {ws : List X} (h : doB z l ws = true) (key : ByteArray) (n : Int) :
  look key (atL (doAll l ws (z + 1)) (z + 1)) = some n ↔ (∃ x ∈ ws, x.g = false ∧ x.k = key ∧ x.n = n) ∨ ((¬ ∃ x ∈ ws, x.k = key) ∧ look key (atL l z) = some n) := by
 obtain ⟨p1, p2, p3, -, -⟩ := do_parts h
 have hz := p1.now0
 rw [look_at_iff p3 (by omega) (Int.le_refl _), look_at_iff p1 hz (Int.le_refl _)]
 constructor
 ·
  rintro ⟨y, hy, hv, rfl, rfl⟩
  rcases (mem_doAll (show z + 1 ≠ 0 by omega) ws p2.ascW l).1 hy with ⟨v, hvl, rfl⟩ | ⟨x, hx, hg, rfl⟩
  ·
   have hb := verB_f (versP_mem p1 hvl)
   by_cases hw : ∃ x ∈ ws, x.k = v.k
   ·
    exfalso
    rw [endAll_yes hw] at hv
    unfold endV visB at hv
    split at hv <;> simp only [Bool.and_eq_true, Bool.or_eq_true, decide_eq_true_eq] at hv <;> omega
   ·
    rw [endAll_no hw] at hv ⊢
    refine .inr ⟨hw, v, hvl, ?_, rfl, rfl⟩
    unfold visB at *
    simp only [Bool.and_eq_true, Bool.or_eq_true, decide_eq_true_eq] at *
    omega
  ·
   exact .inl ⟨x, hx, hg, rfl, rfl⟩
 ·
  rintro (⟨x, hx, hg, rfl, rfl⟩ | ⟨hw, v, hvl, hv, rfl, rfl⟩)
  ·
   refine ⟨_, (mem_doAll (show z + 1 ≠ 0 by omega) ws p2.ascW l).2 (.inr ⟨x, hx, hg, rfl⟩), ?_, rfl, rfl⟩
   unfold visB
   simp
  ·
   refine ⟨v, (mem_doAll (show z + 1 ≠ 0 by omega) ws p2.ascW l).2 (.inl ⟨v, hvl, (endAll_no hw).symm⟩), ?_, rfl, rfl⟩
   have hb := verB_f (versP_mem p1 hvl)
   unfold visB at *
   simp only [Bool.and_eq_true, Bool.or_eq_true, decide_eq_true_eq] at *
   omega
/-- the last time of a key, behind what is done -/
theorem last_do {z : Int} {l : List V} {ws : List X} (h : doB z l ws = true) {v : V} (hvl : v ∈ l) :
  ((∃ x ∈ ws, x.k = v.k ∧ (getB (atL l z) v.k = true ∨ x.g = false)) → lastL (doAll l ws (z + 1)) v.k = z + 1) ∧
  ((¬ ∃ x ∈ ws, x.k = v.k ∧ (getB (atL l z) v.k = true ∨ x.g = false)) → lastL (doAll l ws (z + 1)) v.k = lastL l v.k) := by
 obtain ⟨p1, p2, p3, -, -⟩ := do_parts h
 have hz := p1.now0
 have hr := rowsB_iff.2 (at_rows p1 hz (Int.le_refl z))
 have hM := fun y => mem_doAll (y := y) (show z + 1 ≠ 0 by omega) ws p2.ascW l
 constructor
 ·
  rintro ⟨x, hx, hxk, hor⟩
  have h1 := last_now p3 v.k
  have h2 : z + 1 ≤ lastL (doAll l ws (z + 1)) v.k := by
   rcases hor with hg | hg
   ·
    rw [getB_eq, hr, Bool.true_and] at hg
    cases hl : look v.k (atL l z) with
    | none => rw [hl] at hg; cases hg
    | some n =>
     obtain ⟨u, hu, huv, huk, hun⟩ := (look_at_iff p1 hz (Int.le_refl z) v.k n).1 hl
     have hb := verB_f (versP_mem p1 hu)
     have hut : u.t = 0 := by
      unfold visB at huv
      simp only [Bool.and_eq_true, Bool.or_eq_true, decide_eq_true_eq] at huv
      omega
     have he : endAll ws (z + 1) u = ⟨u.k, u.n, u.f, z + 1⟩ := by
      rw [endAll_yes ⟨x, hx, by rw [hxk, huk]⟩]; unfold endV; rw [if_pos hut]
     exact (last_ge ((hM _).2 (.inl ⟨u, hu, he.symm⟩)) huk).2
   ·
    exact (last_ge ((hM _).2 (.inr ⟨x, hx, hg, rfl⟩)) hxk).1
  omega
 ·
  intro hno
  refine last_ext fun m => ?_
  rw [last_le, last_le]
  refine and_congr_right fun hm0 => ?_
  constructor
  ·
   intro hall x hx hk
   by_cases hw : ∃ y ∈ ws, y.k = x.k
   ·
    have := hall _ ((hM _).2 (.inl ⟨x, hx, rfl⟩)) (by rw [endAll_yes hw, endV_k]; exact hk)
    rw [endAll_yes hw] at this
    unfold endV at this
    split at this
    ·
     rename_i h0; have h1 := this.1; simp only at h1; omega
    ·
     exact this
   ·
    have := hall _ ((hM _).2 (.inl ⟨x, hx, rfl⟩)) (by rw [endAll_no hw]; exact hk)
    rw [endAll_no hw] at this
    exact this
  ·
   intro hall y hy hk
   rcases (hM y).1 hy with ⟨u, hu, rfl⟩ | ⟨x, hx, hg, rfl⟩
   ·
    by_cases hw : ∃ y ∈ ws, y.k = u.k
    ·
     rw [endAll_yes hw] at hk ⊢
     rw [endV_k] at hk
     have h1 := hall u hu hk
     by_cases h0 : u.t = 0
     ·
      exfalso
      obtain ⟨x, hx, hxk⟩ := hw
      refine hno ⟨x, hx, hxk.trans hk, .inl ?_⟩
      have hb := verB_f (versP_mem p1 hu)
      have hv : visB z u = true := by
       unfold visB
       simp only [Bool.and_eq_true, Bool.or_eq_true, decide_eq_true_eq]
       omega
      rw [getB_eq, hr, (look_at_iff p1 hz (Int.le_refl z) v.k u.n).2 ⟨u, hu, hv, hk, rfl⟩]
      rfl
     ·
      unfold endV; rw [if_neg h0]; exact h1
    ·
     rw [endAll_no hw] at hk ⊢
     exact hall u hu hk
   ·
    exact absurd ⟨x, hx, hk, .inr hg⟩ hno

/-! rows that are turned by hand: first all that goes, then all that is put -/
theorem look_some_of {a : Option Int} (h : a.isSome = true) : ∃ n, a = some n := by
 cases a with
 | none => cases h
 | some n => exact ⟨n, rfl⟩
theorem srt_len : {a b : List R} → Srt a → Srt b → (∀ k, (look k a).isSome = true → (look k b).isSome = true) → a.length ≤ b.length
 | [], b, _, _, _ => by simp
 | r :: a, b, ha, hb, h => by
  have ha' := List.pairwise_cons.1 ha
  have hr : look r.1 (r :: a) = some r.2 := mem_look ha (by simp)
  have hrb := h r.1 (by rw [hr]; rfl)
  have hd := del_length r.1 b
  rw [if_pos hrb] at hd
  have hpos : 0 < b.length := by
   cases b with
   | nil => simp [look] at hrb
   | cons _ _ => simp
  have ih := srt_len (a := a) (b := del r.1 b) ha'.2 (del_srt hb) fun k hk => by
   obtain ⟨n, hn⟩ := look_some_of hk
   have hm := look_mem hn
   have hlt := ha'.1 _ hm
   have hne : k ≠ r.1 := (lt_ne hlt).symm
   rw [look_del k hb, if_neg hne]
   refine h k ?_
   have : look k (r :: a) = some n := mem_look (r := (k, n)) ha (List.mem_cons_of_mem _ hm)
   rw [this]; rfl
  simp only [List.length_cons]
  omega
/-- all that goes, of the first i -/
noncomputable def cutN (l : List R) (ws : List X) : List R := ws.foldl (fun l x => if x.g then cutV l x.k else l) l
/-- all that is put, of the first i -/
noncomputable def putN (l : List R) (ws : List X) : List R := ws.foldl (fun l x => if x.g then l else putV l x.k x.n) l
theorem cutN_succ (l : List R) {ws : List X} {i : Nat} (hi : i < ws.length) : cutN l (ws.take (i + 1)) = if ws[i].g then cutV (cutN l (ws.take i)) ws[i].k else cutN l (ws.take i) := by
 unfold cutN; rw [List.take_succ_eq_append_getElem hi, List.foldl_append]; rfl
theorem putN_succ (l : List R) {ws : List X} {i : Nat} (hi : i < ws.length) : putN l (ws.take (i + 1)) = if ws[i].g then putN l (ws.take i) else putV (putN l (ws.take i)) ws[i].k ws[i].n := by
 unfold putN; rw [List.take_succ_eq_append_getElem hi, List.foldl_append]; rfl
theorem cutN_rows {l : List R} (h : RowsP l) : (ws : List X) → RowsP (cutN l ws) ∧ ∀ k n, look k (cutN l ws) = some n ↔ (¬ ∃ x ∈ ws, x.g = true ∧ x.k = k) ∧ look k l = some n
 | [] => ⟨h, fun k n => by unfold cutN; simp⟩
 | x :: ws => by
  have e : cutN l (x :: ws) = cutN (if x.g then cutV l x.k else l) ws := rfl
  have hrb := rowsB_iff.2 h
  cases hg : x.g
  ·
   rw [e, hg, if_neg (by simp)]
   obtain ⟨h1, h2⟩ := cutN_rows h ws
   refine ⟨h1, fun k n => (h2 k n).trans (and_congr_left fun _ => not_congr ?_)⟩
   constructor
   ·
    rintro ⟨y, hy, hh⟩; exact ⟨y, by simp [hy], hh⟩
   ·
    rintro ⟨y, hy, hh⟩
    rcases List.mem_cons.1 hy with rfl | hy
    ·
     rw [hg] at hh; cases hh.1
    ·
     exact ⟨y, hy, hh⟩
  ·
   rw [e, hg, if_pos rfl, cutV_eq _ hrb]
   obtain ⟨h1, h2⟩ := cutN_rows (del_ok h x.k) ws
   refine ⟨h1, fun k n => (h2 k n).trans ?_⟩
   rw [look_del k h.srt]
   by_cases hk : k = x.k
   ·
    rw [if_pos hk]
    constructor
    ·
     rintro ⟨_, h⟩; cases h
    ·
     rintro ⟨hn, _⟩; exact absurd ⟨x, by simp, hg, hk.symm⟩ hn
   ·
    rw [if_neg hk]
    refine and_congr_left fun _ => not_congr ?_
    constructor
    ·
     rintro ⟨y, hy, hh⟩; exact ⟨y, by simp [hy], hh⟩
    ·
     rintro ⟨y, hy, hh⟩
     rcases List.mem_cons.1 hy with rfl | hy
     ·
      exact absurd hh.2.symm hk
     ·
      exact ⟨y, hy, hh⟩
/-- what is put stands, if there is room for all of it in b -/
theorem putN_rows {b : List R} (hb : RowsP b) : (ws : List X) → {l : List R} → RowsP l → AscW ws → (∀ x ∈ ws, keyB x.k = true ∧ numB x.n = true) → (∀ k, (look k l).isSome = true → (look k b).isSome = true) → (∀ x ∈ ws, x.g = false → (look x.k b).isSome = true) →
  RowsP (putN l ws) ∧ ∀ k n, look k (putN l ws) = some n ↔ (∃ x ∈ ws, x.g = false ∧ x.k = k ∧ x.n = n) ∨ ((¬ ∃ x ∈ ws, x.g = false ∧ x.k = k) ∧ look k l = some n)
 | [], l, h, _, _, _, _ => ⟨h, fun k n => by unfold putN; simp⟩
 | x :: ws, l, h, ha, hok, hs, hp => by
  have ha' := List.pairwise_cons.1 ha
  have e : putN l (x :: ws) = putN (if x.g then l else putV l x.k x.n) ws := rfl
  cases hg : x.g
  ·
   rw [e, hg, if_neg (by simp)]
   have hxb := hp x (by simp) hg
   have hI : Srt (ins x.k x.n l) := ins_srt h.srt
   have hsub : ∀ k, (look k (ins x.k x.n l)).isSome = true → (look k b).isSome = true := fun k hk => by
    rw [look_ins k h.srt] at hk
    by_cases e : k = x.k
    ·
     rw [e]; exact hxb
    ·
     rw [if_neg e] at hk; exact hs k hk
   have hlen := srt_len hI hb.srt hsub
   have hb10 := (rowsP_iff.1 hb).1
   have hil := ins_length x.k x.n l
   have hpo : putOk l x.k x.n = true := by
    rw [putOk_eq, rowsB_iff.2 h, (hok x (by simp)).1, (hok x (by simp)).2]
    simp only [Bool.true_and, Bool.or_eq_true, decide_eq_true_eq]
    by_cases hq : (look x.k l).isSome = true
    ·
     exact .inl hq
    ·
     rw [if_neg hq] at hil
     exact .inr (by omega)
   rw [putV_yes hpo]
   obtain ⟨h1, h2⟩ := putN_rows hb ws (putOk_rows hpo).2 ha'.2 (fun y hy => hok y (by simp [hy])) hsub (fun y hy => hp y (by simp [hy]))
   refine ⟨h1, fun k n => (h2 k n).trans ?_⟩
   rw [look_ins k h.srt]
   constructor
   ·
    rintro (⟨y, hy, hh⟩ | ⟨hn, hh⟩)
    ·
     exact .inl ⟨y, by simp [hy], hh⟩
    ·
     by_cases hk : k = x.k
     ·
      rw [if_pos hk] at hh
      exact .inl ⟨x, by simp, hg, hk.symm, Option.some.inj hh⟩
     ·
      rw [if_neg hk] at hh
      refine .inr ⟨?_, hh⟩
      rintro ⟨y, hy, h3, h4⟩
      rcases List.mem_cons.1 hy with rfl | hy
      ·
       exact hk h4.symm
      ·
       exact hn ⟨y, hy, h3, h4⟩
   ·
    rintro (⟨y, hy, h3, h4, h5⟩ | ⟨hn, hh⟩)
    ·
     rcases List.mem_cons.1 hy with rfl | hy
     ·
      refine .inr ⟨?_, by rw [if_pos h4.symm, h5]⟩
      rintro ⟨u, hu, _, hk⟩
      have := ha'.1 u hu
      rw [hk, h4, lt_irrefl] at this; cases this
     ·
      exact .inl ⟨y, hy, h3, h4, h5⟩
    ·
     have hk : k ≠ x.k := fun hk => hn ⟨x, by simp, hg, hk.symm⟩
     rw [if_neg hk]
     exact .inr ⟨fun ⟨y, hy, h⟩ => hn ⟨y, by simp [hy], h⟩, hh⟩
  ·
   rw [e, hg, if_pos rfl]
   obtain ⟨h1, h2⟩ := putN_rows hb ws h ha'.2 (fun y hy => hok y (by simp [hy])) hs (fun y hy => hp y (by simp [hy]))
   refine ⟨h1, fun k n => (h2 k n).trans ?_⟩
   have q1 : (∃ y ∈ ws, y.g = false ∧ y.k = k ∧ y.n = n) ↔ (∃ y ∈ x :: ws, y.g = false ∧ y.k = k ∧ y.n = n) := by
    constructor
    ·
     rintro ⟨y, hy, hh⟩; exact ⟨y, by simp [hy], hh⟩
    ·
     rintro ⟨y, hy, hh⟩
     rcases List.mem_cons.1 hy with rfl | hy
     ·
      rw [hg] at hh; cases hh.1
     ·
      exact ⟨y, hy, hh⟩
   have q2 : (∃ y ∈ ws, y.g = false ∧ y.k = k) ↔ (∃ y ∈ x :: ws, y.g = false ∧ y.k = k) := by
    constructor
    ·
     rintro ⟨y, hy, hh⟩; exact ⟨y, by simp [hy], hh⟩
    ·
     rintro ⟨y, hy, hh⟩
     rcases List.mem_cons.1 hy with rfl | hy
     ·
      rw [hg] at hh; cases hh.1
     ·
      exact ⟨y, hy, hh⟩
   rw [q1, q2]
theorem write_ok {ws : List X} (h : WritesP ws) : ∀ x ∈ ws, keyB x.k = true ∧ numB x.n = true := fun x hx => by
 obtain ⟨i, hi, rfl⟩ := List.getElem_of_mem hx
 have := h.each i hi
 unfold writeB at this
 simp only [Bool.and_eq_true] at this
 exact this.1
/-- the rows that are made by hand are those behind what is done -/
theorem hand_do {z : Int} {l : List V} {ws : List X} (h : doB z l ws = true) :
  putN (cutN (versAt z l z) ws) ws = versAt (z + 1) (doAll l ws (z + 1)) (z + 1) ∧ ∀ i, RowsP (cutN (versAt z l z) (ws.take i)) ∧ RowsP (putN (cutN (versAt z l z) ws) (ws.take i)) := by
 obtain ⟨p1, p2, p3, -, -⟩ := do_parts h
 have hz := p1.now0
 rw [versAt_ok (versB_yes p1) hz (by omega), versAt_ok (versB_yes p3) (by omega) (by omega)]
 have hA := at_rows p1 hz (Int.le_refl z)
 have hB := at_rows p3 (show 0 ≤ z + 1 by omega) (Int.le_refl _)
 have hC := cutN_rows hA ws
 have hlk := look_do h
 have hsub : ∀ k, (look k (cutN (atL l z) ws)).isSome = true → (look k (atL (doAll l ws (z + 1)) (z + 1))).isSome = true := fun k hk => by
  obtain ⟨n, hn⟩ := look_some_of hk
  obtain ⟨h1, h2⟩ := (hC.2 k n).1 hn
  by_cases hw : ∃ x ∈ ws, x.k = k
  ·
   obtain ⟨x, hx, rfl⟩ := hw
   cases hg : x.g
   ·
    rw [(hlk x.k x.n).2 (.inl ⟨x, hx, hg, rfl, rfl⟩)]; rfl
   ·
    exact absurd ⟨x, hx, hg, rfl⟩ h1
  ·
   rw [(hlk k n).2 (.inr ⟨hw, h2⟩)]; rfl
 have hput : ∀ x ∈ ws, x.g = false → (look x.k (atL (doAll l ws (z + 1)) (z + 1))).isSome = true := fun x hx hg => by
  rw [(hlk x.k x.n).2 (.inl ⟨x, hx, hg, rfl, rfl⟩)]; rfl
 have hP := putN_rows hB ws hC.1 p2.ascW (write_ok p2) hsub hput
 refine ⟨srt_ext hP.1.srt hB.srt fun k => look_ext2 fun n => ?_, fun i => ⟨(cutN_rows hA _).1, ?_⟩⟩
 ·
  rw [hP.2 k n, hlk k n, hC.2 k n]
  constructor
  ·
   rintro (h1 | ⟨h1, h2, h3⟩)
   ·
    exact .inl h1
   ·
    refine .inr ⟨?_, h3⟩
    rintro ⟨x, hx, rfl⟩
    cases hg : x.g
    ·
     exact h1 ⟨x, hx, hg, rfl⟩
    ·
     exact h2 ⟨x, hx, hg, rfl⟩
  ·
   rintro (h1 | ⟨h1, h2⟩)
   ·
    exact .inl h1
   ·
    exact .inr ⟨fun ⟨x, hx, _, hk⟩ => h1 ⟨x, hx, hk⟩, fun ⟨x, hx, _, hk⟩ => h1 ⟨x, hx, hk⟩, h2⟩
 ·
  have hm : ∀ x ∈ ws.take i, x ∈ ws := fun x hx => List.mem_of_mem_take hx
  exact (putN_rows hB (ws.take i) hC.1 (List.Pairwise.sublist (List.take_sublist _ _) p2.ascW) (fun x hx => write_ok p2 x (hm x hx)) hsub (fun x hx => hput x (hm x hx))).1
theorem FitR.cutN {l : List R} (h : FitR l) : (ws : List X) → FitR (cutN l ws)
 | [] => h
 | x :: ws => by
  show FitR (Go.Proofs.Ytheblejlmlfddaa.cutN (if x.g then Go.Proofs.Ytheblejlmlfddaa.cutV l x.k else l) ws)
  split
  ·
   exact FitR.cutN (h.cutV x.k) ws
  ·
   exact FitR.cutN h ws
theorem FitR.putN {l : List R} (h : FitR l) : (ws : List X) → FitXs ws → FitR (putN l ws)
 | [], _ => h
 | x :: ws, hx => by
  show FitR (Go.Proofs.Ytheblejlmlfddaa.putN (if x.g then l else Go.Proofs.Ytheblejlmlfddaa.putV l x.k x.n) ws)
  have hx0 := hx x (by simp)
  split
  ·
   exact FitR.putN h ws fun y hy => hx y (by simp [hy])
  ·
   exact FitR.putN (h.putV (fun r hr => by simp only [List.mem_singleton] at hr; subst hr; exact hx0)) ws fun y hy => hx y (by simp [hy])
theorem fitR_versAt {z : Int} {l : List V} (h : FitVs l) (t : Int) : FitR (versAt z l t) := by
 unfold versAt
 split
 ·
  intro r hr
  obtain ⟨x, hx, rfl⟩ := List.mem_map.1 hr
  have := h x (List.mem_filter.1 hx).1
  exact ⟨this.1, this.2.1, this.2.2.1⟩
 ·
  intro r hr; simp at hr

/-- the last time that the law works out -/
noncomputable def wantL (ws : List X) (key : ByteArray) (gb : Bool) (a b : Int) : Int := ws.foldl (fun n x => if x.k.toList == key.toList && (gb || !x.g) then a else n) b
theorem wantL_succ {ws : List X} (key : ByteArray) (gb : Bool) (a b : Int) {j : Nat} (hj : j < ws.length) : wantL (ws.take (j + 1)) key gb a b = if ws[j].k.toList == key.toList && (gb || !ws[j].g) then a else wantL (ws.take j) key gb a b := by
 unfold wantL; rw [List.take_succ_eq_append_getElem hj, List.foldl_append]; rfl
theorem want_yes {key : ByteArray} {gb : Bool} {a : Int} : (ws : List X) → (b : Int) → (∃ x ∈ ws, x.k = key ∧ (gb = true ∨ x.g = false)) ∨ b = a → wantL ws key gb a b = a
 | [], b, h => by
  rcases h with ⟨x, hx, _⟩ | h
  ·
   simp at hx
  ·
   exact h
 | x :: ws, b, h => by
  show wantL ws key gb a (if x.k.toList == key.toList && (gb || !x.g) then a else b) = a
  by_cases hx : x.k = key ∧ (gb = true ∨ x.g = false)
  ·
   have e : (x.k.toList == key.toList && (gb || !x.g)) = true := by
    rw [hx.1]; rcases hx.2 with h | h <;> simp [h]
   rw [e]
   exact want_yes ws a (.inr rfl)
  ·
   refine want_yes ws _ ?_
   rcases h with ⟨y, hy, hh⟩ | h
   ·
    rcases List.mem_cons.1 hy with rfl | hy
    ·
     exact absurd hh hx
    ·
     exact .inl ⟨y, hy, hh⟩
   ·
    right; subst h; split <;> rfl
theorem want_no {key : ByteArray} {gb : Bool} {a b : Int} : (ws : List X) → (¬ ∃ x ∈ ws, x.k = key ∧ (gb = true ∨ x.g = false)) → wantL ws key gb a b = b
 | [], _ => rfl
 | x :: ws, h => by
  show wantL ws key gb a (if x.k.toList == key.toList && (gb || !x.g) then a else b) = b
  have hx : ¬ (x.k = key ∧ (gb = true ∨ x.g = false)) := fun hx => h ⟨x, by simp, hx⟩
  have e : (x.k.toList == key.toList && (gb || !x.g)) = false := by
   by_cases hk : x.k = key
   ·
    have h2 : ¬ (gb = true ∨ x.g = false) := fun h2 => hx ⟨hk, h2⟩
    have h3 : gb = false := by cases gb; rfl; exact absurd (.inl rfl) h2
    have h4 : x.g = true := by cases hg : x.g; exact absurd (.inr hg) h2; rfl
    rw [h3, h4]; simp
   ·
    rw [str_ne hk]; rfl
  rw [e]
  exact want_no ws fun ⟨y, hy, hh⟩ => h ⟨y, by simp [hy], hh⟩
theorem want_do {z : Int} {l : List V} {ws : List X} (h : doB z l ws = true) {v : V} (hv : v ∈ l) {gb : Bool} {L0 : Int} (e1 : getB (versAt z l z) v.k = gb) (e2 : versLast z l v.k = L0) : versLast (z + 1) (doAll l ws (z + 1)) v.k = wantL ws v.k gb (z + 1) L0 := by
 obtain ⟨p1, p2, p3, -, -⟩ := do_parts h
 obtain ⟨q1, q2⟩ := last_do h hv
 rw [versAt_ok (versB_yes p1) p1.now0 (by omega)] at e1
 rw [e1] at q1 q2
 unfold versLast at e2 ⊢
 rw [versB_yes p1, if_pos rfl] at e2
 rw [versB_yes p3, if_pos rfl]
 by_cases hx : ∃ x ∈ ws, x.k = v.k ∧ (gb = true ∨ x.g = false)
 ·
  rw [q1 hx, want_yes ws L0 (.inl hx)]
 ·
  rw [q2 hx, want_no ws hx, e2]

end Go.Proofs.Ytheblejlmlfddaa
