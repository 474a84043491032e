/- Chapter 2, plain mathematics: the past, the last times, what is forgotten, what stands now. -/
import Derived.Test.YtbeklnhngjmpiaaGreatB7
import Derived.Test.YtbeklnhngjmpiaaGreatA4
namespace Go.Proofs.YtbeklnhngjmpiaaGreat
open Go.RowKit
set_option linter.unusedVariables false

/-! the past -/
theorem vis_endF {key : ByteArray} {now t : Int} (v : V) (ht : t < now) : visB t (endF key now v) = visB t v := by
 unfold endF endV
 split
 ·
  split
  ·
   rename_i h0
   unfold visB
   rw [Bool.eq_iff_iff]
   simp only [Bool.and_eq_true, Bool.or_eq_true, decide_eq_true_eq]
   omega
  ·
   rfl
 ·
  rfl
theorem row_endF (key : ByteArray) (now : Int) (v : V) : rowOf (endF key now v) = rowOf v := by
 unfold endF endV
 split
 ·
  split <;> rfl
 ·
  rfl
theorem at_endF {key : ByteArray} {now t : Int} (ht : t < now) : (l : List V) → atL (l.map (endF key now)) t = atL l t
 | [] => rfl
 | v :: l => by
  have ih := at_endF (key := key) ht l
  unfold atL at *
  rw [List.map_cons, List.filter_cons, List.filter_cons, vis_endF v ht]
  split
  ·
   rw [List.map_cons, List.map_cons, ih, row_endF]
  ·
   exact ih
theorem at_write {now t : Int} (ht : t < now) (l : List V) (x : X) : atL (writeL l x now) t = atL l t := by
 unfold writeL
 split
 ·
  exact at_endF ht l
 ·
  have hn : visB t (⟨x.k, x.n, now, 0⟩ : V) = false := by
   unfold visB
   rw [decide_eq_false (show ¬ (now ≤ t) from by omega)]; rfl
  rw [← at_endF (key := x.k) ht l]
  unfold atL
  rw [List.filter_append, List.filter_append, List.filter_cons_of_neg (by simp [hn]), List.filter_nil, List.append_nil, ← List.filter_append, List.take_append_drop]
theorem at_doAll {now t : Int} (ht : t < now) : (ws : List X) → (l : List V) → atL (doAll l ws now) t = atL l t
 | [], l => rfl
 | x :: ws, l => by
  show atL (doAll (writeL l x now) ws now) t = _
  rw [at_doAll ht ws, at_write ht]
theorem do_parts {z : Int} {l : List V} {ws : List X} (h : doB z l ws = true) : VersP z l ∧ WritesP ws ∧ VersP (z + 1) (doAll l ws (z + 1)) ∧ doZ z l ws = z + 1 ∧ doL z l ws = doAll l ws (z + 1) := by
 unfold doB at h
 simp only [Bool.and_eq_true] at h
 obtain ⟨⟨h1, h2⟩, h3⟩ := h
 obtain ⟨e1, e2, e3⟩ := do_yes h1 h2 h3
 exact ⟨versB_iff.1 h1, writesB_iff.1 h2, versB_iff.1 h3, e2, e3⟩
theorem do_false {z : Int} {l : List V} {ws : List X} (h : doB z l ws = false) : (versB z l = true ∧ doZ z l ws = z ∧ doL z l ws = l) ∨ (versB z l = false ∧ doZ z l ws = 0 ∧ doL z l ws = []) := by
 cases hv : versB z l
 ·
  exact .inr ⟨rfl, (do_bad hv).2⟩
 ·
  refine .inl ⟨rfl, ?_⟩
  unfold doZ doL
  rw [hv, h]
  simp
/-! rows of a time -/
theorem at_rows {z t : Int} {l : List V} (h : VersP z l) (h0 : 0 ≤ t) (h1 : t ≤ z) : RowsP (atL l t) := by
 refine rowsP_iff.2 ⟨h.few t h0 h1, ?_, ?_⟩
 ·
  intro r hr
  obtain ⟨x, hx, rfl⟩ := List.mem_map.1 hr
  have hv := versP_mem h (List.mem_filter.1 hx).1
  unfold verB at hv
  simp only [Bool.and_eq_true] at hv
  exact ⟨hv.1.1.1.1, hv.1.1.1.2⟩
 ·
  unfold Srt atL
  rw [List.pairwise_map]
  refine List.Pairwise.imp_of_mem ?_ (List.Pairwise.filter (visB t) h.ord2)
  intro a b ha hb hab
  rcases hab with ⟨_, h2⟩ | h2
  ·
   have := vis_next h2 (List.mem_filter.1 ha).2
   rw [(List.mem_filter.1 hb).2] at this; cases this
  ·
   exact h2
theorem look_at_iff {z t : Int} {l : List V} (h : VersP z l) (h0 : 0 ≤ t) (h1 : t ≤ z) (key : ByteArray) (n : Int) : look key (atL l t) = some n ↔ ∃ x ∈ l, visB t x = true ∧ x.k = key ∧ x.n = n := by
 have hS := (at_rows h h0 h1).srt
 constructor
 ·
  intro e
  obtain ⟨x, hx, he⟩ := List.mem_map.1 (look_mem e)
  have hx := List.mem_filter.1 hx
  exact ⟨x, hx.1, hx.2, congrArg Prod.fst he, congrArg Prod.snd he⟩
 ·
  rintro ⟨x, hx, hv, rfl, rfl⟩
  exact mem_look (r := (x.k, x.n)) hS (List.mem_map.2 ⟨x, List.mem_filter.2 ⟨hx, hv⟩, rfl⟩)
theorem look_ext2 {a b : Option Int} (h : ∀ n, a = some n ↔ b = some n) : a = b := by
 cases a with
 | none =>
  cases b with
  | none => rfl
  | some n => exact ((h n).2 rfl)
 | some n => exact ((h n).1 rfl).symm

/-! last times -/
theorem last_fold (key : ByteArray) (m : Int) : (l : List V) → (a : Int) → (l.foldl (lastF key) a ≤ m ↔ a ≤ m ∧ ∀ x ∈ l, x.k = key → x.f ≤ m ∧ x.t ≤ m)
 | [], a => by simp
 | v :: l, a => by
  rw [List.foldl_cons, last_fold key m l]
  unfold lastF
  by_cases hk : v.k = key
  ·
   rw [hk]
   simp only [beq_self_eq_true, if_true, List.mem_cons, forall_eq_or_imp]
   constructor
   ·
    rintro ⟨h1, h2⟩
    exact ⟨by omega, fun _ => ⟨by omega, by omega⟩, h2⟩
   ·
    rintro ⟨h1, h2, h3⟩
    have := h2 hk
    exact ⟨by omega, h3⟩
  ·
   rw [str_ne hk]
   simp only [Bool.false_eq_true, if_false, List.mem_cons, forall_eq_or_imp]
   constructor
   ·
    rintro ⟨h1, h2⟩
    exact ⟨h1, fun h => absurd h hk, h2⟩
   ·
    rintro ⟨h1, h2, h3⟩
    exact ⟨h1, h3⟩
theorem last_le {l : List V} {key : ByteArray} {m : Int} : lastL l key ≤ m ↔ 0 ≤ m ∧ ∀ x ∈ l, x.k = key → x.f ≤ m ∧ x.t ≤ m := last_fold key m l 0
theorem last_ge {l : List V} {key : ByteArray} {x : V} (hx : x ∈ l) (hk : x.k = key) : x.f ≤ lastL l key ∧ x.t ≤ lastL l key := ((last_le (m := lastL l key)).1 (Int.le_refl _)).2 x hx hk
theorem last_0 (l : List V) (key : ByteArray) : 0 ≤ lastL l key := ((last_le (m := lastL l key)).1 (Int.le_refl _)).1
theorem last_now {z : Int} {l : List V} (h : VersP z l) (key : ByteArray) : lastL l key ≤ z := last_le.2 ⟨h.now0, fun x hx _ => ⟨(verB_from (versP_mem h hx)).2, verB_toz (versP_mem h hx)⟩⟩
/-! what is forgotten -/
theorem keep_P {z : Int} {l : List V} (h : VersP z l) (t : Int) : VersP z (keepL l t) := by
 have hs : (keepL l t).Sublist l := List.filter_sublist
 have ho : (keepL l t).Pairwise Beh := List.Pairwise.sublist hs h.ord2
 refine ⟨h.now0, h.now, Nat.le_trans (keepL_length l t) h.len, fun i hi => versP_mem h (hs.subset (List.getElem_mem hi)), fun i hi => ahead_of_beh ((List.pairwise_iff_getElem.1 ho) i (i + 1) (by omega) hi (by omega)), fun s h0 h1 => Nat.le_trans ?_ (h.few s h0 h1)⟩
 unfold atL
 rw [List.length_map, List.length_map]
 exact (List.Sublist.filter _ hs).length_le
theorem keep_keep (l : List V) (t : Int) : keepL (keepL l t) t = keepL l t := by
 unfold keepL
 rw [List.filter_filter]
 refine List.filter_congr fun x _ => ?_
 simp
theorem trim_ok {z t : Int} {l : List V} (h : versB z l = true) : trimZ z l = z ∧ trimL z l t = keepL l t ∧ versB z (keepL l t) = true ∧ trimZ z (keepL l t) = z ∧ trimL z (keepL l t) t = keepL l t := by
 have h' := versB_yes (keep_P (versB_iff.1 h) t)
 unfold trimZ trimL
 rw [h, h', keep_keep]
 exact ⟨rfl, rfl, rfl, rfl, rfl⟩
/-! one key -/
/-! what stands behind what is done -/
/-- what stands under a key of the list ends now -/
noncomputable def endAll (ws : List X) (now : Int) (v : V) : V := open Classical in if ∃ x ∈ ws, x.k = v.k then endV now v else v
theorem endV_k (now : Int) (v : V) : (endV now v).k = v.k := by unfold endV; split <;> rfl
theorem endV_endV {now : Int} (h : now ≠ 0) (v : V) : endV now (endV now v) = endV now v := by
 by_cases h0 : v.t = 0
 ·
  have e : endV now v = ⟨v.k, v.n, v.f, now⟩ := by unfold endV; rw [if_pos h0]
  rw [e]; unfold endV; rw [if_neg h]
 ·
  have e : endV now v = v := by unfold endV; rw [if_neg h0]
  rw [e, e]
theorem endF_eq (key : ByteArray) (now : Int) (v : V) : (v.k = key → endF key now v = endV now v) ∧ (v.k ≠ key → endF key now v = v) := by
 unfold endF
 constructor
 ·
  intro h; rw [h]; simp
 ·
  intro h; rw [str_ne h]; rfl
theorem endAll_yes {ws : List X} {now : Int} {v : V} (h : ∃ x ∈ ws, x.k = v.k) : endAll ws now v = endV now v := by unfold endAll; rw [if_pos h]
theorem endAll_no {ws : List X} {now : Int} {v : V} (h : ¬ ∃ x ∈ ws, x.k = v.k) : endAll ws now v = v := by unfold endAll; rw [if_neg h]
theorem endAll_cons {x : X} {ws : List X} {now : Int} (hn : now ≠ 0) (v : V) : endAll ws now (endF x.k now v) = endAll (x :: ws) now v := by
 by_cases hk : v.k = x.k
 ·
  rw [(endF_eq x.k now v).1 hk, endAll_yes (ws := x :: ws) ⟨x, by simp, hk.symm⟩]
  by_cases hw : ∃ y ∈ ws, y.k = (endV now v).k
  ·
   rw [endAll_yes hw, endV_endV hn]
  ·
   rw [endAll_no hw]
 ·
  rw [(endF_eq x.k now v).2 hk]
  by_cases hw : ∃ y ∈ ws, y.k = v.k
  ·
   obtain ⟨y, hy, e⟩ := hw
   rw [endAll_yes ⟨y, hy, e⟩, endAll_yes ⟨y, by simp [hy], e⟩]
  ·
   rw [endAll_no hw, endAll_no]
   rintro ⟨y, hy, e⟩
   rcases List.mem_cons.1 hy with rfl | hy
   ·
    exact hk e.symm
   ·
    exact hw ⟨y, hy, e⟩
theorem mem_write {l : List V} {x : X} {now : Int} {y : V} : y ∈ writeL l x now ↔ (∃ v ∈ l, y = endF x.k now v) ∨ (x.g = false ∧ y = ⟨x.k, x.n, now, 0⟩) := by
 have hm : y ∈ l.map (endF x.k now) ↔ ∃ v ∈ l, y = endF x.k now v := by
  rw [List.mem_map]
  exact ⟨fun ⟨v, h1, h2⟩ => ⟨v, h1, h2.symm⟩, fun ⟨v, h1, h2⟩ => ⟨v, h1, h2.symm⟩⟩
 unfold writeL
 split
 ·
  rename_i hg
  rw [hm]
  exact ⟨.inl, fun h => h.elim id fun h => by rw [hg] at h; cases h.1⟩
 ·
  rename_i hg
  have hg : x.g = false := by simpa using hg
  have hq : y ∈ l.map (endF x.k now) ↔ y ∈ (l.map (endF x.k now)).take (placeL l x.k) ∨ y ∈ (l.map (endF x.k now)).drop (placeL l x.k) := by
   rw [← List.mem_append, List.take_append_drop]
  simp only [List.mem_append, List.mem_cons, List.not_mem_nil, or_false]
  rw [← hm, hq]
  constructor
  ·
   rintro ((h | h) | h)
   ·
    exact .inl (.inl h)
   ·
    exact .inr ⟨hg, h⟩
   ·
    exact .inl (.inr h)
  ·
   rintro ((h | h) | ⟨_, h⟩)
   ·
    exact .inl (.inl h)
   ·
    exact .inr h
   ·
    exact .inl (.inr h)
def AscW (ws : List X) : Prop := ws.Pairwise fun a b => lt a.k b.k = true
theorem WritesP.ascW {ws : List X} (h : WritesP ws) : AscW ws := by
 have key : ∀ j (hj : j < ws.length) i (hi : i < j), lt (ws[i]'(by omega)).k ws[j].k = true := by
  intro j
  induction j with
  | zero => intro hj i h; omega
  | succ j ih =>
   intro hj i hi
   by_cases e : i = j
   ·
    subst e; exact h.asc i hj
   ·
    exact lt_trans (ih (by omega) i (by omega)) (h.asc j hj)
 exact List.pairwise_iff_getElem.2 fun i j hi hj hij => key j hj i hij
theorem mem_doAll {now : Int} (hn : now ≠ 0) {y : V} : (ws : List X) → AscW ws → (l : List V) → (y ∈ doAll l ws now ↔ (∃ v ∈ l, y = endAll ws now v) ∨ (∃ x ∈ ws, x.g = false ∧ y = ⟨x.k, x.n, now, 0⟩))
 | [], _, l => by
  show y ∈ l ↔ _
  constructor
  ·
   intro h; exact .inl ⟨y, h, by rw [endAll_no]; simp⟩
  ·
   rintro (⟨v, hv, e⟩ | ⟨x, hx, _⟩)
   ·
    rw [endAll_no (by simp)] at e; rw [e]; exact hv
   ·
    simp at hx
 | x :: ws, ha, l => by
  have ha' := List.pairwise_cons.1 ha
  show y ∈ doAll (writeL l x now) ws now ↔ _
  rw [mem_doAll hn ws ha'.2]
  have hnew : endAll ws now ⟨x.k, x.n, now, 0⟩ = ⟨x.k, x.n, now, 0⟩ := endAll_no fun ⟨u, hu, e⟩ => by
   have := ha'.1 u hu
   rw [e, lt_irrefl] at this; cases this
  constructor
  ·
   rintro (⟨v, hv, rfl⟩ | ⟨u, hu, h⟩)
   ·
    rcases mem_write.1 hv with ⟨v0, hv0, rfl⟩ | ⟨hg, rfl⟩
    ·
     exact .inl ⟨v0, hv0, endAll_cons hn v0⟩
    ·
     exact .inr ⟨x, by simp, hg, hnew⟩
   ·
    exact .inr ⟨u, by simp [hu], h⟩
  ·
   rintro (⟨v, hv, rfl⟩ | ⟨u, hu, hg, rfl⟩)
   ·
    exact .inl ⟨endF x.k now v, mem_write.2 (.inl ⟨v, hv, rfl⟩), (endAll_cons hn v).symm⟩
   ·
    rcases List.mem_cons.1 hu with rfl | hu
    ·
     exact .inl ⟨_, mem_write.2 (.inr ⟨hg, rfl⟩), hnew.symm⟩
    ·
     exact .inr ⟨u, hu, hg, rfl⟩
theorem ascW_inj {ws : List X} (h : AscW ws) {a b : X} (ha : a ∈ ws) (hb : b ∈ ws) (e : a.k = b.k) : a = b := by
 obtain ⟨i, hi, rfl⟩ := List.getElem_of_mem ha
 obtain ⟨j, hj, rfl⟩ := List.getElem_of_mem hb
 have hp := List.pairwise_iff_getElem.1 h
 rcases Nat.lt_trichotomy i j with hij | rfl | hij
 ·
  have := hp i j hi hj hij; rw [e, lt_irrefl] at this; cases this
 ·
  rfl
 ·
  have := hp j i hj hi hij; rw [e, lt_irrefl] at this; cases this
/-- the rows behind what is done: what is written stands, all else stands as it stood -/
theorem look_do {z : Int} {l : List V} {ws : List X} (h : doB z l ws = true) (key : ByteArray) (n : Int) :
  look key (atL (doAll l ws (z + 1)) (z + 1)) = some n ↔ (∃ x ∈ ws, x.g = false ∧ x.k = key ∧ x.n = n) ∨ ((¬ ∃ x ∈ ws, x.k = key) ∧ look key (atL l z) = some n) := by
 obtain ⟨p1, p2, p3, -, -⟩ := do_parts h
 have hz := p1.now0
 rw [look_at_iff p3 (by omega) (Int.le_refl _), look_at_iff p1 hz (Int.le_refl _)]
 constructor
 ·
  rintro ⟨y, hy, hv, rfl, rfl⟩
  rcases (mem_doAll (show z + 1 ≠ 0 by omega) ws p2.ascW l).1 hy with ⟨v, hvl, rfl⟩ | ⟨x, hx, hg, rfl⟩
  ·
   have hb := verB_f (versP_mem p1 hvl)
   by_cases hw : ∃ x ∈ ws, x.k = v.k
   ·
    exfalso
    rw [endAll_yes hw] at hv
    unfold endV visB at hv
    split at hv <;> simp only [Bool.and_eq_true, Bool.or_eq_true, decide_eq_true_eq] at hv <;> omega
   ·
    rw [endAll_no hw] at hv ⊢
    refine .inr ⟨hw, v, hvl, ?_, rfl, rfl⟩
    unfold visB at *
    simp only [Bool.and_eq_true, Bool.or_eq_true, decide_eq_true_eq] at *
    omega
  ·
   exact .inl ⟨x, hx, hg, rfl, rfl⟩
 ·
  rintro (⟨x, hx, hg, rfl, rfl⟩ | ⟨hw, v, hvl, hv, rfl, rfl⟩)
  ·
   refine ⟨_, (mem_doAll (show z + 1 ≠ 0 by omega) ws p2.ascW l).2 (.inr ⟨x, hx, hg, rfl⟩), ?_, rfl, rfl⟩
   unfold visB
   simp
  ·
   refine ⟨v, (mem_doAll (show z + 1 ≠ 0 by omega) ws p2.ascW l).2 (.inl ⟨v, hvl, (endAll_no hw).symm⟩), ?_, rfl, rfl⟩
   have hb := verB_f (versP_mem p1 hvl)
   unfold visB at *
   simp only [Bool.and_eq_true, Bool.or_eq_true, decide_eq_true_eq] at *
   omega
/-! rows that are turned by hand: first all that goes, then all that is put -/
theorem look_some_of {a : Option Int} (h : a.isSome = true) : ∃ n, a = some n := by
 cases a with
 | none => cases h
 | some n => exact ⟨n, rfl⟩
theorem srt_len : {a b : List R} → Srt a → Srt b → (∀ k, (look k a).isSome = true → (look k b).isSome = true) → a.length ≤ b.length
 | [], b, _, _, _ => by simp
 | r :: a, b, ha, hb, h => by
  have ha' := List.pairwise_cons.1 ha
  have hr : look r.1 (r :: a) = some r.2 := mem_look ha (by simp)
  have hrb := h r.1 (by rw [hr]; rfl)
  have hd := del_length r.1 b
  rw [if_pos hrb] at hd
  have hpos : 0 < b.length := by
   cases b with
   | nil => simp [look] at hrb
   | cons _ _ => simp
  have ih := srt_len (a := a) (b := del r.1 b) ha'.2 (del_srt hb) fun k hk => by
   obtain ⟨n, hn⟩ := look_some_of hk
   have hm := look_mem hn
   have hlt := ha'.1 _ hm
   have hne : k ≠ r.1 := (lt_ne hlt).symm
   rw [look_del k hb, if_neg hne]
   refine h k ?_
   have : look k (r :: a) = some n := mem_look (r := (k, n)) ha (List.mem_cons_of_mem _ hm)
   rw [this]; rfl
  simp only [List.length_cons]
  omega
theorem fitR_versAt {z : Int} {l : List V} (h : FitVs l) (t : Int) : FitR (versAt z l t) := by
 unfold versAt
 split
 ·
  intro r hr
  obtain ⟨x, hx, rfl⟩ := List.mem_map.1 hr
  have := h x (List.mem_filter.1 hx).1
  exact ⟨this.1, this.2.1, this.2.2.1⟩
 ·
  intro r hr; simp at hr

end Go.Proofs.YtbeklnhngjmpiaaGreat
