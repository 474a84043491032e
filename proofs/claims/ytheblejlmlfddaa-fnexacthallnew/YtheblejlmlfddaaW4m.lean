/- Chapter 4, plain mathematics: what one asks, seats, what is done and told. -/
import Derived.Test.YtheblejlmlfddaaW3q
import Derived.Test.YtheblejlmlfddaaA7
namespace Go.Proofs.Ytheblejlmlfddaa
open Go.RowKit
set_option linter.unusedVariables false

/-- what one asks -/
structure Q4 where
 kind : Int
 key : ByteArray
 hi : ByteArray
 num : Int
/-- a seat -/
structure S4 where
 on : Bool
 bad : Bool
 a : Int
 ws : List X
/-- what comes of it -/
structure A4 where
 z : Int
 l : List V
 s : S4
 r : List R
 c : Int
def zS : S4 := ⟨false, false, 0, []⟩
def keyK (k : Int) : Bool := decide (1 ≤ k) && decide (k ≤ 6)
def hiK (k : Int) : Bool := decide (k = 2) || decide (k = 3)
def numK (k : Int) : Bool := decide (k = 4) || decide (k = 5)
def keyQ (q : Q4) : Bool := if keyK q.kind then keyB q.key else decide (q.key.size = 0)
def hiQ (q : Q4) : Bool := if hiK q.kind then keyB q.hi else decide (q.hi.size = 0)
def numQ (q : Q4) : Bool := if numK q.kind then numB q.num else decide (q.num = 0)
def askB (q : Q4) : Bool := decide (1 ≤ q.kind) && decide (q.kind ≤ 9) && keyQ q && hiQ q && numQ q
theorem askB_iff {q : Q4} : askB q = true ↔ 1 ≤ q.kind ∧ q.kind ≤ 9 ∧ keyQ q = true ∧ hiQ q = true ∧ numQ q = true := by
 unfold askB
 simp only [Bool.and_eq_true, decide_eq_true_eq]
 exact ⟨fun ⟨⟨⟨⟨a, b⟩, c⟩, d⟩, e⟩ => ⟨a, b, c, d, e⟩, fun ⟨a, b, c, d, e⟩ => ⟨⟨⟨⟨a, b⟩, c⟩, d⟩, e⟩⟩
theorem keyQ_key {q : Q4} (h : keyQ q = true) (h1 : 1 ≤ q.kind) (h2 : q.kind ≤ 6) : keyB q.key = true := by
 unfold keyQ keyK at h
 rw [decide_eq_true h1, decide_eq_true h2] at h
 exact h
noncomputable def offB (s : S4) : Bool := !s.bad && decide (s.a = 0) && decide (s.ws.length = 0)
noncomputable def seatB (z : Int) (l : List V) (s : S4) : Bool := versB z l && (if s.on then workB z l s.a s.ws else offB s)
/-- a seat is right -/
theorem seat_on {z : Int} {l : List V} {s : S4} (h : seatB z l s = true) (ho : s.on = true) : WorkP z l s.a s.ws := by
 unfold seatB at h; rw [ho] at h; simp only [Bool.and_eq_true, if_true] at h; exact workB_iff.1 h.2
theorem seat_vers {z : Int} {l : List V} {s : S4} (h : seatB z l s = true) : VersP z l := by
 unfold seatB at h; simp only [Bool.and_eq_true] at h; exact versB_iff.1 h.1
theorem seat_off {z : Int} {l : List V} {s : S4} (h : seatB z l s = true) (ho : s.on = false) : s = zS := by
 unfold seatB offB at h; rw [ho] at h
 simp only [Bool.and_eq_true, Bool.false_eq_true, if_false, decide_eq_true_eq, Bool.not_eq_true'] at h
 obtain ⟨on, bad, a, ws⟩ := s
 obtain ⟨h1, ⟨h2, h3⟩, h4⟩ := h
 simp only at ho h2 h3 h4
 have h5 := List.eq_nil_of_length_eq_zero h4
 subst ho h2 h3 h5
 rfl
theorem seat_bad {z : Int} {l : List V} {s : S4} (h : seatB z l s = true) (hb : s.bad = true) : s.on = true := by
 cases ho : s.on
 ·
  have := seat_off h ho; subst this; cases hb
 ·
  rfl
theorem seat_mk {z : Int} {l : List V} {s : S4} (ho : s.on = true) (h : WorkP z l s.a s.ws) : seatB z l s = true := by
 unfold seatB; rw [ho, workB_iff.2 h, versB_yes h.vers]; rfl
theorem seat_z {z : Int} {l : List V} (h : versB z l = true) : seatB z l zS = true := by unfold seatB; rw [h]; rfl

/-- behind something that went wrong -/
def wrong (s : S4) : S4 := ⟨s.on, s.on, s.a, s.ws⟩
theorem seat_wrong {z : Int} {l : List V} {s : S4} (h : seatB z l s = true) : seatB z l (wrong s) = true := by
 cases ho : s.on
 ·
  have e := seat_off h ho; subst e; exact h
 ·
  exact seat_mk (s := wrong s) ho (show WorkP z l s.a s.ws from seat_on h ho)
noncomputable def toldR (rows : List R) (q : Q4) : List R := if q.kind = 2 then inV rows q.key q.hi else if q.kind = 3 then [(q.key, sumN (inV rows q.key q.hi))] else if getB rows q.key then [(q.key, getN rows q.key)] else []
noncomputable def toldC (rows : List R) (q : Q4) : Int := if q.kind = 2 ∨ q.kind = 3 then 0 else if getB rows q.key then 0 else 4
noncomputable def wrC (rows : List R) (q : Q4) : Int := if q.kind ≠ 4 ∧ getB rows q.key = false then 4 else if q.kind = 5 ∧ numB (getN rows q.key + q.num) = false then 6 else 0
noncomputable def wrX (rows : List R) (q : Q4) : X := if q.kind = 6 then ⟨q.key, 0, true⟩ else if q.kind = 5 then ⟨q.key, getN rows q.key + q.num, false⟩ else ⟨q.key, q.num, false⟩
theorem wrX_k (rows : List R) (q : Q4) : (wrX rows q).k = q.key := by 
 unfold wrX
 split
 ·
  rfl
 ·
  split <;> rfl
def turnA (z : Int) (s : S4) : Int := if s.on then s.a else z
def turnW (s : S4) : List X := if s.on then s.ws else []
noncomputable def turnV (z : Int) (l : List V) (s : S4) (q : Q4) : A4 :=
 if wrC (workRows z l (turnA z s) (turnW s)) q = 0 then
  if wputC z l (turnA z s) (turnW s) (wrX (workRows z l (turnA z s) (turnW s)) q) = 0 then
   if s.on then ⟨z, l, ⟨s.on, s.bad, wputA z l (turnA z s) (turnW s), wputW z l (turnA z s) (turnW s) (wrX (workRows z l (turnA z s) (turnW s)) q)⟩, [], 0⟩
   else ⟨endZ z l (wputA z l (turnA z s) (turnW s)) (wputW z l (turnA z s) (turnW s) (wrX (workRows z l (turnA z s) (turnW s)) q)), endL z l (wputA z l (turnA z s) (turnW s)) (wputW z l (turnA z s) (turnW s) (wrX (workRows z l (turnA z s) (turnW s)) q)), s, [], endC z l (wputA z l (turnA z s) (turnW s)) (wputW z l (turnA z s) (turnW s) (wrX (workRows z l (turnA z s) (turnW s)) q))⟩
  else ⟨z, l, wrong s, [], wputC z l (turnA z s) (turnW s) (wrX (workRows z l (turnA z s) (turnW s)) q)⟩
 else ⟨z, l, wrong s, [], wrC (workRows z l (turnA z s) (turnW s)) q⟩
noncomputable def endsV (z : Int) (l : List V) (s : S4) (k : Int) : A4 :=
 if s.on then (if k = 9 then ⟨z, l, zS, [], 0⟩ else if s.bad then ⟨z, l, zS, [], 5⟩ else ⟨endZ z l s.a s.ws, endL z l s.a s.ws, zS, [], endC z l s.a s.ws⟩) else ⟨z, l, s, [], 4⟩
noncomputable def seesV (z : Int) (l : List V) (s : S4) : List R := if s.on then workRows z l s.a s.ws else atL l z
noncomputable def toldV (z : Int) (l : List V) (s : S4) (q : Q4) : A4 := ⟨z, l, if toldC (seesV z l s) q = 0 then s else wrong s, toldR (seesV z l s) q, toldC (seesV z l s) q⟩
noncomputable def doV (z : Int) (l : List V) (s : S4) (q : Q4) : A4 :=
 if askB q then
  if q.kind = 8 ∨ q.kind = 9 then endsV z l s q.kind
  else if s.bad then ⟨z, l, s, [], 5⟩
  else if q.kind = 7 then (if s.on then ⟨z, l, wrong s, [], 4⟩ else ⟨z, l, ⟨true, false, newA z l, []⟩, [], 0⟩)
  else if 4 ≤ q.kind then turnV z l s q
  else toldV z l s q
 else ⟨z, l, wrong s, [], 1⟩
noncomputable def askV (z : Int) (l : List V) (s : S4) (q : Q4) : A4 := if seatB z l s then doV z l s q else ⟨0, [], zS, [], 1⟩

/-! each way -/
theorem ask_not {z : Int} {l : List V} {s : S4} (h : seatB z l s = false) (q : Q4) : askV z l s q = ⟨0, [], zS, [], 1⟩ := by unfold askV; rw [h]; rfl
theorem ask_form {z : Int} {l : List V} {s : S4} {q : Q4} (h : seatB z l s = true) (hq : askB q = false) : askV z l s q = ⟨z, l, wrong s, [], 1⟩ := by unfold askV doV; rw [h, hq]; rfl
theorem ask_end {z : Int} {l : List V} {s : S4} {q : Q4} (h : seatB z l s = true) (hq : askB q = true) (hk : q.kind = 8 ∨ q.kind = 9) : askV z l s q = endsV z l s q.kind := by unfold askV doV; rw [h, hq, if_pos rfl, if_pos rfl, if_pos hk]
theorem ask_bad {z : Int} {l : List V} {s : S4} {q : Q4} (h : seatB z l s = true) (hq : askB q = true) (hk : ¬ (q.kind = 8 ∨ q.kind = 9)) (hb : s.bad = true) : askV z l s q = ⟨z, l, s, [], 5⟩ := by unfold askV doV; rw [h, hq, if_pos rfl, if_pos rfl, if_neg hk, hb]; rfl
theorem ask_begin {z : Int} {l : List V} {s : S4} {q : Q4} (h : seatB z l s = true) (hq : askB q = true) (hb : s.bad = false) (hk : q.kind = 7) : askV z l s q = if s.on then ⟨z, l, wrong s, [], 4⟩ else ⟨z, l, ⟨true, false, z, []⟩, [], 0⟩ := by
 have hn : newA z l = z := by unfold newA; rw [versB_yes (seat_vers h)]; rfl
 unfold askV doV; rw [h, hq, if_pos rfl, if_pos rfl, if_neg (by omega), hb, if_neg (by simp), if_pos hk, hn]
theorem ask_turn {z : Int} {l : List V} {s : S4} {q : Q4} (h : seatB z l s = true) (hq : askB q = true) (hb : s.bad = false) (h4 : 4 ≤ q.kind) (h6 : q.kind ≤ 6) : askV z l s q = turnV z l s q := by
 unfold askV doV; rw [h, hq, if_pos rfl, if_pos rfl, if_neg (by omega), hb, if_neg (by simp), if_neg (by omega), if_pos h4]
theorem ask_told {z : Int} {l : List V} {s : S4} {q : Q4} (h : seatB z l s = true) (hq : askB q = true) (hb : s.bad = false) (h3 : q.kind ≤ 3) : askV z l s q = toldV z l s q := by
 unfold askV doV; rw [h, hq, if_pos rfl, if_pos rfl, if_neg (by omega), hb, if_neg (by simp), if_neg (by omega), if_neg (by omega)]
/-- the ways out of an end -/
theorem end_ok {z : Int} {l : List V} {a : Int} {ws : List X} (h : WorkP z l a ws) : versB (endZ z l a ws) (endL z l a ws) = true ∧ (endC z l a ws ≠ 0 → endZ z l a ws = z ∧ endL z l a ws = l) ∧ (endC z l a ws = 0 → endZ z l a ws = z ∨ endZ z l a ws = z + 1) := by
 by_cases hc : endC z l a ws = 0
 ·
  refine ⟨(end_sees hc rfl rfl).1, fun h => absurd hc h, fun _ => ?_⟩
  obtain ⟨-, -, ⟨-, e, -⟩ | ⟨-, -, e, -⟩⟩ := end_fine hc
  ·
   exact .inl e
  ·
   exact .inr e
 ·
  rcases end_not hc with ⟨_, e1, e2⟩ | ⟨hk, _, _⟩
  ·
   exact ⟨by rw [e1, e2]; exact versB_yes h.vers, fun _ => ⟨e1, e2⟩, fun h => absurd h hc⟩
  ·
   rw [workB_iff.2 h] at hk; cases hk
theorem turn_work {z : Int} {l : List V} {s : S4} (h : seatB z l s = true) : WorkP z l (turnA z s) (turnW s) := by
 unfold turnA turnW
 cases ho : s.on
 ·
  exact new_ok (seat_vers h)
 ·
  exact seat_on h ho
/-- all that turning does -/
theorem turn_ways {z : Int} {l : List V} {s : S4} {q : Q4} (h : seatB z l s = true) {A : A4} (e : turnV z l s q = A) :
  (A.z = z ∧ A.l = l ∧ A.s = wrong s ∧ A.r = [] ∧ A.c ≠ 0) ∨
  ∃ x : X, x.k = q.key ∧ x = wrX (workRows z l (turnA z s) (turnW s)) q ∧ wrC (workRows z l (turnA z s) (turnW s)) q = 0 ∧ wputC z l (turnA z s) (turnW s) x = 0 ∧ A.r = [] ∧
   ((s.on = true ∧ A.z = z ∧ A.l = l ∧ A.s = ⟨true, s.bad, turnA z s, putXs (turnW s) x⟩ ∧ A.c = 0) ∨
    (s.on = false ∧ A.z = endZ z l z [x] ∧ A.l = endL z l z [x] ∧ A.s = s ∧ A.c = endC z l z [x] ∧ wputC z l z [] x = 0)) := by
 subst e
 unfold turnV
 by_cases h1 : wrC (workRows z l (turnA z s) (turnW s)) q = 0
 ·
  rw [if_pos h1]
  by_cases h2 : wputC z l (turnA z s) (turnW s) (wrX (workRows z l (turnA z s) (turnW s)) q) = 0
  ·
   rw [if_pos h2]
   obtain ⟨-, -, -, -, e1, e2⟩ := put_fine h2
   refine .inr ⟨_, wrX_k _ _, rfl, h1, h2, ?_⟩
   rw [e1, e2]
   cases ho : s.on
   ·
    refine ⟨rfl, .inr ⟨rfl, ?_⟩⟩
    have ea : turnA z s = z := by unfold turnA; rw [ho]; rfl
    have ew : turnW s = [] := by unfold turnW; rw [ho]; rfl
    rw [ea, ew] at h2 ⊢
    have ep : ∀ x : X, putXs [] x = [x] := fun x => rfl
    rw [ep]
    exact ⟨rfl, rfl, rfl, rfl, h2⟩
   ·
    exact ⟨rfl, .inl ⟨rfl, rfl, rfl, rfl, rfl⟩⟩
  ·
   rw [if_neg h2]; exact .inl ⟨rfl, rfl, rfl, rfl, h2⟩
 ·
  rw [if_neg h1]; exact .inl ⟨rfl, rfl, rfl, rfl, h1⟩

/-- WHAT ONE ASKS LEAVES ALL RIGHT -/
theorem ask_ok {z : Int} {l : List V} {s : S4} (h : seatB z l s = true) (q : Q4) :
  seatB (askV z l s q).z (askV z l s q).l (askV z l s q).s = true ∧
  ((askV z l s q).c ≠ 0 ∨ (s.on = true ∧ q.kind ≠ 8) → (askV z l s q).z = z ∧ (askV z l s q).l = l) ∧
  ((askV z l s q).z = z ∨ (askV z l s q).z = z + 1) := by
 have hv := versB_yes (seat_vers h)
 cases hq : askB q
 ·
  rw [ask_form h hq]; exact ⟨seat_wrong h, fun _ => ⟨rfl, rfl⟩, .inl rfl⟩
 ·
  by_cases hk : q.kind = 8 ∨ q.kind = 9
  ·
   rw [ask_end h hq hk]
   unfold endsV
   cases ho : s.on
   ·
    exact ⟨h, fun _ => ⟨rfl, rfl⟩, .inl rfl⟩
   ·
    by_cases h9 : q.kind = 9
    ·
     rw [if_pos rfl, if_pos h9]; exact ⟨seat_z hv, fun _ => ⟨rfl, rfl⟩, .inl rfl⟩
    ·
     rw [if_pos rfl, if_neg h9]
     cases hb : s.bad
     ·
      obtain ⟨o1, o2, o3⟩ := end_ok (seat_on h ho)
      refine ⟨seat_z o1, ?_, ?_⟩
      ·
       rintro (hc | ⟨_, h8⟩)
       ·
        exact o2 hc
       ·
        exact absurd (hk.resolve_right h9) h8
      ·
       show endZ z l s.a s.ws = z ∨ endZ z l s.a s.ws = z + 1
       by_cases hc : endC z l s.a s.ws = 0
       ·
        exact o3 hc
       ·
        exact .inl (o2 hc).1
     ·
      exact ⟨seat_z hv, fun _ => ⟨rfl, rfl⟩, .inl rfl⟩
  ·
   cases hb : s.bad
   ·
    by_cases h7 : q.kind = 7
    ·
     rw [ask_begin h hq hb h7]
     cases ho : s.on
     ·
      exact ⟨seat_mk rfl (new_ok (seat_vers h)), fun _ => ⟨rfl, rfl⟩, .inl rfl⟩
     ·
      exact ⟨seat_wrong h, fun _ => ⟨rfl, rfl⟩, .inl rfl⟩
    ·
     have hr := askB_iff.1 hq
     by_cases h4 : 4 ≤ q.kind
     ·
      rw [ask_turn h hq hb h4 (by omega)]
      obtain ⟨A, hA⟩ : ∃ A, turnV z l s q = A := ⟨_, rfl⟩
      rw [hA]
      rcases turn_ways h hA with ⟨e1, e2, e3, e4, e5⟩ | ⟨x, hx, ex, hwr, hput, er, ⟨ho, e1, e2, e3, e4⟩ | ⟨ho, e1, e2, e3, e4, hput0⟩⟩
      ·
       rw [e1, e2, e3]; exact ⟨seat_wrong h, fun _ => ⟨rfl, rfl⟩, .inl rfl⟩
      ·
       rw [e1, e2, e3]
       obtain ⟨-, -, -, p4, -, -⟩ := put_fine hput
       exact ⟨seat_mk rfl p4, fun _ => ⟨rfl, rfl⟩, .inl rfl⟩
      ·
       obtain ⟨-, -, -, p4, -, -⟩ := put_fine hput0
       obtain ⟨o1, o2, o3⟩ := end_ok (show WorkP z l z [x] from p4)
       have es := seat_off h ho
       rw [e1, e2, e3, e4, es]
       refine ⟨seat_z o1, ?_, ?_⟩
       ·
        rintro (hc | ⟨hc, _⟩)
        ·
         exact o2 hc
        ·
         cases hc
       ·
        by_cases hc : endC z l z [x] = 0
        ·
         exact o3 hc
        ·
         exact .inl (o2 hc).1
     ·
      rw [ask_told h hq hb (by omega)]
      unfold toldV
      refine ⟨?_, fun _ => ⟨rfl, rfl⟩, .inl rfl⟩
      show seatB z l (if toldC (seesV z l s) q = 0 then s else wrong s) = true
      split
      ·
       exact h
      ·
       exact seat_wrong h
   ·
    rw [ask_bad h hq hk hb]; exact ⟨h, fun _ => ⟨rfl, rfl⟩, .inl rfl⟩
/-- BEHIND WHAT WENT WRONG NOTHING IS DONE BUT THE END -/
theorem ask_stuck {z : Int} {l : List V} {s : S4} (h : seatB z l s = true) (hb : s.bad = true) (q : Q4) :
  ((askV z l s q).c = 0 → q.kind = 9) ∧ (askV z l s q).r = [] ∧ (askV z l s q).z = z ∧ (askV z l s q).l = l ∧
  ((askB q = true ∧ (q.kind = 8 ∨ q.kind = 9)) → (askV z l s q).s = zS) ∧ (¬ (askB q = true ∧ (q.kind = 8 ∨ q.kind = 9)) → (askV z l s q).s = s) := by
 have ho := seat_bad h hb
 have hws : wrong s = s := by obtain ⟨on, bad, a, ws⟩ := s; simp only at ho hb; subst ho hb; rfl
 cases hq : askB q
 ·
  rw [ask_form h hq, hws]
  exact ⟨(fun h => by cases h), rfl, rfl, rfl, (fun h => by cases h.1), fun _ => rfl⟩
 ·
  by_cases hk : q.kind = 8 ∨ q.kind = 9
  ·
   rw [ask_end h hq hk]
   unfold endsV
   rw [ho, if_pos rfl, hb]
   by_cases h9 : q.kind = 9
   ·
    rw [if_pos h9]; exact ⟨fun _ => h9, rfl, rfl, rfl, fun _ => rfl, fun h => absurd ⟨rfl, hk⟩ h⟩
   ·
    rw [if_neg h9, if_pos rfl]; exact ⟨(fun h => by cases h), rfl, rfl, rfl, fun _ => rfl, fun h => absurd ⟨rfl, hk⟩ h⟩
  ·
   rw [ask_bad h hq hk hb]
   exact ⟨(fun h => by cases h), rfl, rfl, rfl, fun h => absurd h.2 hk, fun _ => rfl⟩
/-- by oneself nothing stands till the end -/
theorem ask_open {z : Int} {l : List V} {s : S4} (h : seatB z l s = true) (ho : s.on = true) {q : Q4} (hk : q.kind < 7) :
  (askV z l s q).z = z ∧ (askV z l s q).l = l ∧ (askV z l s q).s.on = true ∧ (askV z l s q).s.a = s.a := by
 cases hq : askB q
 ·
  rw [ask_form h hq]; exact ⟨rfl, rfl, ho, rfl⟩
 ·
  cases hb : s.bad
  ·
   by_cases h4 : 4 ≤ q.kind
   ·
    rw [ask_turn h hq hb h4 (by omega)]
    obtain ⟨A, hA⟩ : ∃ A, turnV z l s q = A := ⟨_, rfl⟩
    rw [hA]
    rcases turn_ways h hA with ⟨e1, e2, e3, e4, e5⟩ | ⟨x, hx, ex, hwr, hput, er, ⟨_, e1, e2, e3, e4⟩ | ⟨hf, _⟩⟩
    ·
     rw [e1, e2, e3]; exact ⟨rfl, rfl, ho, rfl⟩
    ·
     rw [e1, e2, e3]; exact ⟨rfl, rfl, rfl, by unfold turnA; rw [ho]; rfl⟩
    ·
     rw [ho] at hf; cases hf
   ·
    rw [ask_told h hq hb (by omega)]
    unfold toldV
    refine ⟨rfl, rfl, ?_, ?_⟩
    ·
     show (if toldC (seesV z l s) q = 0 then s else wrong s).on = true
     split
     ·
      exact ho
     ·
      exact ho
    ·
     show (if toldC (seesV z l s) q = 0 then s else wrong s).a = s.a
     split <;> rfl
  ·
   rw [ask_bad h hq (by omega) hb]; exact ⟨rfl, rfl, ho, rfl⟩
def qBegin : Q4 := ⟨7, ⟨#[]⟩, ⟨#[]⟩, 0⟩
def qEnd : Q4 := ⟨8, ⟨#[]⟩, ⟨#[]⟩, 0⟩
def qUndo : Q4 := ⟨9, ⟨#[]⟩, ⟨#[]⟩, 0⟩
theorem qBegin_ok : askB qBegin = true := by decide
theorem qEnd_ok : askB qEnd = true := by decide
theorem qUndo_ok : askB qUndo = true := by decide
theorem begin_z {z : Int} {l : List V} (h : versB z l = true) : askV z l zS qBegin = ⟨z, l, ⟨true, false, z, []⟩, [], 0⟩ := by
 rw [ask_begin (seat_z h) qBegin_ok rfl rfl]; rfl
theorem begin_not {z : Int} {l : List V} (h : versB z l = false) (q : Q4) : askV z l zS q = ⟨0, [], zS, [], 1⟩ := ask_not (by unfold seatB; rw [h]; rfl) q
theorem undo_on {z : Int} {l : List V} {s : S4} (h : seatB z l s = true) (ho : s.on = true) : askV z l s qUndo = ⟨z, l, zS, [], 0⟩ := by
 rw [ask_end h qUndo_ok (.inr rfl)]; unfold endsV; rw [ho]; rfl
theorem end_on {z : Int} {l : List V} {s : S4} (h : seatB z l s = true) (ho : s.on = true) : askV z l s qEnd = if s.bad then ⟨z, l, zS, [], 5⟩ else ⟨endZ z l s.a s.ws, endL z l s.a s.ws, zS, [], endC z l s.a s.ws⟩ := by
 rw [ask_end h qEnd_ok (.inl rfl)]; unfold endsV; rw [ho, if_pos rfl, if_neg (by decide)]
/-- BY ONESELF ONE DOES ALL, OR NOTHING -/
theorem ask_whole {z : Int} {l : List V} {s : S4} (h : seatB z l s = true) (ho : s.on = true) (ha : s.a = z) :
  (askV z l s qEnd).s = zS ∧ ((askV z l s qEnd).c ≠ 0 → (askV z l s qEnd).z = z ∧ (askV z l s qEnd).l = l) ∧
  ((askV z l s qEnd).c = 0 → (askV z l s qEnd).z ≤ z + 1 ∧ versAt (askV z l s qEnd).z (askV z l s qEnd).l (askV z l s qEnd).z = workRows z l s.a s.ws) := by
 rw [end_on h ho]
 cases hb : s.bad
 ·
  obtain ⟨o1, o2, o3⟩ := end_ok (seat_on h ho)
  refine ⟨rfl, o2, fun hc => ⟨?_, ?_⟩⟩
  ·
   have := o3 hc
   show endZ z l s.a s.ws ≤ z + 1
   omega
  ·
   exact (end_sees hc rfl rfl).2.2 ha
 ·
  exact ⟨rfl, fun _ => ⟨rfl, rfl⟩, fun h => by cases h⟩
/-- WHAT ONE IS TOLD IS WHAT ONE SEES -/
theorem ask_tells {z : Int} {l : List V} {s : S4} (h : seatB z l s = true) {q : Q4} (hk : q.kind ≤ 3) (hc : (askV z l s q).c = 0) :
  (askV z l s q).z = z ∧ (askV z l s q).l = l ∧ (askV z l s q).s = s ∧ (askV z l s q).r = toldR (seesV z l s) q ∧ 1 ≤ q.kind ∧ (q.kind = 1 → getB (seesV z l s) q.key = true) := by
 cases hq : askB q
 ·
  rw [ask_form h hq] at hc; cases hc
 ·
  have hr := askB_iff.1 hq
  cases hb : s.bad
  ·
   rw [ask_told h hq hb hk] at hc ⊢
   unfold toldV at hc ⊢
   simp only at hc
   refine ⟨rfl, rfl, by show (if toldC (seesV z l s) q = 0 then s else wrong s) = s; rw [if_pos hc], rfl, hr.1, fun h1 => ?_⟩
   unfold toldC at hc
   rw [if_neg (by omega)] at hc
   cases hg : getB (seesV z l s) q.key
   ·
    rw [hg] at hc; cases hc
   ·
    rfl
  ·
   rw [ask_bad h hq (by omega) hb] at hc; cases hc
theorem sees_off {z : Int} {l : List V} {s : S4} (h : seatB z l s = true) (ho : s.on = false) : seesV z l s = versAt z l z := by
 unfold seesV; rw [ho, versAt_ok (versB_yes (seat_vers h)) (seat_vers h).now0 (Int.le_refl _)]; rfl
theorem sees_on {z : Int} {l : List V} {s : S4} (ho : s.on = true) : seesV z l s = workRows z l s.a s.ws := by unfold seesV; rw [ho]; rfl

end Go.Proofs.Ytheblejlmlfddaa
