/- Chapter 3, plain mathematics: what the laws with draws say of puts and commits. -/
import Derived.Test.YtheblejlmlfddaaW3n
import Derived.Test.YtheblejlmlfddaaW3e
namespace Go.Proofs.Ytheblejlmlfddaa
open Go.RowKit
set_option linter.unusedVariables false

/-- one sees what one has put, and all else as before -/
theorem put_sees {z : Int} {l : List V} {a : Int} {ws : List X} {x : X} (h : wputC z l a ws x = 0) :
  getB (workRows z l a (putXs ws x)) x.k = !x.g ∧ (x.g = false → getN (workRows z l a (putXs ws x)) x.k = x.n) ∧ cutV (workRows z l a ws) x.k = cutV (workRows z l a (putXs ws x)) x.k ∧ workB z l a (putXs ws x) = true := by
 obtain ⟨p1, p2, p3, p4, -, -⟩ := put_fine h
 have hl := look_put p1.wr.ascW p1.srt x x.k
 rw [if_pos rfl] at hl
 have hr1 := rowsB_iff.2 p1.rows
 have hr4 := rowsB_iff.2 p4.rows
 rw [workRows_ok p1, workRows_ok p4, getB_eq, getN_eq _ _ hr4, hl, hr4, cutV_eq _ hr1, cutV_eq _ hr4, put_cut p1.wr.ascW p1.srt x]
 refine ⟨by cases x.g <;> rfl, fun hg => by rw [hg]; rfl, rfl, workB_iff.2 p4⟩
theorem end_not {z : Int} {l : List V} {a : Int} {ws : List X} (h : endC z l a ws ≠ 0) : (workB z l a ws = true ∧ endZ z l a ws = z ∧ endL z l a ws = l) ∨ (workB z l a ws = false ∧ endZ z l a ws = 0 ∧ endL z l a ws = []) := by
 cases hk : workB z l a ws
 ·
  exact .inr ⟨rfl, by unfold endZ; rw [hk]; rfl, by unfold endL; rw [hk]; rfl⟩
 ·
  refine .inl ⟨rfl, ?_⟩
  unfold endC at h
  unfold endZ endL
  rw [hk] at h ⊢
  simp only [if_true] at h ⊢
  cases hb : lateB l a ws
  ·
   rw [hb] at h
   simp only [Bool.false_eq_true, if_false] at h
   by_cases h0 : ws.length = 0
   ·
    rw [if_pos h0] at h; exact absurd rfl h
   ·
    rw [if_neg h0] at h
    rw [decide_eq_false h0]
    simp only [Bool.or_self, Bool.false_eq_true, if_false]
    cases hd : doB z l ws
    ·
     rcases do_false hd with ⟨_, e1, e2⟩ | ⟨hv, _, _⟩
     ·
      exact ⟨e1, e2⟩
     ·
      rw [versB_iff.2 (workB_iff.1 hk).vers] at hv; cases hv
    ·
     rw [hd, if_pos rfl] at h; exact absurd rfl h
  ·
   simp
/-- what a commit that is fine leaves -/
theorem end_sees {z : Int} {l : List V} {a : Int} {ws : List X} {RZ : Int} {RL : List V} (h : endC z l a ws = 0) (e1 : endZ z l a ws = RZ) (e2 : endL z l a ws = RL) :
  versB RZ RL = true ∧ (∀ x ∈ ws, getB (versAt RZ RL RZ) x.k = !x.g ∧ (x.g = false → getN (versAt RZ RL RZ) x.k = x.n)) ∧ (a = z → versAt RZ RL RZ = workRows z l a ws) := by
 obtain ⟨p1, p2, ⟨hw, hz, hl⟩ | ⟨hw, hd, hz, hl⟩⟩ := end_fine h
 ·
  rw [hz] at e1; rw [hl] at e2
  subst e1 e2 hw
  refine ⟨versB_yes p1.vers, fun x hx => by simp at hx, fun e => ?_⟩
  subst e
  rw [versAt_ok (versB_yes p1.vers) p1.vers.now0 (Int.le_refl _), workRows_ok p1]
  rfl
 ·
  rw [hz] at e1; rw [hl] at e2
  subst e1 e2
  obtain ⟨d1, d2, d3, -, -⟩ := do_parts hd
  have hz0 := d1.now0
  have hv3 := versB_yes d3
  refine ⟨hv3, fun x hx => ?_, fun e => ?_⟩
  ·
   have hr := rowsB_iff.2 (at_rows d3 (show 0 ≤ z + 1 by omega) (Int.le_refl _))
   rw [versAt_ok hv3 (by omega) (Int.le_refl _), getB_eq, getN_eq _ _ hr, hr, Bool.true_and]
   cases hg : x.g
   ·
    have e := (look_do hd x.k x.n).2 (.inl ⟨x, hx, hg, rfl, rfl⟩)
    rw [e]
    exact ⟨rfl, fun _ => rfl⟩
   ·
    have e : look x.k (atL (doAll l ws (z + 1)) (z + 1)) = none := by
     cases he : look x.k (atL (doAll l ws (z + 1)) (z + 1)) with
     | none => rfl
     | some n =>
      rcases (look_do hd x.k n).1 he with ⟨y, hy, hyg, hyk, _⟩ | ⟨hno, _⟩
      ·
       have := ascW_inj d2.ascW hy hx hyk
       rw [this, hg] at hyg; cases hyg
      ·
       exact absurd ⟨x, hx, rfl⟩ hno
    rw [e]
    exact ⟨rfl, fun h => by cases h⟩
  ·
   subst e
   exact end_rows hd p1
/-- the later of two who do something to one key does nothing -/
theorem late_end {z : Int} {l : List V} {a : Int} {ws : List X} {RZ : Int} {RL : List V} (h : endC z l a ws = 0) (e1 : endZ z l a ws = RZ) (e2 : endL z l a ws = RL) (hne : ws ≠ []) {x : X} (hx : x ∈ ws)
  (hk : workB RZ RL z [⟨x.k, 7, false⟩] = true) (hor : getB (versAt z l z) x.k = true ∨ x.g = false) : endC RZ RL z [⟨x.k, 7, false⟩] = 2 := by
 obtain ⟨p1, p2, ⟨hw, hz, hl⟩ | ⟨hw, hd, hz, hl⟩⟩ := end_fine h
 ·
  exact absurd hw hne
 ·
  rw [hz] at e1; rw [hl] at e2
  subst e1 e2
  rw [versAt_ok (versB_yes p1.vers) p1.vers.now0 (Int.le_refl _)] at hor
  have hL := last_done hd (key := x.k) ⟨x, hx, rfl, hor⟩
  refine end_late.2 ⟨workB_iff.1 hk, ?_⟩
  unfold lateB
  simp only [List.any_cons, List.any_nil, Bool.or_false, decide_eq_true_eq]
  rw [hL]
  omega
theorem fine_len {z : Int} {l : List V} {a : Int} {ws : List X} (h : endC z l a ws = 0) : (endL z l a ws).length ≤ 60 ∧ 0 ≤ endZ z l a ws ∧ endZ z l a ws ≤ 40 := by
 have h1 := (end_sees h rfl rfl).1
 have h2 := versB_iff.1 h1
 exact ⟨h2.len, h2.now0, h2.now⟩
/-- what is done to different keys may be done in either order -/
theorem apart_end {z : Int} {l : List V} {a : Int} {ws us : List X} {xz yz az bz : Int} {xl yl al bl : List V}
  (hx : endC z l a ws = 0) (hx1 : endZ z l a ws = xz) (hx2 : endL z l a ws = xl) (hy : endC z l a us = 0) (hy1 : endZ z l a us = yz) (hy2 : endL z l a us = yl)
  (ha : endC xz xl a us = 0) (ha1 : endZ xz xl a us = az) (ha2 : endL xz xl a us = al) (hb : endC yz yl a ws = 0) (hb1 : endZ yz yl a ws = bz) (hb2 : endL yz yl a ws = bl)
  (hap : ∀ u ∈ us, ∀ x ∈ ws, u.k ≠ x.k) : az = bz ∧ versAt az al az = versAt bz bl bz := by
 obtain ⟨p1, p2, pc⟩ := end_fine hx
 obtain ⟨q1, q2, qc⟩ := end_fine hy
 obtain ⟨r1, r2, rc⟩ := end_fine ha
 obtain ⟨s1, s2, sc⟩ := end_fine hb
 rcases pc with ⟨ew, e1, e2⟩ | ⟨nw, dw, e1, e2⟩
 ·
  have hxz : xz = z := hx1.symm.trans e1
  have hxl : xl = l := hx2.symm.trans e2
  subst hxz hxl
  rcases sc with ⟨_, f1, f2⟩ | ⟨nw, _⟩
  ·
   have g1 : az = yz := ha1.symm.trans hy1
   have g2 : al = yl := ha2.symm.trans hy2
   have g3 : bz = yz := hb1.symm.trans f1
   have g4 : bl = yl := hb2.symm.trans f2
   subst g1 g2 g3 g4
   exact ⟨rfl, rfl⟩
  ·
   exact absurd ew nw
 ·
  rcases qc with ⟨eu, f1, f2⟩ | ⟨nu, du, f1, f2⟩
  ·
   have hyz : yz = z := hy1.symm.trans f1
   have hyl : yl = l := hy2.symm.trans f2
   subst hyz hyl
   rcases rc with ⟨_, g1, g2⟩ | ⟨nu, _⟩
   ·
    have k1 : az = xz := ha1.symm.trans g1
    have k2 : al = xl := ha2.symm.trans g2
    have k3 : bz = xz := hb1.symm.trans hx1
    have k4 : bl = xl := hb2.symm.trans hx2
    subst k1 k2 k3 k4
    exact ⟨rfl, rfl⟩
   ·
    exact absurd eu nu
  ·
   rcases rc with ⟨eu, _⟩ | ⟨_, da, g1, g2⟩
   ·
    exact absurd eu nu
   rcases sc with ⟨ew, _⟩ | ⟨_, db, k1, k2⟩
   ·
    exact absurd ew nw
   have hxz : xz = z + 1 := hx1.symm.trans e1
   have hxl := hx2.symm.trans e2
   have hyz : yz = z + 1 := hy1.symm.trans f1
   have hyl := hy2.symm.trans f2
   subst hxz hyz
   have haz : az = z + 1 + 1 := ha1.symm.trans g1
   have hal := ha2.symm.trans g2
   have hbz : bz = z + 1 + 1 := hb1.symm.trans k1
   have hbl := hb2.symm.trans k2
   subst haz hbz
   refine ⟨rfl, ?_⟩
   obtain ⟨a1, a2, a3, -, -⟩ := do_parts da
   obtain ⟨b1, b2, b3, -, -⟩ := do_parts db
   have hz0 := a1.now0
   rw [hal, hbl, versAt_ok (versB_yes a3) (by omega) (Int.le_refl _), versAt_ok (versB_yes b3) (by omega) (Int.le_refl _)]
   refine srt_ext (at_rows a3 (by omega) (Int.le_refl _)).srt (at_rows b3 (by omega) (Int.le_refl _)).srt fun k => look_ext2 fun n => ?_
   rw [look_do da, look_do db, hxl, hyl, look_do dw, look_do du]
   constructor
   ·
    rintro (⟨u, hu, h1, h2, h3⟩ | ⟨hno, ⟨y, hy, h1, h2, h3⟩ | ⟨hno2, hl⟩⟩)
    ·
     refine .inr ⟨?_, .inl ⟨u, hu, h1, h2, h3⟩⟩
     rintro ⟨y, hy, hk⟩
     exact hap u hu y hy (h2.trans hk.symm)
    ·
     exact .inl ⟨y, hy, h1, h2, h3⟩
    ·
     exact .inr ⟨hno2, .inr ⟨hno, hl⟩⟩
   ·
    rintro (⟨y, hy, h1, h2, h3⟩ | ⟨hno, ⟨u, hu, h1, h2, h3⟩ | ⟨hno2, hl⟩⟩)
    ·
     refine .inr ⟨?_, .inl ⟨y, hy, h1, h2, h3⟩⟩
     rintro ⟨u, hu, hk⟩
     exact hap u hu y hy (hk.trans h2.symm)
    ·
     exact .inl ⟨u, hu, h1, h2, h3⟩
    ·
     exact .inr ⟨hno2, .inr ⟨hno, hl⟩⟩
/-- an empty transaction does nothing -/
theorem new_end {z : Int} {l : List V} (h : versB z l = true) : newA z l = z ∧ workB z l z [] = true ∧ workRows z l z [] = versAt z l z ∧ endC z l z [] = 0 ∧ endZ z l z [] = z ∧ endL z l z [] = l := by
 have hP := versB_iff.1 h
 have hW := new_ok hP
 have hk := workB_iff.2 hW
 refine ⟨by unfold newA; rw [h]; rfl, hk, ?_, ?_, ?_, ?_⟩
 ·
  rw [workRows_ok hW, versAt_ok h hP.now0 (Int.le_refl _)]; rfl
 ·
  unfold endC lateB; rw [hk]; rfl
 ·
  unfold endZ lateB; rw [hk]; rfl
 ·
  unfold endL lateB; rw [hk]; rfl
theorem new_bad {z : Int} {l : List V} (h : versB z l = false) : newA z l = 0 := by unfold newA; rw [h]; rfl
/-- the last write to a key is what counts -/
theorem twice_put {z : Int} {l : List V} {a : Int} {ws : List X} {x : X} (h : wputC z l a ws x = 0) :
  wputC z l a (putXs ws x) x = 0 ∧ wputA z l a (putXs ws x) = a ∧ wputW z l a (putXs ws x) x = putXs ws x ∧
  ∀ o : X, o.k = x.k → wputC z l a ws o = 0 → wputC z l a (putXs ws x) o = 0 ∧ wputW z l a (putXs ws x) o = wputW z l a ws o := by
 obtain ⟨p1, p2, p3, p4, -, -⟩ := put_fine h
 have ha := p1.wr.ascW
 have e : putXs (putXs ws x) x = putXs ws x := put_put ha rfl
 have h1 : wputC z l a (putXs ws x) x = 0 := put_fine_of p4 p2 p3 (by rw [e]; exact p4)
 obtain ⟨-, -, -, -, q1, q2⟩ := put_fine h1
 refine ⟨h1, q1, q2.trans e, fun o ho hc => ?_⟩
 obtain ⟨r1, r2, r3, r4, -, s2⟩ := put_fine hc
 have e2 : putXs (putXs ws x) o = putXs ws o := put_put ha ho
 have h2 : wputC z l a (putXs ws x) o = 0 := put_fine_of p4 r2 r3 (by rw [e2]; exact r4)
 obtain ⟨-, -, -, -, -, t2⟩ := put_fine h2
 exact ⟨h2, by rw [t2, s2, e2]⟩
/-- a transaction that is bent -/
theorem bent_work {z : Int} {l : List V} {a : Int} {ws : List X} (h : workB z l a ws = false) (x : X) : wputC z l a ws x = 1 ∧ wputA z l a ws = 0 ∧ wputW z l a ws x = [] ∧ endC z l a ws = 1 ∧ endZ z l a ws = 0 ∧ endL z l a ws = [] ∧ workRows z l a ws = [] := by
 unfold wputC wputA wputW endC endZ endL workRows
 rw [h]
 exact ⟨rfl, rfl, rfl, rfl, rfl, rfl, rfl⟩
/-- what was late stays late -/
theorem late_last {z : Int} {l : List V} {a : Int} {ws ns : List X} (h : endC z l a ws = 2) (hd : doB z l ns = true) : endC (doZ z l ns) (doL z l ns) a ws = 2 := by
 obtain ⟨h1, h2⟩ := end_late.1 h
 obtain ⟨-, -, -, e1, e2⟩ := do_parts hd
 rw [e1, e2]
 exact end_late.2 ⟨(sees_do h1 hd).1, late_mono hd h2⟩
theorem fine_put {z : Int} {l : List V} {a : Int} {ws : List X} {x : X} (h : wputC z l a ws x = 0) : ws.length ≤ 6 ∧ (putXs ws x).length ≤ 6 ∧ wputA z l a ws = a ∧ wputW z l a ws x = putXs ws x := by
 obtain ⟨p1, p2, p3, p4, q1, q2⟩ := put_fine h
 exact ⟨p1.wr.len, p4.wr.len, q1, q2⟩

end Go.Proofs.Ytheblejlmlfddaa
