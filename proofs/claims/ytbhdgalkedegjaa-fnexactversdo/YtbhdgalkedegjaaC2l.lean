/- VersTrim, of the model and of the program. -/
import Derived.Test.YtbhdgalkedegjaaC2k
import Derived.StillTailTactics
namespace Go.Proofs.Ytbhdgalkedegjaa
open Go.RowKit
set_option linter.unusedVariables false
set_option maxRecDepth 100000

def keepL (l : List V) (t : Int) : List V := l.filter fun x => !endB t x
noncomputable def trimZ (z : Int) (l : List V) : Int := if versB z l then z else 0
noncomputable def trimL (z : Int) (l : List V) (t : Int) : List V := if versB z l then keepL l t else []
theorem keepL_length (l : List V) (t : Int) : (keepL l t).length ≤ l.length := List.length_filter_le _ _
theorem trimL_length (z : Int) (l : List V) (t : Int) : (trimL z l t).length ≤ l.length := by
  unfold trimL
  split
  · exact keepL_length l t
  · simp
theorem keepL_yes {l : List V} {t : Int} {k : Nat} (hk : k < l.length) (h : endB t l[k] = false) : keepL (l.take (k + 1)) t = keepL (l.take k) t ++ [l[k]] := by
  rw [List.take_succ_eq_append_getElem hk]; unfold keepL; rw [List.filter_append, List.filter_cons_of_pos (by simp [h])]; rfl
theorem keepL_no {l : List V} {t : Int} {k : Nat} (hk : k < l.length) (h : endB t l[k] = true) : keepL (l.take (k + 1)) t = keepL (l.take k) t := by
  rw [List.take_succ_eq_append_getElem hk]; unfold keepL; rw [List.filter_append, List.filter_cons_of_neg (by simp [h])]; simp

/-! the program's -/
def forgetCh (t : Int) (c : Ch) : Ch := ⟨c.g, c.k, leftLs t c.ls⟩
theorem drop_filter {p : V → Bool} : {vs : List V} → vs.Pairwise (fun a b => p b = true → p a = true) → vs.dropWhile p = vs.filter fun x => !p x
  | [], _ => rfl
  | a :: vs, h => by
    rw [List.pairwise_cons] at h
    cases hp : p a
    · rw [List.dropWhile_cons_of_neg (by simp [hp]), List.filter_cons_of_pos (by simp [hp])]
      congr 1
      symm
      rw [List.filter_eq_self]
      intro b hb
      cases hpb : p b
      · rfl
      · have := h.1 b hb hpb; rw [hp] at this; cases this
    · rw [List.dropWhile_cons_of_pos hp, List.filter_cons_of_neg (by simp [hp])]
      exact drop_filter h.2
theorem left_vs (t : Int) (ls : List Lk) : (leftLs t ls).map Lk.v = (ls.map Lk.v).dropWhile (endB t) := by
  unfold leftLs
  induction ls with
  | nil => rfl
  | cons a ls ih =>
    cases h : endB t a.v
    · rw [List.dropWhile_cons_of_neg (by simp [h]), List.map_cons, List.dropWhile_cons_of_neg (by simp [h])]
    · rw [List.dropWhile_cons_of_pos (by simp [h]), List.map_cons, List.dropWhile_cons_of_pos h, ih]
theorem trim_flat {chs : List Ch} {l : List V} {z t : Int} (hC : Cons chs l) (ho : Ord2 l) (hv : ∀ x ∈ l, verB z x = true) : (chs.map (forgetCh t)).flatMap Ch.vs = keepL l t := by
  have hch : ∀ c ∈ chs, Chain c.vs := fun c hc => hC.chain ho hc
  have hvv : ∀ c ∈ chs, ∀ x ∈ c.vs, verB z x = true := fun c hc x hx => hv x (by rw [← hC.flat]; exact List.mem_flatMap.2 ⟨c, hc, hx⟩)
  rw [← hC.flat]
  clear hC ho hv
  induction chs with
  | nil => rfl
  | cons c chs ih =>
    have h1 := ih (fun x hx => hch x (by simp [hx])) (fun x hx => hvv x (by simp [hx]))
    have hp : c.vs.Pairwise (fun a b => endB t b = true → endB t a = true) := by
      refine List.Pairwise.imp_of_mem ?_ (hch c (by simp))
      intro a b ha hb hab hbe
      have h2 := verB_to (hvv c (by simp) b hb)
      unfold endB at *
      simp only [Bool.and_eq_true, decide_eq_true_eq] at *
      omega
    rw [List.map_cons, List.flatMap_cons, h1]
    unfold keepL
    rw [List.flatMap_cons, List.filter_append, ← drop_filter hp]
    congr 1
    exact left_vs t c.ls

theorem Sto.own_of {w : World} {base s : Nat} {z : Int} {chs : List Ch} {v : Value} (h : Sto w base s z chs) (hB : Blk w s 109 #[.int .i64 z, v]) : OwnG w base v (pts chs) := by
  obtain ⟨v', hB', hO⟩ := h.blk
  have e := Option.some.inj (hB.symm.trans hB')
  injection e with e1 e2 e3
  have e4 : v = v' := by injection e1 with e1; simpa using e1
  rw [e4]; exact hO

/-- the first j chains have forgotten -/
def halfCh (t : Int) (chs : List Ch) (j : Nat) : List Ch := (chs.take j).map (forgetCh t) ++ chs.drop j
theorem halfCh_zero (t : Int) (chs : List Ch) : halfCh t chs 0 = chs := by simp [halfCh]
theorem halfCh_at {t : Int} {chs : List Ch} {j : Nat} (h : j < chs.length) : halfCh t chs j = (chs.take j).map (forgetCh t) ++ chs[j] :: chs.drop (j + 1) := by unfold halfCh; rw [List.drop_eq_getElem_cons h]
theorem halfCh_succ {t : Int} {chs : List Ch} {j : Nat} (h : j < chs.length) : halfCh t chs (j + 1) = (chs.take j).map (forgetCh t) ++ forgetCh t chs[j] :: chs.drop (j + 1) := by
  unfold halfCh; rw [List.take_succ_eq_append_getElem h, List.map_append, List.append_assoc]; rfl
theorem halfCh_all {t : Int} {chs : List Ch} {j : Nat} (h : chs.length ≤ j) : halfCh t chs j = chs.map (forgetCh t) := by unfold halfCh; rw [List.take_of_length_le h, List.drop_of_length_le h, List.append_nil]
theorem halfCh_pts (t : Int) (chs : List Ch) (j : Nat) : pts (halfCh t chs j) = pts chs := by
  unfold halfCh pts
  rw [List.map_append, List.map_map, show ((fun c : Ch => (⟨c.g⟩ : Pt)) ∘ forgetCh t) = (fun c => ⟨c.g⟩) from rfl, ← List.map_append, List.take_append_drop]

set_option maxHeartbeats 2000000 in
theorem implVersTrim (z : Int) (A : Option Addr) (c : Nat) (l : List V) (t : Int) (w : World) (hfit : FitVs l) (hlc : l.length ≤ c) (hcm : c ≤ maxLen) (hl : l.length ≤ 1048576) (hr : RdG w w.heap.size A l) :
    Calls Try.prog 43 #[.agg #[.int .i64 z, .slice A l.length c], .int .i64 t] w (RetV w (trimZ z l) (trimL z l t)) := by
  have hb0 : Below w.heap.size w ((w.alloc (.cells #[.int .i64 z, .slice A l.length c] 29)).alloc (.cells #[.int .i64 0, .slice none 0 0] 29)) := below_alloc (below_alloc (Below.refl _ _) _) _
  have hB0 := (blkA w #[.int .i64 z, .slice A l.length c] 29).alloc (.cells #[.int .i64 0, .slice none 0 0] 29)
  have hR0 := blkA (w.alloc (.cells #[.int .i64 z, .slice A l.length c] 29)) #[.int .i64 0, .slice none 0 0] 29
  simp only [World.size_alloc] at hR0
  cases hv : versB z l
  · have HE := Lib.hid (show trimZ z l = 0 ∧ trimL z l t = [] from by unfold trimZ trimL; rw [hv]; exact ⟨rfl, rfl⟩)
    rw [HE.out.1, HE.out.2]
    go_enter Try.func43, Try.ntmps43
    go_wp2_with fail
    refine (implVersOk z A c l _ hfit hlc hcm (hr.next hb0)).mono ?_
    rintro e w1 ⟨rfl, hb1⟩
    rw [hv]
    have hw1 := below_next hb0 hb1
    have hR1 := hR0.next hb1
    have d0 : w1.cell? ⟨w.heap.size + 1, 0, none⟩ = some (.int .i64 0) := by rw [hR1.cell]; rfl
    have d1 : w1.cell? ⟨w.heap.size + 1, 1, none⟩ = some (.slice none 0 0) := by rw [hR1.cell]; rfl
    have f0 := hR1.free 0
    have f1 := hR1.free 1
    go_wp2
    refine bodyPost_ret (v := .agg #[.int .i64 0, .slice none 0 0]) (by simp [results, Try.results43, go_sem, d0, d1]) rfl ⟨.slice none 0 0, rfl, OwnG.nil _ _, ?_⟩
    exact (hw1.setCell (by simp <;> omega) _).setCell (by simp <;> omega) _
  · have HE := Lib.hid (show trimZ z l = z ∧ trimL z l t = keepL l t from by unfold trimZ trimL; rw [hv]; exact ⟨rfl, rfl⟩)
    rw [HE.out.1, HE.out.2]
    have hP := versB_iff.1 hv
    have HO := Lib.hid hP.ord2
    have HV := Lib.hid (show ∀ x ∈ l, verB z x = true from fun x hx => by obtain ⟨i, hi, rfl⟩ := List.getElem_of_mem hx; exact hP.each i hi)
    clear hP
    go_enter Try.func43, Try.ntmps43
    go_wp2_with fail
    refine (implVersOk z A c l _ hfit hlc hcm (hr.next hb0)).mono ?_
    rintro e w1 ⟨rfl, hb1⟩
    rw [hv]
    have hw1 := below_next hb0 hb1
    have hB1 := hB0.next hb1
    have hR1 := hR0.next hb1
    have q0 : w1.cell? ⟨w.heap.size, 0, none⟩ = some (.int .i64 z) := by rw [hB1.cell]; rfl
    have q1 : w1.cell? ⟨w.heap.size, 1, none⟩ = some (.slice A l.length c) := by rw [hB1.cell]; rfl
    go_wp2_with fail
    refine (storageOf_c z A c l w1 hl HO.out.keyLe (hr.next hw1)).mono ?_
    rintro e w3 ⟨s, chs, rfl, hS, hC, hb3⟩
    have hw3 := below_next hw1 hb3
    have hR3 := hR1.next hb3
    have hRlt := hR1.lt
    have HFL := Lib.hid (trim_flat (t := t) hC HO.out HV.out)
    have hCl := hC.length
    obtain ⟨v0, hB3, hO3⟩ := hS.blk
    obtain ⟨A3, c3, rfl, hlc3, hcm3, hr3⟩ := hO3.read
    have hpl := pts_length chs
    have s1 : w3.cell? ⟨s, 1, none⟩ = some (.slice A3 chs.length c3) := by rw [hB3.cell, ← hpl]; rfl
    rw [hpl] at hB3
    have hlo3 := hS.lo
    have hslt := hS.lt
    have HAR : Hid (chs.length ≤ l.length ∧ w1.heap.size ≤ s ∧ s < w3.heap.size ∧ w.heap.size + 1 < w1.heap.size) := ⟨hCl, hlo3, hslt, hRlt⟩
    have hCm : chs.length ≤ 1048576 := by omega
    clear hO3 hr3 hlc3 hcm3 hCl hlo3 hslt hRlt hpl
    go_wp2
    go_loopw [19] (fun i W => ∃ j : Nat, j ≤ chs.length ∧ i = .int .i64 j ∧ Sto W w1.heap.size s z (halfCh t chs j) ∧ Blk W s 109 #[.int .i64 z, .slice A3 chs.length c3] ∧ Blk W (w.heap.size + 1) 29 #[.int .i64 0, .slice none 0 0] ∧ Below w.heap.size w W) (fun i _ => chs.length - (intOf i).toNat)
    case atStart => exact ⟨0, Nat.zero_le _, rfl, by rw [halfCh_zero]; exact hS, hB3, hR3, hw3⟩
    case round =>
      obtain ⟨j, hj, rfl, hSj, hBj, hRj, hbj⟩ := hrel
      by_cases hjl : j < chs.length
      · have hjI := lenI _ _ hjl
        have hOj := hSj.own_of hBj
        rw [halfCh_pts] at hOj
        obtain ⟨hx1, _, _, hrj⟩ := hOj.rd'
        clear hx1
        obtain ⟨b, o, rfl, hbB, hc0⟩ := hrj.atPt (i := j) (by rw [pts_length]; exact hjl)
        have hc1 : wr.cell? ⟨b, o + j, none⟩ = some (.pointer (some ⟨chs[j].g, 0, none⟩)) := by rw [hc0]; simp [pts]
        have hSj' := hSj
        rw [halfCh_at hjl] at hSj'
        have hcj := hSj'.cok chs[j] (List.mem_append_right _ (List.mem_cons_self))
        have HSJ := Lib.hid hSj'
        have HST := Lib.hid (halfCh_succ (t := t) hjl)
        clear hc0 hrj hOj hSj hSj'
        go_wp2_with ((go_at_call 87; refine (forget_c chs[j] t _ hcj).mono ?_; rintro e w' ⟨⟨vr, rfl⟩, hCh, hch⟩))
        obtain ⟨hCl, hlo3, hslt, hRlt⟩ := HAR.out
        have hch' : Chg chs[j].has wr w' := hch.mono fun k hk => .inl hk
        have hfar := HSJ.out.los chs[j] (List.mem_append_right _ (List.mem_cons_self))
        have hS' : Sto w' w1.heap.size s z (halfCh t chs (j + 1)) := by
          rw [HST.out]
          refine HSJ.out.upd hCh rfl hch' fun q hq => .inl ?_
          rcases hq with rfl | hq
          · exact .inl rfl
          · right
            exact (List.Sublist.map Lk.g (show (leftLs t chs[j].ls).Sublist chs[j].ls from List.dropWhile_sublist _)).subset hq
        have hB' := hBj.chg hch (fun e => hcj.ne_of hBj typesSC typesSL _ (.inl rfl) e.symm)
        have hR' := hRj.chg hch (fun e => hcj.ne_of hRj (by decide) (by decide) _ (.inl rfl) e.symm)
        have hb' := hbj.trans (hch.toBelow hbj.size (fun k hk => by have := hfar k (.inl hk); have := hw1.size; omega))
        go_roundw
        case rel => exact ⟨j + 1, by omega, by go_num, hS', hB', hR', hb'⟩
        case measure => simp [intOf]; omega
      · have hjI : decide ((j : Int) < (chs.length : Int)) = false := decide_eq_false (by omega)
        have e : halfCh t chs j = chs.map (forgetCh t) := halfCh_all (by omega)
        rw [e] at hSj
        have hlf := keepL_length l t
        go_wp2_with fail
        refine (vers_c w1.heap.size s z _ wr hSj (by rw [List.length_map]; have := HAR.out.1; omega) (by rw [HFL.out]; omega)).mono ?_
        rw [HFL.out]
        rintro e w5 ⟨v5, rfl, hO5, hb5⟩
        have hR5 := hRj.next hb5
        have hw5 := hbj.trans (hb5.mono hbj.size)
        have d0 : w5.cell? ⟨w.heap.size + 1, 0, none⟩ = some (.int .i64 0) := by rw [hR5.cell]; rfl
        have d1 : w5.cell? ⟨w.heap.size + 1, 1, none⟩ = some (.slice none 0 0) := by rw [hR5.cell]; rfl
        have f0 := hR5.free 0
        have f1 := hR5.free 1
        have hRjl := hRj.lt
        obtain ⟨b5, n5, c5, rfl⟩ := hO5.slice
        go_wp2
        refine bodyPost_ret (v := .agg #[.int .i64 z, .slice b5 n5 c5]) (by simp [results, Try.results43, go_sem, d0, d1]) rfl ⟨.slice b5 n5 c5, rfl, ?_, ?_⟩
        · have hne : ∀ g, (Value.slice b5 n5 c5).ownBlock = some g → g ≠ w.heap.size + 1 := fun g hg => by have := (hO5.block_lt hg).1; omega
          exact ((hO5.setCell (a := ⟨w.heap.size + 1, 0, none⟩) hne _).setCell (a := ⟨w.heap.size + 1, 1, none⟩) hne _).low (by have := hbj.size; omega)
        · exact (hw5.setCell (by simp <;> omega) _).setCell (by simp <;> omega) _

end Go.Proofs.Ytbhdgalkedegjaa
