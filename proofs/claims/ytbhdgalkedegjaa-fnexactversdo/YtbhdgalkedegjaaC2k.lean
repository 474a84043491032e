/- The program's chains: forget; the storage's vers. -/
import Derived.Test.YtbhdgalkedegjaaC2j
namespace Go.Proofs.Ytbhdgalkedegjaa
open Go.RowKit
set_option linter.unusedVariables false
set_option maxRecDepth 100000

/-- it stands no more at a time, nor later -/
def endB (t : Int) (x : V) : Bool := decide (x.t ≠ 0) && decide (x.t ≤ t)
set_option maxHeartbeats 1000000 in
theorem ended_c (x : V) (t : Int) (w : World) : Calls Try.prog 117 #[.agg #[.string x.k, .int .i64 x.n, .int .i64 x.f, .int .i64 x.t], .int .i64 t] w fun e w' => e = .returned (.bool (endB t x)) ∧ Below w.heap.size w w' := by
  go_enter Try.func117, Try.ntmps117
  go_wp2
  all_goals
    go_ret
    refine ⟨ret_bool ?_, (by (repeat (first | exact Below.refl _ _ | (refine Below.alloc ?_ (by simp <;> omega) _))))⟩
    unfold endB
    first | (simp_all <;> done) | (rw [Bool.eq_iff_iff]; simp_all <;> omega)

theorem lks_drop {w : World} {ls : List Lk} (h : LksOk w ls) (i : Nat) : LksOk w (ls.drop i) := by
  intro j x hx
  rw [List.getElem?_drop] at hx
  have := h (i + j) x hx
  have e : nextG (ls.drop i) j = nextG ls (i + j) := by unfold nextG; rw [List.getElem?_drop, Nat.add_assoc]
  rwa [e]
/-- the links that are left -/
def leftLs (t : Int) (ls : List Lk) : List Lk := ls.dropWhile fun x => endB t x.v
theorem leftLs_at {t : Int} {ls : List Lk} {i : Nat} (hi : i ≤ ls.length) (hlow : ∀ j z, j < i → ls[j]? = some z → endB t z.v = true) (hat : ∀ z, ls[i]? = some z → endB t z.v = false) : leftLs t ls = ls.drop i := by
  unfold leftLs
  induction ls generalizing i with
  | nil => simp
  | cons a ls ih =>
    cases i with
    | zero =>
      have := hat a (by simp)
      rw [List.dropWhile_cons_of_neg (by simp [this])]; rfl
    | succ i =>
      have h0 := hlow 0 a (by omega) (by simp)
      rw [List.dropWhile_cons_of_pos (by simp [h0]), List.drop_succ_cons]
      exact ih (by simpa using hi) (fun j z hj hz => hlow (j + 1) z (by omega) (by simpa using hz)) (fun z hz => hat z (by simpa using hz))

def RetForget (w : World) (c : Ch) (t : Int) (e : Ending) (w' : World) : Prop := (∃ v, e = .returned v) ∧ ChOk w' ⟨c.g, c.k, leftLs t c.ls⟩ ∧ Chg (fun b => b = c.g) w w'

set_option maxHeartbeats 2000000 in
theorem forget_c (c : Ch) (t : Int) (w : World) (h : ChOk w c) :
    Calls Try.prog 87 #[.pointer (some ⟨c.g, 0, none⟩), .int .i64 t] w (RetForget w c t) := by
  obtain ⟨cg, ck, ls⟩ := c
  have hblk := h.blk
  have hh : ls.head? = ls[0]? := by cases ls <;> rfl
  go_enter Try.func87, Try.ntmps87
  go_wp2
  go_loopg [] ls.length (fun gk W => ∃ i : Nat, i + gk = ls.length ∧ Blk W cg 141 #[.string ck, ptrO (ls[i]?.map Lk.g), ptrO (ls.getLast?.map Lk.g)] ∧ (∀ j z, j < i → ls[j]? = some z → endB t z.v = true) ∧ Chg (fun b => b = cg) w W)
  case atStart => exact ⟨0, by omega, hblk.cast (by unfold chCells; rw [hh]), fun j z h => absurd h (by omega), Chg.refl _ _⟩
  case round =>
    obtain ⟨i, hi, hB, hlow, hc⟩ := hrel
    have HLOW := Lib.hid hlow
    clear hlow
    have c1 : wr.cell? ⟨cg, 1, none⟩ = some (ptrO (ls[i]?.map Lk.g)) := by rw [hB.cell]; rfl
    have f1 := hB.free 1
    have f2 := hB.free 2
    have hls : LksOk wr ls := fun j x hx => (h.ls j x hx).chg hc (fun e => (h.ls j x hx).ne hblk blkTypes.symm e)
    cases hy : ls[i]? with
    | none =>
      have hil : ls.length ≤ i := List.getElem?_eq_none_iff.1 hy
      have HE := Lib.hid (leftLs_at (t := t) (ls := ls) (i := i) (by omega) HLOW.out (fun z hz => by rw [hy] at hz; cases hz))
      rw [hy] at c1 hB
      have c1' : wr.cell? ⟨cg, 1, none⟩ = some (.pointer none) := c1
      have c2 : wr.cell? ⟨cg, 2, none⟩ = some (ptrO (ls.getLast?.map Lk.g)) := by rw [hB.cell]; rfl
      clear c1
      go_wp2
      go_end0
      refine ⟨⟨_, rfl⟩, ?_, hc.setCell (a := ⟨cg, 2, none⟩) (.inl rfl) _⟩
      show ChOk _ ⟨cg, ck, leftLs t ls⟩
      rw [HE.out, List.drop_of_length_le hil]
      exact ⟨(hB.set_ 2 _).cast rfl, fun j x hx => by simp at hx, by simp⟩
    | some y =>
      have hyb := hls i y hy
      have e0 : wr.cell? ⟨y.g, 0, none⟩ = some (.string y.v.k) := by rw [hyb.cell]; rfl
      have e1 : wr.cell? ⟨y.g, 1, none⟩ = some (.int .i64 y.v.n) := by rw [hyb.cell]; rfl
      have e2 : wr.cell? ⟨y.g, 2, none⟩ = some (.int .i64 y.v.f) := by rw [hyb.cell]; rfl
      have e3 : wr.cell? ⟨y.g, 3, none⟩ = some (.int .i64 y.v.t) := by rw [hyb.cell]; rfl
      have e4 : wr.cell? ⟨y.g, 4, none⟩ = some (ptrO (ls[i + 1]?.map Lk.g)) := by rw [hyb.cell]; rfl
      have hyl := hyb.lt
      have hcl := hB.lt
      have hil := (List.getElem?_eq_some_iff.1 hy).1
      rw [hy] at c1
      have c1' : wr.cell? ⟨cg, 1, none⟩ = some (.pointer (some ⟨y.g, 0, none⟩)) := c1
      clear c1
      cases hv : endB t y.v
      · have HE := Lib.hid (leftLs_at (t := t) (ls := ls) (i := i) (by omega) HLOW.out (fun z hz => by
          have : y = z := Option.some.inj (hy.symm.trans hz)
          subst this; exact hv))
        have HY := Lib.hid hy
        go_wp2_with ((go_at_call 117; refine (ended_c y.v t _).mono ?_; rintro e w' ⟨rfl, hb2⟩; rw [hv]; have c1'' := (hb2.cell (p := ⟨cg, 1, none⟩) hcl).trans c1'))
        go_end0
        refine ⟨⟨_, rfl⟩, ?_, hc.below hb2⟩
        show ChOk _ ⟨cg, ck, leftLs t ls⟩
        rw [HE.out]
        refine ⟨(hB.next hb2).cast ?_, fun j x hx => (lks_drop hls i j x hx).next hb2, ?_⟩
        · unfold chCells
          have e1 : (ls.drop i).head? = ls[i]? := by rw [List.head?_eq_getElem?, List.getElem?_drop, Nat.add_zero]
          have e2 : (ls.drop i).getLast? = ls.getLast? := by rw [List.getLast?_drop, if_neg (by omega)]
          rw [e1, e2]
        · have := h.nd
          rw [List.map_drop]
          exact List.Nodup.sublist (List.drop_sublist _ _) this
      · have HV := Lib.hid hv
        obtain ⟨Q, HQ⟩ : ∃ Q : Option Addr, Hid (ptrO (ls[i + 1]?.map Lk.g) = .pointer Q) := ⟨_, Lib.hid rfl⟩
        rw [HQ.out] at e4
        go_wp2_with ((go_at_call 117; refine (ended_c y.v t _).mono ?_; rintro e w' ⟨rfl, hb2⟩; rw [hv]; have c1'' := (hb2.cell (p := ⟨cg, 1, none⟩) hcl).trans c1'; have e4' := (hb2.cell (p := ⟨y.g, 4, none⟩) hyl).trans e4; have f1' := (hB.next hb2).free 1))
        go_roundg (gk - 1)
        case measure => omega
        case rel => exact ⟨i + 1, by omega, ((hB.next hb2).set_ 1 _).cast (by rw [HQ.out]; rfl), fun j z hj hz => by
          by_cases e : j = i
          · subst e
            have : y = z := Option.some.inj (hy.symm.trans hz)
            subst this; exact HV.out
          · exact HLOW.out j z (by omega) hz, (hc.below hb2).setCell (a := ⟨cg, 1, none⟩) (.inl rfl) _⟩

/-- the call returns a history in new memory -/
def RetV (w : World) (z : Int) (l : List V) (e : Ending) (w' : World) : Prop := ∃ v, e = .returned (.agg #[.int .i64 z, v]) ∧ OwnG w' w.heap.size v l ∧ Below w.heap.size w w'

theorem flat_take_succ (chs : List Ch) (k : Nat) (h : k < chs.length) : (chs.take (k + 1)).flatMap Ch.vs = (chs.take k).flatMap Ch.vs ++ chs[k].vs := by
  rw [List.take_succ_eq_append_getElem h, List.flatMap_append]; simp
theorem vs_take_succ (c : Ch) (i : Nat) (y : Lk) (h : c.ls[i]? = some y) : c.vs.take (i + 1) = c.vs.take i ++ [y.v] := by
  unfold Ch.vs
  have hi := (List.getElem?_eq_some_iff.1 h).1
  rw [List.take_succ_eq_append_getElem (by simpa using hi), List.getElem_map, (List.getElem?_eq_some_iff.1 h).2]

set_option maxHeartbeats 2000000 in
theorem vers_c (n₀ s : Nat) (z : Int) (chs : List Ch) (w : World) (h : Sto w n₀ s z chs) (hl : chs.length ≤ 1048576) (hf : (chs.flatMap Ch.vs).length ≤ 1048577) :
    Calls Try.prog 88 #[.pointer (some ⟨s, 0, none⟩)] w (RetV w z (chs.flatMap Ch.vs)) := by
  obtain ⟨v0, hS, hO⟩ := h.blk
  obtain ⟨A, c, rfl, hlc, hcm, hr⟩ := hO.read
  have hpl := pts_length chs
  have c1 : w.cell? ⟨s, 1, none⟩ = some (.slice A chs.length c) := by rw [hS.cell, ← hpl]; rfl
  have hslt := hS.lt
  have hb0 : Below w.heap.size w (w.alloc (.cells #[.int .i64 0, .slice none 0 0] 29)) := below_alloc (Below.refl _ _) _
  have hB0 := blkA w #[.int .i64 0, .slice none 0 0] 29
  have hflat : ∀ k, ((chs.take k).flatMap Ch.vs).length ≤ 1048577 := fun k => by
    have : ((chs.take k).flatMap Ch.vs).length ≤ (chs.flatMap Ch.vs).length := by
      conv => rhs; rw [← List.take_append_drop k chs, List.flatMap_append, List.length_append]
      omega
    omega
  have HFL := Lib.hid hflat
  clear hflat
  go_enter Try.func88, Try.ntmps88
  go_wp2
  go_loopw [3, 12] (fun v i W => ∃ k : Nat, k ≤ chs.length ∧ i = .int .i64 k ∧ OwnG W (w.heap.size + 1) v ((chs.take k).flatMap Ch.vs) ∧ Blk W w.heap.size 29 #[.int .i64 0, .slice none 0 0] ∧ Below w.heap.size w W) (fun _ i _ => chs.length - (intOf i).toNat)
  case atStart => exact ⟨0, Nat.zero_le _, rfl, OwnG.nil _ _, hB0, hb0⟩
  case round =>
    obtain ⟨k, hk, rfl, hOv, hB, hb⟩ := hrel
    by_cases hkl : k < chs.length
    · have hkI := lenI _ _ hkl
      obtain ⟨b, o, rfl, hbB, hc0⟩ := (hr.below hb).atPt (i := k) (by rw [hpl]; exact hkl)
      have hc1 : wr.cell? ⟨b, o + k, none⟩ = some (.pointer (some ⟨chs[k].g, 0, none⟩)) := by rw [hc0]; simp [pts]
      have hch := (h.cok _ (List.getElem_mem hkl)).next hb
      have hh : chs[k].ls.head? = chs[k].ls[0]? := by cases chs[k].ls <;> rfl
      have d1 : wr.cell? ⟨chs[k].g, 1, none⟩ = some (ptrO (chs[k].ls[0]?.map Lk.g)) := by rw [hch.blk.cell, ← hh]; rfl
      have HT := Lib.hid (flat_take_succ chs k hkl)
      have hpre := HFL.out (k + 1)
      rw [HT.out, List.length_append] at hpre
      obtain ⟨pre, HP⟩ : ∃ pre, Hid ((chs.take k).flatMap Ch.vs = pre) := ⟨_, Lib.hid rfl⟩
      rw [HP.out] at hOv hpre
      clear hc0
      go_wp2
      go_loopg [3, 6] chs[k].ls.length (fun gk v p W => ∃ i : Nat, i + gk = chs[k].ls.length ∧ p = ptrO (chs[k].ls[i]?.map Lk.g) ∧ OwnG W (w.heap.size + 1) v (pre ++ chs[k].vs.take i) ∧ Blk W w.heap.size 29 #[.int .i64 0, .slice none 0 0] ∧ Below w.heap.size w W)
      case atStart => exact ⟨0, by omega, rfl, by simpa using hOv, hB, hb⟩
      case round =>
        obtain ⟨i, hi, rfl, hOi, hBi, hbi⟩ := hrel
        cases hy : chs[k].ls[i]? with
        | none =>
          have hil : chs[k].ls.length ≤ i := List.getElem?_eq_none_iff.1 hy
          have HE := Lib.hid (show chs[k].vs.take i = chs[k].vs from List.take_of_length_le (by unfold Ch.vs; simpa using hil))
          rw [show ptrO (Option.map Lk.g none) = Value.pointer none from rfl]
          go_wp2
          go_roundw
          case rel => exact ⟨k + 1, by omega, by go_num, by rw [HT.out, HP.out]; have := hOi; rwa [HE.out] at this, hBi, hbi⟩
          case measure => simp [intOf]; omega
        | some y =>
          have hyb := ((h.cok _ (List.getElem_mem hkl)).ls i y hy).next' hbi
          have e0 : wr.cell? ⟨y.g, 0, none⟩ = some (.string y.v.k) := by rw [hyb.cell]; rfl
          have e1 : wr.cell? ⟨y.g, 1, none⟩ = some (.int .i64 y.v.n) := by rw [hyb.cell]; rfl
          have e2 : wr.cell? ⟨y.g, 2, none⟩ = some (.int .i64 y.v.f) := by rw [hyb.cell]; rfl
          have e3 : wr.cell? ⟨y.g, 3, none⟩ = some (.int .i64 y.v.t) := by rw [hyb.cell]; rfl
          have e4 : wr.cell? ⟨y.g, 4, none⟩ = some (ptrO (chs[k].ls[i + 1]?.map Lk.g)) := by rw [hyb.cell]; rfl
          have hyl := hyb.lt
          have hil := (List.getElem?_eq_some_iff.1 hy).1
          have HE := Lib.hid (vs_take_succ chs[k] i y hy)
          have hltk : (chs[k].vs.take i).length ≤ chs[k].vs.length := by rw [List.length_take]; omega
          have hsz : w.heap.size + 1 ≤ wr.heap.size := by have := hBi.lt; omega
          rw [show ptrO (Option.map Lk.g (some y)) = Value.pointer (some ⟨y.g, 0, none⟩) from rfl]
          go_wp2_with (at_builtin; refine wpList_appG (α := V) (wr.alloc (.cells #[.string y.v.k, .int .i64 y.v.n, .int .i64 y.v.f, .int .i64 y.v.t] 68)) rfl _ _ _ _ 68 rfl Try.underlying27 Try.underlying27 (w.heap.size + 1) _ (pre ++ chs[k].vs.take i) rfl (hOi.alloc _) (some ⟨wr.heap.size, 0, none⟩) 1 _ 1 [y.v] rfl rfl (rdOneV wr y.v 68) (by rw [List.length_append]; simp; omega) (by simp; omega) ?_; intro v' w' hown hgr hat; have e4' : w'.cell? ⟨y.g, 4, none⟩ = some (ptrO (chs[k].ls[i + 1]?.map Lk.g)) := (World.cell?_of_block (hgr.block y.g (by simp; omega) (fun e => by obtain ⟨cs, hcs⟩ := hOi.blk_of e.symm; exact hyb.ne hcs (by decide) rfl))).trans ((World.cell?_of_block (Below.heap_alloc wr _ y.g hyl)).trans e4))
          go_roundg (gk - 1)
          case measure => omega
          case rel => exact ⟨i + 1, by omega, rfl, by rw [HE.out, ← List.append_assoc]; exact hown, (hBi.alloc _).grown hgr (hOi.ne_block (by omega)), (hOi.alloc _).below (below_alloc hbi _) hgr (by omega)⟩
    · have hkI : decide ((k : Int) < (chs.length : Int)) = false := decide_eq_false (by omega)
      have q0 : wr.cell? ⟨s, 0, none⟩ = some (.int .i64 z) := by rw [(hS.next hb).cell]; rfl
      have d0 : wr.cell? ⟨w.heap.size, 0, none⟩ = some (.int .i64 0) := by rw [hB.cell]; rfl
      have d1 : wr.cell? ⟨w.heap.size, 1, none⟩ = some (.slice none 0 0) := by rw [hB.cell]; rfl
      have f0 := hB.free 0
      have f1 := hB.free 1
      rw [List.take_of_length_le (by omega)] at hOv
      obtain ⟨bv, nv, cv, rfl⟩ := hOv.slice
      go_wp2
      refine bodyPost_ret (v := .agg #[.int .i64 z, .slice bv nv cv]) (by simp [results, Try.results88, go_sem, d0, d1]) rfl ⟨.slice bv nv cv, rfl, ?_, ?_⟩
      · have hne : ∀ g, (Value.slice bv nv cv).ownBlock = some g → g ≠ w.heap.size := fun g hg => by have := (hOv.block_lt hg).1; omega
        exact ((hOv.setCell (a := ⟨w.heap.size, 0, none⟩) hne _).setCell (a := ⟨w.heap.size, 1, none⟩) hne _).low (by omega)
      · exact (hb.setCell (by simp <;> omega) _).setCell (by simp <;> omega) _

end Go.Proofs.Ytbhdgalkedegjaa
