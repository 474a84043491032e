/- The bytes of letters: the model's functions and the program's. -/
import Derived.Test.YtilcncnhkidndaaDoorL5c
import Derived.Deep.RegionHeld3
namespace Go.Proofs.YtilcncnhkidndaaDoor
open Go.RowKit
set_option linter.unusedVariables false
set_option maxRecDepth 100000

/-- a list of its own does not lie in a block of another type -/
theorem OwnG.neT' {α : Type} [E : Elt α] {W : World} {n g : Nat} {v : Value} {l : List α} {t : TypeId} {cs : Array Value} (h : OwnG W n v l) (B : Blk W g t cs) (ht : t ≠ E.T) : some g ≠ v.ownBlock := by
 intro hk
 rcases h.cases with ⟨rfl, rfl⟩ | ⟨j, cap, cur, rfl, -, hB, -⟩
 ·
  simp [Value.ownBlock] at hk
 ·
  have : g = j := by simpa [Value.ownBlock] using hk
  subst this
  unfold Blk at hB B
  rw [B] at hB
  injection hB with hB
  injection hB with h1 h2 h3
  exact ht h2
theorem OwnG.belB {α : Type} [E : Elt α] {W W' : World} {base : Nat} {v : Value} {l : List α} (h : OwnG W base v l) (hg : W.grownBy W' v.ownBlock) (hB : base ≤ W.heap.size) : Below base W W' :=
 ⟨hg.os, hg.tape, hg.output, hg.size, fun k hk => hg.block k (by omega) (fun e => by have := (h.block_lt e.symm).1; omega)⟩
theorem rdTwo (W : World) (c d : UInt8) (t : TypeId) : RdG (W.alloc (.cells #[.int .u8 c.toNat, .int .u8 d.toNat] t)) (W.alloc (.cells #[.int .u8 c.toNat, .int .u8 d.toNat] t)).heap.size (some ⟨W.heap.size, 0, none⟩) [c, d] := by
 intro i r hi
 refine ⟨W.heap.size, 0, rfl, by simp, fun j u hj => ?_⟩
 have hj0 : j = 0 := by
  have := (List.getElem?_eq_some_iff.1 hj).1
  simpa [Elt.cs] using this
 subst hj0
 rw [World.cell?_alloc_at _ _ _ _ rfl]
 match i, hi with
 | 0, hi => simp at hi; subst hi; exact hj
 | 1, hi => simp at hi; subst hi; exact hj
/-- where buffers end: this value is their bytes -/
def RetBuf (w : World) (base : Nat) (x : Bs) (e : Ending) (w' : World) : Prop := ∃ v, e = .returned v ∧ OwnG w' base v x ∧ Below base w w'

set_option maxHeartbeats 2000000 in
theorem appendTo_c (l : LE) (bv : Value) (x : Bs) (base : Nat) (w : World) (hl : okB l = true) (h : OwnG w base bv x) (hx : x.length ≤ 4190000) (hB : base ≤ w.heap.size) :
  Calls Tryd.prog 46 #[.agg #[.string l.s, .string l.b], bv] w fun e w' => RetBuf w base (x ++ enc l) e w' := by
 have hlen : l.s.size = 1 ∧ l.b.size ≤ 40 := by unfold okB at hl; simp only [Bool.and_eq_true, decide_eq_true_eq] at hl; omega
 obtain ⟨vb, vn, vc, rfl⟩ := h.slice
 obtain ⟨s, b⟩ := l
 dsimp only at hlen ⊢
 clear hl
 obtain ⟨h1, h40⟩ := hlen
 obtain ⟨W, e0, hz, Bl, hb⟩ := al1 w rfl #[.string s, .string b] 24
 have q0 : W.cell? ⟨w.heap.size, 0, none⟩ = some (.string s) := Bl.cell 0
 have q1 : W.cell? ⟨w.heap.size, 1, none⟩ = some (.string b) := Bl.cell 1
 have hW := h.next hb
 have d1 : b.size / 10 < 10 := by omega
 have d2 : b.size % 10 < 10 := by omega
 have hWs : w.heap.size ≤ W.heap.size := by omega
 have HW := Lib.hid hW
 have HBl := Lib.hid Bl
 have HBs := Lib.hid hb
 have hUU := fun (V : World) => al1 V (m := V.heap.size) rfl #[.int .u8 (48 + (b.size : Int) / 10), .int .u8 (48 + (b.size : Int) % 10)] 5
 have hrd := fun (V : World) => rdTwo V (dd (b.size / 10)) (dd (b.size % 10)) 5
 have t1 : ((dd (b.size / 10)).toNat : Int) = 48 + (b.size : Int) / 10 := by rw [dd_toNat d1]; omega
 have t2 : ((dd (b.size % 10)).toNat : Int) = 48 + (b.size : Int) % 10 := by rw [dd_toNat d2]; omega
 simp only [t1, t2] at hrd
 have HUU := Lib.hid hUU
 have HRD := Lib.hid hrd
 clear hW Bl hb hUU hrd t1 t2
 go_enter Tryd.func46, Tryd.ntmps46
 go_wp2_with (first
  | (at_builtin; refine wpList_appS W rfl _ _ 22 9 rfl Tryd.underlying22 Tryd.underlying9 base _ x rfl HW.out s rfl (by omega) (by omega) ?_; intro v1 w1 o1 g1; have B1 := HBl.out.grown g1 (HW.out.neT' HBl.out (by decide)); have b1 := Lib.hid (HW.out.belB g1 (by omega)); have p1 : w1.cell? ⟨w.heap.size, 1, none⟩ = some (.string b) := B1.cell 1; have hs1 := g1.size; clear g1 q0 q1; obtain ⟨U, eU, hU, BU, hbU⟩ := HUU.out w1; have rU := HRD.out w1; rw [eU] at rU; have RU := Lib.hid rU; have BB1 := Lib.hid B1; have HbU := Lib.hid hbU; have OO1 := Lib.hid (o1.next hbU); have p2 : U.cell? ⟨w.heap.size, 1, none⟩ = some (.string b) := (B1.next hbU).cell 1; clear BU rU B1 hbU o1)
  | (at_builtin; refine wpList_appG (α := UInt8) U rfl _ _ 22 22 5 rfl Tryd.underlying22 Tryd.underlying22 base v1 (x ++ bs s) rfl OO1.out _ _ _ _ [dd (b.size / 10), dd (b.size % 10)] rfl rfl RU.out (by simp [bs_length]; omega) (by omega) ?_; intro v2 w2 o2 g2 _; have B2 := (BB1.out.next HbU.out).grown g2 (OO1.out.neT' (BB1.out.next HbU.out) (by decide)); have b2 := Lib.hid (OO1.out.belB g2 (by omega)); have p3 : w2.cell? ⟨w.heap.size, 1, none⟩ = some (.string b) := B2.cell 1; have hs2 := g2.size; have OO2 := Lib.hid o2; clear g2 B2 o2)
  | (at_builtin; refine wpList_appS w2 rfl _ _ 22 9 rfl Tryd.underlying22 Tryd.underlying9 base v2 (x ++ bs s ++ [dd (b.size / 10), dd (b.size % 10)]) rfl OO2.out b rfl (by simp [bs_length]; omega) (by omega) ?_; intro v3 w3 o3 g3; have b3 := Lib.hid (OO2.out.belB g3 (by omega)); have OO3 := Lib.hid o3; clear o3 g3))
 go_ret
 refine ⟨v3, rfl, ?_, ((((HBs.out.mono hB).trans b1.out).trans (HbU.out.mono (by omega))).trans b2.out).trans b3.out⟩
 have o := OO3.out
 rw [List.append_assoc, List.append_assoc] at o
 unfold enc
 rw [List.append_assoc]
 exact o

theorem cat_total {ls : List LE} (h : ∀ l ∈ ls, okB l = true) : 2 * (catL ls).length ≤ 3 * totalLE ls := by
 induction ls with
 | nil => simp [catL, totalLE]
 | cons l ls ih =>
  have h1 := enc_length (h l (by simp))
  have h2 := ih fun m hm => h m (by simp [hm])
  have h3 : l.s.size = 1 := by have := h l (by simp); unfold okB at this; simp only [Bool.and_eq_true, decide_eq_true_eq] at this; omega
  have h4 : totalLE (l :: ls) = (l.s.size + l.b.size + 1) + totalLE ls := by simp [totalLE]
  rw [catL_cons, List.length_append, h4]
  omega
theorem textsL_no {ls : List LE} {k : Nat} (hk : k < ls.length) (h : okB ls[k] = false) : textsL ls = [] := by
 unfold textsL
 rw [if_neg]
 rw [List.all_eq_true]
 intro hh
 have := hh _ (List.getElem_mem hk)
 rw [h] at this; cases this
theorem ok_take_succ {ls : List LE} {k : Nat} (hk : k < ls.length) (h : ∀ l ∈ ls.take k, okB l = true) (ho : okB ls[k] = true) : ∀ l ∈ ls.take (k + 1), okB l = true := by
 intro l hl
 rw [List.take_succ_eq_append_getElem hk] at hl
 rcases List.mem_append.1 hl with h1 | h1
 ·
  exact h l h1
 ·
  simp at h1; subst h1; exact ho
theorem cat_take_succ {ls : List LE} {k : Nat} (hk : k < ls.length) : catL (ls.take (k + 1)) = catL (ls.take k) ++ enc ls[k] := by
 rw [List.take_succ_eq_append_getElem hk, catL_append, catL_one]

set_option maxHeartbeats 4000000 in
theorem implTexts (A : Option Addr) (c : Nat) (ls : List LE) (w : World) (hf : FitLEs ls) (ht : totalLE ls ≤ 2097152) (hc : ls.length ≤ c) (hr : RdG w w.heap.size A ls) :
  Calls Tryd.prog 24 #[.slice A ls.length c] w fun e w' => e = .returned (.string (bo (textsL ls))) ∧ Below w.heap.size w w' := by
 have hln := totalLE_len ls
 go_enter Tryd.func24, Tryd.ntmps24
 go_wp2
 go_loopw [3, 8] (fun v i W => ∃ k : Nat, k ≤ ls.length ∧ i = .int .i64 k ∧ OwnG W w.heap.size v (catL (ls.take k)) ∧ (∀ l ∈ ls.take k, okB l = true) ∧ Below w.heap.size w W) (fun _ i _ => ls.length - (intOf i).toNat)
 case atStart => exact ⟨0, Nat.zero_le _, rfl, OwnG.nil _ _, fun l hl => by simp at hl, Below.refl _ _⟩
 case round =>
  obtain ⟨k, hk, rfl, hown, hok, hb⟩ := hrel
  have HOK := Lib.hid hok
  have HT := Lib.hid (show (catL (ls.take k)).length ≤ 4190000 from by have h1 := cat_total hok; have h2 := totalLE_take_le ls k; omega)
  clear hok
  have hsz := hb.size
  by_cases hkl : k < ls.length
  ·
   obtain ⟨b, o, rfl, hbB, hc0, hc1⟩ := (hr.below hb).atLE hkl
   have hfk := hf _ (List.getElem_mem hkl)
   obtain ⟨W1, e1, s1, B1, b1⟩ := al1 wr rfl #[.string ls[k].s, .string ls[k].b] 24
   have q0 : W1.cell? ⟨wr.heap.size, 0, none⟩ = some (.string ls[k].s) := B1.cell 0
   have q1 : W1.cell? ⟨wr.heap.size, 1, none⟩ = some (.string ls[k].b) := B1.cell 1
   cases hok : okB ls[k]
   ·
    have HO := Lib.hid hok
    have HN := Lib.hid (textsL_no hkl hok)
    clear hok
    go_wp2_with (go_at_call 15; refine (implLOk ls[k] _ hfk).mono ?_; rw [HO.out]; rintro e w' ⟨rfl, hb2⟩)
    go_ret
    exact ⟨ret_s (by rw [HN.out]; rfl), below_next (below_next hb (b1.mono (Nat.le_refl _))) hb2⟩
   ·
    have HO := Lib.hid hok
    clear hok
    go_wp2_with fail
    refine (implLOk ls[k] _ hfk).mono ?_
    rw [HO.out]
    rintro e w' ⟨rfl, hb2⟩
    have B2 := B1.next hb2
    have p0 : w'.cell? ⟨wr.heap.size, 0, none⟩ = some (.string ls[k].s) := B2.cell 0
    have p1 : w'.cell? ⟨wr.heap.size, 1, none⟩ = some (.string ls[k].b) := B2.cell 1
    have o2 := (hown.next b1).next hb2
    have z2 := hb2.size
    go_wp2_with fail
    refine (appendTo_c ls[k] _ _ w.heap.size _ HO.out o2 HT.out (by omega)).mono ?_
    rintro e w'' ⟨v3, rfl, o3, hb3⟩
    go_wp2
    go_roundw
    case rel => exact ⟨k + 1, by omega, by go_num, by rw [cat_take_succ hkl]; exact o3, ok_take_succ hkl HOK.out HO.out, (below_next (below_next hb b1) hb2).trans hb3⟩
    case measure => simp [intOf]; omega
  ·
   have HK := Lib.hid (show k = ls.length from by omega)
   have hcv := convU hown
   go_wp2
   go_ret
   refine ⟨ret_s ?_, hb⟩
   have h1 := HOK.out
   rw [HK.out, List.take_length] at h1 ⊢
   rw [textsL_ok h1]

end Go.Proofs.YtilcncnhkidndaaDoor
