/- The program's chains: last; the sorted list of chains: find, splice, chainOf. -/
import Derived.Test.YtbhdgalkedegjaaC2b
namespace Go.Proofs.Ytbhdgalkedegjaa
open Go.RowKit
set_option linter.unusedVariables false
set_option maxRecDepth 100000

def lastI (ls : List Lk) : Int := match ls.getLast? with | none => 0 | some y => if y.v.f ≤ y.v.t then y.v.t else y.v.f
set_option maxHeartbeats 1000000 in
theorem last_c (c : Ch) (w : World) (h : ChOk w c) :
    Calls Try.prog 74 #[.pointer (some ⟨c.g, 0, none⟩)] w fun e w' => e = .returned (.int .i64 (lastI c.ls)) ∧ Below w.heap.size w w' := by
  obtain ⟨cg, ck, ls⟩ := c
  have hblk := h.blk
  rcases nil_or_snoc ls with rfl | ⟨init, y, rfl⟩
  · have c2 : w.cell? ⟨cg, 2, none⟩ = some (.pointer none) := by rw [hblk.cell]; rfl
    go_enter Try.func74, Try.ntmps74
    go_wp2
    go_ret
    exact ⟨rfl, Below.refl _ _⟩
  · have hyb := h.ls init.length y (by simp)
    have c2 : w.cell? ⟨cg, 2, none⟩ = some (.pointer (some ⟨y.g, 0, none⟩)) := by rw [hblk.cell]; simp [chCells, ptrO]
    have e2 : w.cell? ⟨y.g, 2, none⟩ = some (.int .i64 y.v.f) := by rw [hyb.cell]; rfl
    have e3 : w.cell? ⟨y.g, 3, none⟩ = some (.int .i64 y.v.t) := by rw [hyb.cell]; rfl
    have HE := Lib.hid (show lastI (init ++ [y]) = if y.v.f ≤ y.v.t then y.v.t else y.v.f from by unfold lastI; simp)
    go_enter Try.func74, Try.ntmps74
    go_wp2
    refine wp_region_held_drew (S := (fun W => W.cell? ⟨cg, 2, none⟩ = some (.pointer (some ⟨y.g, 0, none⟩)) ∧ W.cell? ⟨y.g, 2, none⟩ = some (.int .i64 y.v.f) ∧ W.cell? ⟨y.g, 3, none⟩ = some (.int .i64 y.v.t))) (by kernel_rfl) ?_ (fun hHeld => ?_)
    focus ((try dsimp only); (exact ⟨c2, e2, e3⟩))
    (refine tkW (i := 0) (v := ?_) (by (simp only [ga, gb, gc]; rfl)) (by kernel_rfl) (by (intro _ _ _ h; exact h)) (by rfl) ?_ (by assumption) ?_; rotate_left; (focus ((intro w hSw; (try dsimp only at hSw); go_simp) <;> with_reducible rfl)); (try simp only [Act.put, pa, pb, pc]))
    (refine tkW (i := 1) (v := ?_) (by (simp only [ga, gb, gc]; rfl)) (by kernel_rfl) (by (intro _ _ _ h; exact h)) (by rfl) ?_ (by assumption) ?_; rotate_left; (focus ((intro w hSw; (try dsimp only at hSw); go_simp) <;> with_reducible rfl)); (try simp only [Act.put, pa, pb, pc]))
    (refine tkW (i := 2) (v := ?_) (by (simp only [ga, gb, gc]; rfl)) (by kernel_rfl) (by (intro _ _ _ h; exact h)) (by rfl) ?_ (by assumption) ?_; rotate_left; (focus ((intro w hSw; (try dsimp only at hSw); go_simp) <;> with_reducible rfl)); (try simp only [Act.put, pa, pb, pc]))
    (refine tkW (i := 3) (v := ?_) (by (simp only [ga, gb, gc]; rfl)) (by kernel_rfl) (by (intro _ _ _ h; exact h)) (by rfl) ?_ (by assumption) ?_; rotate_left; (focus ((intro w hSw; (try dsimp only at hSw); go_simp) <;> with_reducible rfl)); (try simp only [Act.put, pa, pb, pc]))
    (refine tkW (i := 4) (v := ?_) (by (simp only [ga, gb, gc]; rfl)) (by kernel_rfl) (by (intro _ _ _ h; exact h)) (by rfl) ?_ (by assumption) ?_; rotate_left; (focus ((intro w hSw; (try dsimp only at hSw); go_simp) <;> with_reducible rfl)); (try simp only [Act.put, pa, pb, pc]))
    (refine tkW (i := 5) (v := ?_) (by (simp only [ga, gb, gc]; rfl)) (by kernel_rfl) (by (intro _ _ _ h; exact h)) (by rfl) ?_ (by assumption) ?_; rotate_left; (focus ((intro w hSw; (try dsimp only at hSw); go_simp) <;> with_reducible rfl)); (try simp only [Act.put, pa, pb, pc]))
    (refine tkW (i := 6) (v := ?_) (by (simp only [ga, gb, gc]; rfl)) (by kernel_rfl) (by (intro _ _ _ h; exact h)) (by rfl) ?_ (by assumption) ?_; rotate_left; (focus ((intro w hSw; (try dsimp only at hSw); go_simp) <;> with_reducible rfl)); (try simp only [Act.put, pa, pb, pc]))
    (refine tkW (i := 7) (v := ?_) (by (simp only [ga, gb, gc]; rfl)) (by kernel_rfl) (by (intro _ _ _ h; exact h)) (by rfl) ?_ (by assumption) ?_; rotate_left; (focus ((intro w hSw; (try dsimp only at hSw); go_simp) <;> with_reducible rfl)); (try simp only [Act.put, pa, pb, pc]))
    (refine tkW (i := 8) (v := ?_) (by (simp only [ga, gb, gc]; rfl)) (by kernel_rfl) (by (intro _ _ _ h; exact h)) (by rfl) ?_ (by assumption) ?_; rotate_left; (focus ((intro w hSw; (try dsimp only at hSw); go_simp) <;> with_reducible rfl)); (try simp only [Act.put, pa, pb, pc]))
    (refine tkW (i := 9) (v := ?_) (by (simp only [ga, gb, gc]; rfl)) (by kernel_rfl) (by (intro _ _ _ h; exact h)) (by rfl) ?_ (by assumption) ?_; rotate_left; (focus ((intro w hSw; (try dsimp only at hSw); go_simp) <;> with_reducible rfl)); (try simp only [Act.put, pa, pb, pc]))
    (refine tkW (i := 10) (v := ?_) (by (simp only [ga, gb, gc]; rfl)) (by kernel_rfl) (by (intro _ _ _ h; exact h)) (by rfl) ?_ (by assumption) ?_; rotate_left; (focus ((intro w hSw; (try dsimp only at hSw); go_simp) <;> with_reducible rfl)); (try simp only [Act.put, pa, pb, pc]))
    (refine tkW (i := 11) (v := ?_) (by (simp only [ga, gb, gc]; rfl)) (by kernel_rfl) (by (intro _ _ _ h; exact h)) (by rfl) ?_ (by assumption) ?_; rotate_left; (focus ((intro w hSw; (try dsimp only at hSw); go_simp) <;> with_reducible rfl)); (try simp only [Act.put, pa, pb, pc]))
    (refine tkW (i := 12) (v := ?_) (by (simp only [ga, gb, gc]; rfl)) (by kernel_rfl) (by (intro _ _ _ h; exact h)) (by rfl) ?_ (by assumption) ?_; rotate_left; (focus ((intro w hSw; (try dsimp only at hSw); go_simp) <;> with_reducible rfl)); (try simp only [Act.put, pa, pb, pc]))
    (refine tkW (i := 13) (v := ?_) (by (simp only [ga, gb, gc]; rfl)) (by kernel_rfl) (by (intro _ _ _ h; exact h)) (by rfl) ?_ (by assumption) ?_; rotate_left; (focus ((intro w hSw; (try dsimp only at hSw); go_simp) <;> with_reducible rfl)); (try simp only [Act.put, pa, pb, pc]))
    (refine tkW (i := 14) (v := ?_) (by (simp only [ga, gb, gc]; rfl)) (by kernel_rfl) (by (intro _ _ _ h; exact h)) (by rfl) ?_ (by assumption) ?_; rotate_left; (focus ((intro w hSw; (try dsimp only at hSw); go_simp) <;> with_reducible rfl)); (try simp only [Act.put, pa, pb, pc]))
    (refine tkW (i := 15) (v := ?_) (by (simp only [ga, gb, gc]; rfl)) (by kernel_rfl) (by (intro _ _ _ h; exact h)) (by rfl) ?_ (by assumption) ?_; rotate_left; (focus ((intro w hSw; (try dsimp only at hSw); go_simp) <;> with_reducible rfl)); (try simp only [Act.put, pa, pb, pc]))
    (refine tkW (i := 16) (v := ?_) (by (simp only [ga, gb, gc]; rfl)) (by kernel_rfl) (by (intro _ _ _ h; exact h)) (by rfl) ?_ (by assumption) ?_; rotate_left; (focus ((intro w hSw; (try dsimp only at hSw); go_simp) <;> with_reducible rfl)); (try simp only [Act.put, pa, pb, pc]))
    (refine tkW (i := 17) (v := ?_) (by (simp only [ga, gb, gc]; rfl)) (by kernel_rfl) (by (intro _ _ _ h; exact h)) (by rfl) ?_ (by assumption) ?_; rotate_left; (focus ((intro w hSw; (try dsimp only at hSw); go_simp) <;> with_reducible rfl)); (try simp only [Act.put, pa, pb, pc]))
    refine wpAnyH_done (by kernel_rfl) ?_ _
    go_wp2
    all_goals
      go_ret
      exact ⟨ret_int (by rw [HE.out]; split <;> omega), (Below.refl _ _).drew⟩

/-- a pointer to a chain -/
structure Pt where
  g : Nat
instance elPt : Elt Pt where
  T := 94
  wd := 1
  byt := 8
  zero := .pointer none
  cs := fun x => [.pointer (some ⟨x.g, 0, none⟩)]
  len := fun _ => rfl
  pos := by omega
  one := by
    intro a u hu
    simp only [List.mem_cons, List.not_mem_nil, or_false] at hu
    subst hu; rfl
  info := by kernel_rfl
  zsize := rfl
  small := by omega
theorem RdG.atPt {w : World} {B : Nat} {A : Option Addr} {l : List Pt} (h : RdG w B A l) {i : Nat} (hi : i < l.length) : ∃ b o, A = some ⟨b, o, none⟩ ∧ b < B ∧ w.cell? ⟨b, o + i, none⟩ = some (.pointer (some ⟨l[i].g, 0, none⟩)) := by
  obtain ⟨b, o, e, hb, h1⟩ := h.at_ hi
  refine ⟨b, o, e, hb, ?_⟩
  have := h1 0 _ rfl
  rw [show Elt.wd Pt = 1 from rfl, Nat.mul_one, Nat.add_zero] at this
  exact this
def pts (chs : List Ch) : List Pt := chs.map fun c => ⟨c.g⟩
def keysR (chs : List Ch) : List R := chs.map fun c => (c.k, 0)
theorem pts_length (chs : List Ch) : (pts chs).length = chs.length := by simp [pts]
theorem keysR_length (chs : List Ch) : (keysR chs).length = chs.length := by simp [keysR]

set_option maxHeartbeats 400000 in
theorem sortKeyC_c (g : Nat) (k : ByteArray) (w : World) (h : w.cell? ⟨g, 0, none⟩ = some (.string k)) :
    Calls Try.prog 143 #[.pointer (some ⟨g, 0, none⟩)] w fun e w' => e = .returned (.string k) ∧ w = w' := by
  go_enter Try.func143, Try.ntmps143
  go_wp2
  go_ret
  exact ⟨rfl, rfl⟩
theorem method_keyC (g : Nat) (w : World) :
    (method 277 94 (.pointer (some ⟨g, 0, none⟩)) "loop.example/engrosser/impl.sortKey").run Try.prog w = .ok (143, .pointer (some ⟨g, 0, none⟩)) w := by kernel_rfl

set_option maxHeartbeats 1000000 in
theorem findC (A : Option Addr) (c : Nat) (chs : List Ch) (key : ByteArray) (w : World) (hc : chs.length ≤ 2097152) (hr : RdG w w.heap.size A (pts chs)) (hk : ∀ i (h : i < chs.length), w.cell? ⟨chs[i].g, 0, none⟩ = some (.string chs[i].k)) (ha : AscP (keysR chs)) :
    Calls Try.prog 113 #[.slice A chs.length c, .string key] w fun e w' => e = .returned (.tuple #[.int .i64 (posN (keysR chs) key : Nat), .bool (hasB (keysR chs) key)]) ∧ w = w' := by
  have hm := method_keyC
  go_enter Try.func113, Try.ntmps113
  go_wp2
  go_loop [6, 7] (fun i j => ∃ p q : Nat, p ≤ q ∧ q ≤ chs.length ∧ i = .int .i64 p ∧ j = .int .i64 q ∧ (∀ i (h : i < chs.length), i < p → lt chs[i].k key = true) ∧ (∀ h : q < chs.length, lt chs[q].k key = false)) (fun i j => (intOf j).toNat - (intOf i).toNat)
  case atStart => exact ⟨0, chs.length, Nat.zero_le _, Nat.le_refl _, rfl, rfl, fun i h h0 => absurd h0 (by omega), fun h => absurd h (by omega)⟩
  case round =>
    obtain ⟨p, q, hpq, hq, rfl, rfl, hlow, hhigh⟩ := hrel
    have HLOW := Lib.hid hlow
    have HHIGH := Lib.hid hhigh
    clear hlow hhigh
    by_cases hlt : p < q
    · obtain ⟨m, hmp, hmq, hme⟩ : ∃ m : Nat, p ≤ m ∧ m < q ∧ (p : Int) + ((q : Int) - (p : Int)) / 2 = (m : Int) := ⟨p + (q - p) / 2, by omega, by omega, by omega⟩
      have hml : m < chs.length := by omega
      obtain ⟨b, o, rfl, hbB, hc0⟩ := hr.atPt (i := m) (by rw [pts_length]; exact hml)
      have hc1 : w.cell? ⟨b, o + m, none⟩ = some (.pointer (some ⟨chs[m].g, 0, none⟩)) := by rw [hc0]; simp [pts]
      clear hc0
      have hkm := hk m hml
      have HK := Lib.hid hk
      clear hk
      cases hl : Op.bytesLess chs[m].k.toList key.toList
      · have HL := Lib.hid (show lt chs[m].k key = false from hl)
        go_wp2_with ((go_at_call 143; refine (sortKeyC_c _ _ _ hkm).mono ?_; rintro e w' ⟨rfl, rfl⟩))
        go_round
        case rel => exact ⟨p, m, hmp, by omega, rfl, rfl, HLOW.out, fun _ => HL.out⟩
        case measure => simp [intOf]; omega
      · have HL := Lib.hid (show lt chs[m].k key = true from hl)
        go_wp2_with ((go_at_call 143; refine (sortKeyC_c _ _ _ hkm).mono ?_; rintro e w' ⟨rfl, rfl⟩))
        go_round
        case rel => exact ⟨m + 1, q, by omega, hq, by go_num, rfl, fun i h h0 => by
          by_cases e : i = m
          · subst e; exact HL.out
          · have := asc_lt ha m (by rw [keysR_length]; exact hml) i (by omega)
            simp only [keysR, List.getElem_map] at this
            exact lt_trans this HL.out, HHIGH.out⟩
        case measure => simp [intOf]; omega
    · obtain rfl : p = q := by omega
      have hp : Pos (keysR chs) key p := ⟨by rw [keysR_length]; exact hq, fun i h h0 => by
        have := HLOW.out i (by rwa [keysR_length] at h) h0
        simpa [keysR] using this, fun h => by
        have := HHIGH.out (by rwa [keysR_length] at h)
        simpa [keysR] using this⟩
      have HP := Lib.hid hp
      by_cases hpl : p < chs.length
      · obtain ⟨b, o, rfl, hbB, hc0⟩ := hr.atPt (i := p) (by rw [pts_length]; exact hpl)
        have hc1 : w.cell? ⟨b, o + p, none⟩ = some (.pointer (some ⟨chs[p].g, 0, none⟩)) := by rw [hc0]; simp [pts]
        clear hc0
        have hkm := hk p hpl
        have HB := Lib.hid (show hasB (keysR chs) key = (chs[p].k.toList == key.toList) from by
          rw [hasB_at hp (by rw [keysR_length]; exact hpl)]; simp [keysR])
        clear hp hk
        go_wp2_with ((go_at_call 143; refine (sortKeyC_c _ _ _ hkm).mono ?_; rintro e w' ⟨rfl, rfl⟩))
        go_ret2
        exact ⟨ret_pos HP.out.eq HB.out.symm, rfl⟩
      · have HB := Lib.hid (hasB_end hp (by rw [keysR_length]; omega))
        clear hp hk
        go_wp2
        go_ret2
        exact ⟨ret_pos HP.out.eq HB.out.symm, rfl⟩

theorem rdTkG {α : Type} [Elt α] {w W : World} {A : Option Addr} {l : List α} (hr : RdG w w.heap.size A l) (p : Nat) (h : Below w.heap.size w W) : RdG W W.heap.size A (l.take p) := ((hr.take p).below h).more h.size
theorem rdDpG {α : Type} [Elt α] {w W : World} {A : Option Addr} {l : List α} (hr : RdG w w.heap.size A l) (p c : Nat) (hc : l.length ≤ c) (h : Below w.heap.size w W) : RdG W W.heap.size (cutG α A c p) (l.drop p) := ((hr.drop p c hc).below h).more h.size

set_option maxHeartbeats 1000000 in
theorem spliceC (A : Option Addr) (c n : Nat) (l : List Pt) (hn : l.length = n) (f : Nat) (A2 : Option Addr) (n2 c2 : Nat) (l2 : List Pt) (hn2 : l2.length = n2) (w : World) (hlc : l.length ≤ c) (hc : l.length ≤ 1048576) (h2 : n2 ≤ 1048576) (hft : f ≤ l.length)
    (hr : RdG w w.heap.size A l) (hr2 : RdG w w.heap.size A2 l2) :
    Calls Try.prog 114 #[.slice A n c, .int .i64 f, .int .i64 f, .slice A2 n2 c2] w (RetG w (l.take f ++ l2 ++ l.drop f)) := by
  subst hn
  have hmk := mkG (α := Pt) 107 Try.underlying107 0 (l.length + n2) (Nat.zero_le _) (by omega)
  rw [show ((l.length + n2 : Nat) : Int) = (l.length : Int) + (n2 : Int) from by omega, show ((0 : Nat) : Int) = 0 from rfl] at hmk
  have hO := OwnG.made (α := Pt) w w.heap.size (l.length + n2) (Nat.le_refl _) (by unfold maxLen; omega)
  have hT : Below w.heap.size w (w.alloc (.cells (freshG Pt (l.length + n2)) 94)) := below_alloc (Below.refl _ _) _
  generalize l.length + n2 = C at *
  have hcut := runCutG (α := Pt) 107 Try.underlying107 A l.length c f hft hlc
  have hi1 : (0 : Int) ≤ (f : Int) := by omega
  have hi2 : (f : Int) ≤ (c : Int) := by omega
  have hi3 : (f : Int) ≤ (l.length : Int) := by omega
  go_enter Try.func114, Try.ntmps114
  go_wp2_with (first
    | (at_builtin; refine wpList_appG (α := Pt) (w.alloc (.cells (freshG Pt C) 94)) rfl _ _ _ _ 94 rfl Try.underlying107 Try.underlying107 w.heap.size _ [] rfl hO A c _ f (l.take f) (by simp; omega) rfl (rdTkG hr f hT) (by simp; omega) hT.size ?_; intro v3 w3 hown3 hgr3 hat3; have hT := belowAppG hT hO hgr3; clear hmk)
    | (at_builtin; refine wpList_appG (α := Pt) w3 rfl _ _ _ _ 94 rfl Try.underlying107 Try.underlying106 w.heap.size v3 ([] ++ l.take f) rfl hown3 A2 c2 _ n2 l2 hn2 rfl (hr2.below hT) (by simp; omega) hT.size ?_; intro v4 w4 hown4 hgr4 hat4; have hT := belowAppG hT hown3 hgr4)
    | (at_builtin; refine wpList_appG (α := Pt) w4 rfl _ _ _ _ 94 rfl Try.underlying107 Try.underlying107 w.heap.size v4 ([] ++ l.take f ++ l2) rfl hown4 (cutG Pt A c f) (c - f) _ (l.length - f) (l.drop f) List.length_drop rfl (rdDpG hr f c hlc hT) (by simp; omega) hT.size ?_; intro v5 w5 hown5 hgr5 hat5; have hT := belowAppG hT hown4 hgr5))
  go_ret
  exact ⟨v5, rfl, by simpa using hown5, hT⟩

end Go.Proofs.Ytbhdgalkedegjaa
