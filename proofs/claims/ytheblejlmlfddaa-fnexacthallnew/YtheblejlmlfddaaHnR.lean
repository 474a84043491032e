/- HallNew: a copy of wide elements; slices.Repeat of one who is gone, three times. -/
import Derived.Test.YtheblejlmlfddaaHlH
import Derived.Test.YtheblejlmlfddaaF4
import Derived.Laws.CopyRow
import Derived.Laws.CopyOwn
namespace Go.Proofs.Ytheblejlmlfddaa
open Go.RowKit
set_option linter.unusedVariables false
set_option maxRecDepth 100000

/-- 'copy' where an element has k cells -/
theorem run_copy_wide (P : Program) (w : World) (dT sT ty elem : TypeId) (k : Nat) (g o dLen dCap : Nat) (a : Addr) (sLen sCap : Nat) (cur : Array Value) (t : TypeId) (cs : List Value)
  (hu : P.underlying dT = some (.slice elem)) (hs : (P.info? elem).map (·.size) = some k)
  (hg : w.heap[g]? = some (.cells cur t (0, 0))) (hn : Nat.min sLen dLen * k = cs.length)
  (hsrc : ∀ j v, cs[j]? = some v → w.cell? (a.add j) = some v) (hfit : o + cs.length ≤ cur.size) (h1 : ∀ v ∈ cs, v.oneCell' = true) :
  (Builtin.copy_ #[dT, sT] ty #[.slice (some ⟨g, o, none⟩) dLen dCap, .slice (some a) sLen sCap]).run P w =
   .ok (goInt (Nat.min sLen dLen)) (w.setRow g (cur.toList.take o ++ cs ++ cur.toList.drop (o + cs.length)).toArray) := by
 have hl := run_loadCells_list (P := P) w a cs hsrc
 have hst := run_storeCells_at P g o t cs 0 cur w hg (by simpa using hfit) h1
 cases hq : P.info? elem with
 | none => simp [hq] at hs
 | some i =>
  have hi : i.size = k := by simpa [hq] using hs
  simp [Builtin.copy_, run_underlying hu, Builtin.lenOf, Builtin.firstCells, sizeOf, typeInfo, hq, hi, hn, hl, hst]

set_option maxHeartbeats 1000000 in
theorem mul64_c (w : World) : Calls Try.prog 61 #[.int .u64 1, .int .u64 3] w fun e w' => e = .returned (.tuple #[.int .u64 0, .int .u64 3]) ∧ w' = w := by
 go_enter Try.func61, Try.ntmps61
 go_wp2
 exact bodyPost_ret (v := .tuple #[.int .u64 0, .int .u64 3]) (by simp [results, Try.results61, go_sem]; rfl) rfl ⟨rfl, rfl⟩
theorem mul_c (w : World) : Calls Try.prog 43 #[.int .u64 1, .int .u64 3] w fun e w' => e = .returned (.tuple #[.int .u64 0, .int .u64 3]) ∧ w' = w := by
 go_enter Try.func43, Try.ntmps43
 go_wp2_with fail
 refine (mul64_c _).mono ?_
 rintro e w' ⟨rfl, rfl⟩
 go_wp2
 exact bodyPost_ret (v := .tuple #[.int .u64 0, .int .u64 3]) (by simp [results, Try.results43, go_sem]) rfl ⟨rfl, rfl⟩

/-- one who is gone -/
def g0 : TT := ⟨⟨false, false, 0, [], [], false, true, ByteArray.empty⟩, none, 0, none, 0⟩
def z0 : List Value := [.bool false, .bool false, .int .i64 0, .slice none 0 0, .slice none 0 0, .bool false, .bool false, .string ByteArray.empty]
/-- room for three, of which k are gone -/
def headG (k : Nat) : Array Value := ((List.replicate k (csTT g0)).flatten ++ (List.replicate (3 - k) z0).flatten).toArray
theorem fresh3 : freshG TT 3 = headG 0 := by kernel_rfl
theorem setRow_blk {w : World} {g : Nat} {t : TypeId} {cs : Array Value} (B : Blk w g t cs) (cs' : Array Value) : Blk (w.setRow g cs') g t cs' := setRow_heap w g cs cs' t _ B
theorem setRow_chg {w : World} {g : Nat} (cs : Array Value) : Chg (fun k => k = g) w (w.setRow g cs) := by
 refine ⟨rfl, rfl, rfl, by simp [World.setRow], fun i hi hn => setRow_other w g i cs hn⟩
theorem copyT {w : World} {h k : Nat} (hk : k < 3) (B : Blk w h 57 (headG k)) {a : Addr} (hsrc : ∀ j v, (csTT g0)[j]? = some v → w.cell? (a.add j) = some v) (dLen dCap sLen sCap : Nat) (hn : Nat.min sLen dLen = 1) :
  ∃ V, (Builtin.copy_ #[25, 25] 3 #[.slice (some ⟨h, k * 8, none⟩) dLen dCap, .slice (some a) sLen sCap]).run Try.prog w = .ok (.int .i64 1) V ∧ Blk V h 57 (headG (k + 1)) ∧ V.heap.size = w.heap.size ∧ Chg (fun k => k = h) w V := by
 have e1 : ((headG k).toList.take (k * 8) ++ csTT g0 ++ (headG k).toList.drop (k * 8 + (csTT g0).length)).toArray = headG (k + 1) := by
  match k, hk with
  | 0, _ => rfl
  | 1, _ => rfl
  | 2, _ => rfl
 have hfit : k * 8 + (csTT g0).length ≤ (headG k).size := by
  match k, hk with
  | 0, _ => decide
  | 1, _ => decide
  | 2, _ => decide
 have h := run_copy_wide Try.prog w 25 25 3 57 8 h (k * 8) dLen dCap a sLen sCap (headG k) 57 (csTT g0) Try.underlying25 (by kernel_rfl) B (by rw [hn]; rfl) hsrc hfit (Elt.one g0)
 rw [hn, e1] at h
 exact ⟨_, h, setRow_blk B _, by simp [World.setRow], setRow_chg _⟩
theorem blkCells {w : World} {h : Nat} {k : Nat} (hk : 0 < k) (hk3 : k ≤ 3) (B : Blk w h 57 (headG k)) : ∀ j v, (csTT g0)[j]? = some v → w.cell? ((⟨h, 0, none⟩ : Addr).add j) = some v := by
 intro j v hj
 have hl : j < 8 := by
  rcases Nat.lt_or_ge j 8 with h | h
  ·
   exact h
  ·
   rw [List.getElem?_eq_none (by exact h)] at hj; cases hj
 have ha : (⟨h, 0, none⟩ : Addr).add j = ⟨h, j, none⟩ := by unfold Addr.add; simp; intro e; exact e.symm
 rw [ha, B.cell]
 rw [← hj]
 match k, hk, hk3, j, hl with
 | 1, _, _, 0, _ | 1, _, _, 1, _ | 1, _, _, 2, _ | 1, _, _, 3, _ | 1, _, _, 4, _ | 1, _, _, 5, _ | 1, _, _, 6, _ | 1, _, _, 7, _ => rfl
 | 2, _, _, 0, _ | 2, _, _, 1, _ | 2, _, _, 2, _ | 2, _, _, 3, _ | 2, _, _, 4, _ | 2, _, _, 5, _ | 2, _, _, 6, _ | 2, _, _, 7, _ => rfl
 | 3, _, _, 0, _ | 3, _, _, 1, _ | 3, _, _, 2, _ | 3, _, _, 3, _ | 3, _, _, 4, _ | 3, _, _, 5, _ | 3, _, _, 6, _ | 3, _, _, 7, _ => rfl

theorem srcT {w : World} {g : Nat} (B : Blk w g 57 (csTT g0).toArray) : ∀ j v, (csTT g0)[j]? = some v → w.cell? ((⟨g, 0, none⟩ : Addr).add j) = some v := by
 intro j v hj
 have ha : (⟨g, 0, none⟩ : Addr).add j = ⟨g, j, none⟩ := by unfold Addr.add; simp; intro e; exact e.symm
 rw [ha, B.cell]; simpa using hj
theorem own3 {w : World} {g base : Nat} (hb : base ≤ g) (B : Blk w g 57 (headG 3)) : OwnG w base (.slice (some ⟨g, 0, none⟩) 3 3) [g0, g0, g0] :=
 OwnG.mk (l := [g0, g0, g0]) hb B (by decide) (by unfold maxLen; decide) (by decide) (by rfl)

set_option maxHeartbeats 2000000 in
theorem repeatT {w : World} {g : Nat} (B : Blk w g 57 (csTT g0).toArray) :
  Calls Try.prog 23 #[.slice (some ⟨g, 0, none⟩) 1 1, .int .i64 3] w fun e w' => ∃ h, e = .returned (.slice (some ⟨h, 0, none⟩) 3 3) ∧ OwnG w' w.heap.size (.slice (some ⟨h, 0, none⟩) 3 3) [g0, g0, g0] ∧ w.heap.size ≤ h ∧ Below w.heap.size w w' := by
 have hmk : (Instr.makeSlice 25 (.int .i64 3) (.int .i64 3)).run Try.prog w = .ok (.slice (some ⟨w.heap.size, 0, none⟩) 3 3) (w.alloc (.cells (headG 0) 57)) := by
  have := mkG (α := TT) 25 Try.underlying25 3 3 (Nat.le_refl _) (by omega) w
  rw [fresh3] at this; exact this
 obtain ⟨W, eW, hs, B0, hb0⟩ := al1 w rfl (headG 0) 57
 obtain ⟨V, hcp, BV, hV, cV⟩ := copyT (k := 0) (by omega) B0 (srcT (B.next hb0)) 3 3 1 1 rfl
 have hbV : Below w.heap.size w V := belowChgd hb0 cV (Nat.le_refl _)
 go_enter Try.func23, Try.ntmps23
 go_wp2_with fail
 refine (mul_c _).mono ?_
 rintro e w' ⟨rfl, rfl⟩
 go_wp2
 go_loopw [8] (fun n W => ∃ k : Nat, 0 < k ∧ k ≤ 3 ∧ n = .int .i64 k ∧ Blk W w'.heap.size 57 (headG k) ∧ Below w'.heap.size w' W) (fun n _ => 3 - (intOf n).toNat)
 case atStart => exact ⟨1, by omega, by omega, rfl, BV, hbV⟩
 case round =>
  clear hmk hcp B0 BV hbV cV eW
  obtain ⟨k, h0, h3, rfl, BR, hb⟩ := hrel
  rcases (by omega : k = 1 ∨ k = 2 ∨ k = 3) with rfl | rfl | rfl
  ·
   go_wp2
   refine reg (X := fun _ => True) (S := fun _ => True) (fun _ _ => trivial) fun wd hd F => ?_
   have hc : ∀ w : World, True → True := fun _ _ => trivial
   obtain ⟨V, hcp, BV, hV, cV⟩ := copyT (k := 1) (by omega) (BR.next hd) (blkCells (by omega) (by omega) (BR.next hd)) 2 2 1 3 rfl
   have hbV := belowChgd (hb.trans (hd.mono hb.size)) cV (Nat.le_refl _)
   clear BR hb hd cV hV
   refine tkc F hc 0 ?_
   refine tkc F hc 1 ?_
   refine tkc F hc 2 ?_
   refine tkc F hc 3 ?_
   refine tkc F hc 4 ?_
   refine tkc F hc 5 ?_
   refine tkc F hc 6 ?_
   refine rd1 7 (fun K hK => ?_)
   go_simp
   have F2 : Fr (fun _ => True) (fun _ => True) V := fun _ _ => trivial
   refine fn hK F2 ?_
   clear hK K
   refine tkc F2 hc 8 ?_
   refine tkc F2 hc 9 ?_
   refine wpAnyH_done (by kernel_rfl) ?_ _
   go_wp2
   go_roundw
   case rel => exact ⟨2, by omega, by omega, by go_num, BV, hbV⟩
   case measure => simp only [intOf, IntKind.wrap_i64]; decide
  ·
   go_wp2
   refine reg (X := fun _ => True) (S := fun _ => True) (fun _ _ => trivial) fun wd hd F => ?_
   have hc : ∀ w : World, True → True := fun _ _ => trivial
   obtain ⟨V, hcp, BV, hV, cV⟩ := copyT (k := 2) (by omega) (BR.next hd) (blkCells (by omega) (by omega) (BR.next hd)) 1 1 2 3 rfl
   have hbV := belowChgd (hb.trans (hd.mono hb.size)) cV (Nat.le_refl _)
   clear BR hb hd cV hV
   refine tkc F hc 0 ?_
   refine tkc F hc 1 ?_
   refine tkc F hc 2 ?_
   refine tkc F hc 3 ?_
   refine tkc F hc 4 ?_
   refine tkc F hc 5 ?_
   refine tkc F hc 6 ?_
   refine rd1 7 (fun K hK => ?_)
   go_simp
   have F2 : Fr (fun _ => True) (fun _ => True) V := fun _ _ => trivial
   refine fn hK F2 ?_
   clear hK K
   refine tkc F2 hc 8 ?_
   refine tkc F2 hc 9 ?_
   refine wpAnyH_done (by kernel_rfl) ?_ _
   go_wp2
   go_roundw
   case rel => exact ⟨3, by omega, by omega, by go_num, BV, hbV⟩
   case measure => simp only [intOf, IntKind.wrap_i64]; decide
  ·
   go_wp2
   go_ret
   exact ⟨_, rfl, own3 (Nat.le_refl _) BR, Nat.le_refl _, hb⟩

end Go.Proofs.Ytheblejlmlfddaa
