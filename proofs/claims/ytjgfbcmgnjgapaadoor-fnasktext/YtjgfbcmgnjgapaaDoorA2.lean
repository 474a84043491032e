/- Appending rows to rows of the call's own.
The model's RowsOk computes 'rowsB'.
The program's RowsOk computes 'rowsB'.
Where a key is in rows: the model's search and the program's. -/
import Derived.Test.YtjgfbcmgnjgapaaDoorA1
import Derived.Maps.AppendAt
import Derived.Deep.AppendLies
import Derived.Deep.QuietTactic
import Derived.BigQuiet
import Derived.Deep.RegionHeld3
import Derived.IntWalk
namespace Go.Proofs.YtjgfbcmgnjgapaaDoor
open Go.RowKit
set_option linter.unusedVariables false

theorem app_types {P : Program} (t t' ty e e' : TypeId) (i : TypeInfo) (ht : P.underlying t = some (.slice e)) (ht' : P.underlying t' = some (.slice e')) (hi : P.info? e = some i) (b : Option Addr) (n c : Nat) (A : Option Addr) (m c2 : Nat) (w : World) :
  (Builtin.append_ #[t, t'] ty #[.slice b n c, .slice A m c2]).run P w = (Builtin.append_ #[t, t] ty #[.slice b n c, .slice A m c2]).run P w := by
 simp [Builtin.append_, run_underlying ht, run_underlying ht', sizeOf, typeInfo, hi]

theorem cellsR_append (a b : List R) : cellsR (a ++ b) = cellsR a ++ cellsR b := by simp [cellsR]
theorem cellsR_one (l : List R) : ∀ u ∈ cellsR l, u.oneCell' = true := by
 intro u hu
 obtain ⟨r, _, h⟩ := List.mem_flatMap.1 hu
 simp at h
 rcases h with rfl | rfl <;> rfl
theorem cellsR_even (l : List R) (j : Nat) (u : Value) (h : (cellsR l)[j]? = some u) : ∃ r, l[j / 2]? = some r ∧ (j % 2 = 0 ∧ u = .string r.1 ∨ j % 2 = 1 ∧ u = .int .i64 r.2) := by
 have hj : j < l.length * 2 := by have := (List.getElem?_eq_some_iff.1 h).1; rwa [cellsR_length] at this
 have hr : l[j / 2]? = some (l[j / 2]'(by omega)) := List.getElem?_eq_getElem _
 refine ⟨_, hr, ?_⟩
 have e2 := cellsR_key l _ _ hr
 have e3 := cellsR_num l _ _ hr
 rcases Nat.mod_two_eq_zero_or_one j with hm | hm
 ·
  left
  rw [show j / 2 * 2 = j from by omega] at e2
  exact ⟨hm, Option.some.inj (h.symm.trans e2)⟩
 ·
  right
  rw [show j / 2 * 2 + 1 = j from by omega] at e3
  exact ⟨hm, Option.some.inj (h.symm.trans e3)⟩
theorem Rd.cells {w : World} {B : Nat} {ad : Addr} {l : List R} (h : Rd w B (some ad) l) : ∀ j u, (cellsR l)[j]? = some u → w.cell? (ad.add j) = some u := by
 intro j u hu
 obtain ⟨r, hr, hv⟩ := cellsR_even l j u hu
 obtain ⟨b, o, e, _, h1, h2⟩ := h _ r hr
 injection e with e
 subst e
 have ha : (⟨b, o, none⟩ : Addr).add j = ⟨b, o + j, none⟩ := by
  unfold Addr.add
  split
  ·
   rename_i h0; subst h0; rfl
  ·
   rfl
 rw [ha]
 rcases hv with ⟨hm, rfl⟩ | ⟨hm, rfl⟩
 ·
  rw [show o + j = o + j / 2 * 2 from by omega]; exact h1
 ·
  rw [show o + j = o + j / 2 * 2 + 1 from by omega]; exact h2

theorem runAppR (t t' ty e' : TypeId) (ht : Tryd.prog.underlying t = some (.slice 85)) (ht' : Tryd.prog.underlying t' = some (.slice e')) (w : World) (base : Nat) (v : Value) (l : List R) (hown : OwnR w base v l)
  (A : Option Addr) (c B : Nat) (l2 : List R) (hr : Rd w B A l2) (hlen : l.length + l2.length ≤ 4194304) (hbase : base ≤ w.heap.size) :
  ∃ v' w', (Builtin.append_ #[t, t'] ty #[v, .slice A l2.length c]).run Tryd.prog w = .ok v' w' ∧ OwnR w' base v' (l ++ l2) ∧ w.grownBy w' v.ownBlock ∧ (v'.ownBlock = v.ownBlock ∨ v'.ownBlock = some w.heap.size) := by
 obtain ⟨i, hi, hz, hs, hb⟩ := infoR
 have hv : ∃ b n c, v = .slice b n c := by
  rcases hown.cases with ⟨rfl, rfl⟩ | ⟨g, cap, cur, rfl, _⟩
  ·
   exact ⟨_, _, _, rfl⟩
  ·
   exact ⟨_, _, _, rfl⟩
 have hty : (Builtin.append_ #[t, t'] ty #[v, .slice A l2.length c]).run Tryd.prog w = (Builtin.append_ #[t, t] ty #[v, .slice A l2.length c]).run Tryd.prog w := by
  obtain ⟨b, n, c', rfl⟩ := hv
  exact app_types t t' ty _ _ i ht ht' hi b n c' A _ c w
 rw [hty]
 cases A with
 | none =>
  have h2 : l2 = [] := by
   cases l2 with
   | nil => rfl
   | cons r l2 =>
    obtain ⟨b, o, e, _⟩ := hr 0 r rfl
    cases e
  subst h2
  refine ⟨v, w, ?_, by simpa using hown, World.grownBy.refl _ _, .inl rfl⟩
  rcases hown.cases with ⟨rfl, rfl⟩ | ⟨g, cap, cur, rfl, _, _, hl, _⟩
  ·
   simp [Builtin.append_, run_underlying ht, sizeOf, typeInfo, hi, Builtin.lenOf, Builtin.firstCells]
  ·
   simp [Builtin.append_, run_underlying ht, sizeOf, typeInfo, hi, Builtin.lenOf, Builtin.firstCells, hl, storeCells]
 | some ad =>
  obtain ⟨v', w', h1, h2, h3, _, h5⟩ := run_append_own_at (P := Tryd.prog) w base t ty 85 i (.agg zeroR) 2 24 ht hi hz hs hb rfl (by omega) v l.length (cellsR l) hown ad l2.length c (cellsR l2) (cellsR_length l2) hr.cells (cellsR_one l2)
   (by unfold maxLen; omega) (by omega) hbase
  refine ⟨v', w', h1, ?_, h3, h5⟩
  unfold OwnR
  rw [cellsR_append, List.length_append]
  exact h2

theorem wp_appR {o : Oper} {a : Act} {K : Act → World → Prop} {Q : Exit → Act → World → Prop} (w : World) (s x : Operand) (t t' e' : TypeId)
  (ho : o.op = .call { callee := .builtin .append, args := #[s, x], argTypes := #[t, t'] }) (ht : Tryd.prog.underlying t = some (.slice 85)) (ht' : Tryd.prog.underlying t' = some (.slice e'))
  (base : Nat) (v : Value) (l : List R) (hs : a.eval s = v) (hown : OwnR w base v l) (A : Option Addr) (c B n2 : Nat) (l2 : List R) (hn2 : l2.length = n2) (hx : a.eval x = .slice A n2 c) (hr : Rd w B A l2) (hlen : l.length + l2.length ≤ 4194304) (hbase : base ≤ w.heap.size)
  (h : ∀ v' w', OwnR w' base v' (l ++ l2) → w.grownBy w' v.ownBlock → (v'.ownBlock = v.ownBlock ∨ v'.ownBlock = some w.heap.size) → K (a.put o.dst v') w') : o.wp Tryd.prog a w K Q := by
 subst hn2
 obtain ⟨v', w', hrun, h2, h3, h4⟩ := runAppR t t' o.type e' ht ht' w base v l hown A c B l2 hr hlen hbase
 unfold Oper.wp execOp
 simp only [ho, resolve, invoke, builtin, Sem.run_bind, Sem.run_pure, Result.andThen_ok, List.map_toArray, List.map_cons, List.map_nil, hs, hx, hrun]
 exact h v' w' h2 h3 h4

theorem wpList_appR {ops : Array Oper} {rest : List Oper} {o : Oper} {a : Act} {Q : Exit → Act → World → Prop} (w : World) (hgd : o.guard = none) (s x : Operand) (t t' e' : TypeId)
  (ho : o.op = .call { callee := .builtin .append, args := #[s, x], argTypes := #[t, t'] }) (ht : Tryd.prog.underlying t = some (.slice 85)) (ht' : Tryd.prog.underlying t' = some (.slice e'))
  (base : Nat) (v : Value) (l : List R) (hs : a.eval s = v) (hown : OwnR w base v l) (A : Option Addr) (c B n2 : Nat) (l2 : List R) (hn2 : l2.length = n2) (hx : a.eval x = .slice A n2 c) (hr : Rd w B A l2) (hlen : l.length + l2.length ≤ 4194304) (hbase : base ≤ w.heap.size)
  (h : ∀ v' w', OwnR w' base v' (l ++ l2) → w.grownBy w' v.ownBlock → (v'.ownBlock = v.ownBlock ∨ v'.ownBlock = some w.heap.size) → wpList Tryd.prog ops Q rest (a.put o.dst v') w') : wpList Tryd.prog ops Q (o :: rest) a w :=
 wpList_plain hgd fun _ hK => wp_appR w s x t t' e' ho ht ht' base v l hs hown A c B n2 l2 hn2 hx hr hlen hbase fun v' w' h2 h3 h4 => hK _ _ (h v' w' h2 h3 h4)

theorem step_appR {ops : Array Oper} {o : Oper} {a : Act} {K : Act → World → Prop} {Q : Exit → Act → World → Prop} {E : Prop} (w : World) (hgd : o.guard = none) (s x : Operand) (t t' e' : TypeId)
  (ho : o.op = .call { callee := .builtin .append, args := #[s, x], argTypes := #[t, t'] }) (ht : Tryd.prog.underlying t = some (.slice 85)) (ht' : Tryd.prog.underlying t' = some (.slice e'))
  (base : Nat) (v : Value) (l : List R) (hs : a.eval s = v) (hown : OwnR w base v l) (A : Option Addr) (c B n2 : Nat) (l2 : List R) (hn2 : l2.length = n2) (hx : a.eval x = .slice A n2 c) (hr : Rd w B A l2) (hlen : l.length + l2.length ≤ 4194304) (hbase : base ≤ w.heap.size)
  (h : ∀ v' w', OwnR w' base v' (l ++ l2) → w.grownBy w' v.ownBlock → (v'.ownBlock = v.ownBlock ∨ v'.ownBlock = some w.heap.size) → K (a.put o.dst v') w') :
  if Region.wanted o (yielded ops a.tmps) = true then Oper.wp Tryd.prog o a w K Q else E := by
 have hw : Region.wanted o (yielded ops a.tmps) = true := by simp [Region.wanted, hgd]
 rw [if_pos hw]
 exact wp_appR w s x t t' e' ho ht ht' base v l hs hown A c B n2 l2 hn2 hx hr hlen hbase h

/-- the call returns rows in new memory -/
def RetR (w : World) (l : List R) (e : Ending) (w' : World) : Prop := ∃ v, e = .returned v ∧ OwnR w' w.heap.size v l ∧ Below w.heap.size w w'

theorem OwnR.fresh (w : World) (base : Nat) (hb : base ≤ w.heap.size) : OwnR (w.alloc (.cells #[] 85)) base (.slice (some ⟨w.heap.size, 0, none⟩) 0 0) [] :=
 OwnR.mk (l := []) hb (heap_alloc_new w _) (Nat.le_refl _) (by unfold maxLen; omega) rfl rfl

set_option maxRecDepth 100000 in
set_option maxHeartbeats 1000000 in
theorem specCopy (A : Option Addr) (c : Nat) (l : List R) (w : World) (hc : l.length ≤ 2097152) (hr : Rd w w.heap.size A l) :
  Calls Tryd.prog 58 #[.slice A l.length c] w (RetR w l) := by
 have hr1 : Rd (w.alloc (.cells #[] 85)) w.heap.size A l := hr.below ((Below.refl _ _).alloc (Nat.le_refl _) _)
 go_enter Tryd.func58, Tryd.ntmps58
 go_wp2_with ((at_builtin; refine wpList_appR _ rfl _ _ _ _ 85 rfl Tryd.underlying57 Tryd.underlying57 w.heap.size _ [] rfl (OwnR.fresh w _ (Nat.le_refl _)) A c w.heap.size _ l rfl rfl hr1 (by simp; omega) (by simp) ?_; intro v' w' hown hgr hat))
 go_ret
 exact ⟨v', rfl, by simpa using hown, ((Below.refl _ _).alloc (Nat.le_refl _) _).grown hgr (by simp) (fun k hk => Nat.le_of_eq (Option.some.inj hk))⟩

theorem specCopyN (A : Option Addr) (n c : Nat) (l : List R) (hn : l.length = n) (w : World) (hc : l.length ≤ 2097152) (hr : Rd w w.heap.size A l) :
  Calls Tryd.prog 58 #[.slice A n c] w (RetR w l) := by
 subst hn
 exact specCopy A c l w hc hr
theorem below_alloc {a w : World} (h : Below a.heap.size a w) (o : Obj) : Below a.heap.size a (w.alloc o) := h.alloc h.size o
theorem OwnR.alloc {w : World} {base : Nat} {v : Value} {l : List R} (h : OwnR w base v l) (o : Obj) : OwnR (w.alloc o) base v l := World.ownsRow.alloc h o
theorem rdOne (w : World) (key : ByteArray) (num : Int) (t : TypeId) : Rd (w.alloc (.cells #[.string key, .int .i64 num] t)) (w.alloc (.cells #[.string key, .int .i64 num] t)).heap.size (some ⟨w.heap.size, 0, none⟩) [(key, num)] := fun i r hi => by
 have h0 : i = 0 := by have := (List.getElem?_eq_some_iff.1 hi).1; simpa using this
 subst h0
 have : r = (key, num) := by simpa using hi.symm
 subst this
 exact ⟨w.heap.size, 0, rfl, by simp, by rw [World.cell?_alloc_at _ _ _ _ rfl]; rfl, by rw [World.cell?_alloc_at _ _ _ _ rfl]; rfl⟩

theorem rdOneD (w : World) (key : ByteArray) (num : Int) (t : TypeId) : Rd (w.alloc (.cells #[.string key, .int .i64 num] t)).drew (w.alloc (.cells #[.string key, .int .i64 num] t)).drew.heap.size (some ⟨w.heap.size, 0, none⟩) [(key, num)] := rdOne w key num t

theorem Rd.take {w : World} {B : Nat} {A : Option Addr} {l : List R} (h : Rd w B A l) (k : Nat) : Rd w B A (l.take k) := fun i r hi => by
 rw [List.getElem?_take] at hi
 split at hi
 ·
  exact h i r hi
 ·
  cases hi
theorem Rd.drop {w : World} {B : Nat} {A : Option Addr} {l : List R} (h : Rd w B A l) (k cap : Nat) (hc : l.length ≤ cap) : Rd w B (if cap = k then A else A.map (·.add (k * 2))) (l.drop k) := fun i r hi => by
 rw [List.getElem?_drop] at hi
 have hl := (List.getElem?_eq_some_iff.1 hi).1
 rw [if_neg (by omega)]
 obtain ⟨b, o, rfl, hb, h1, h2⟩ := h (k + i) r hi
 refine ⟨b, o + k * 2, ?_, hb, ?_, ?_⟩
 ·
  unfold Addr.add
  simp only [Option.map_some, Option.some.injEq]
  split
  ·
   rename_i h0; rw [h0]; rfl
  ·
   rfl
 ·
  rw [show o + k * 2 + i * 2 = o + (k + i) * 2 from by omega]; exact h1
 ·
  rw [show o + k * 2 + i * 2 + 1 = o + (k + i) * 2 + 1 from by omega]; exact h2

/-- where the slice xs[p:] begins -/
def cutA (A : Option Addr) (c p : Nat) : Option Addr := if c = p then A else A.map (·.add (p * 2))
theorem runCut (t : TypeId) (ht : Tryd.prog.underlying t = some (.slice 85)) (A : Option Addr) (n c p : Nat) (h1 : p ≤ n) (h2 : n ≤ c) (w : World) :
  (Instr.slice t (.slice A n c) (some (.int .i64 (p : Int))) none none).run Tryd.prog w = .ok (.slice (cutA A c p) (n - p) (c - p)) w := by
 have i1 : (0 : Int) ≤ (p : Int) := by omega
 have i2 : (p : Int) ≤ (n : Int) := by omega
 simp [go_sem, ht, i1, i2, cutA]
theorem rdTk {w W : World} {A : Option Addr} {l : List R} (hr : Rd w w.heap.size A l) (p : Nat) (h : Below w.heap.size w W) : Rd W W.heap.size A (l.take p) := ((hr.take p).below h).more h.size
theorem rdDp {w W : World} {A : Option Addr} {l : List R} (hr : Rd w w.heap.size A l) (p c : Nat) (hc : l.length ≤ c) (h : Below w.heap.size w W) : Rd W W.heap.size (cutA A c p) (l.drop p) := ((hr.drop p c hc).below h).more h.size

theorem ownLow {a W wc : World} {v : Value} {l : List R} (h : Below a.heap.size a W) (hown : OwnR wc W.heap.size v l) : OwnR wc a.heap.size v l := hown.low h.size
theorem belowApp {a W w' : World} {v : Value} {l : List R} (h : Below a.heap.size a W) (hown : OwnR W a.heap.size v l) (hg : W.grownBy w' v.ownBlock) : Below a.heap.size a w' :=
 h.grown hg h.size fun k hk => (hown.block_lt hk).1

end Go.Proofs.YtjgfbcmgnjgapaaDoor

namespace Go.Proofs.YtjgfbcmgnjgapaaDoor
open Go.RowKit
set_option linter.unusedVariables false

set_option maxHeartbeats 400000 in
theorem specNum (n : Int) (w : World) : Calls Tryd.prog 29 #[.int .i64 n] w fun e w' => e = .returned (.bool (numB n)) ∧ w = w' := by
 by_cases h1 : -999 ≤ n
 ·
  go_enter Tryd.func29, Tryd.ntmps29
  go_wp2
  go_ret
  exact ⟨ret_bool (by unfold numB; simp [h1]), rfl⟩
 ·
  go_enter Tryd.func29, Tryd.ntmps29
  go_wp2
  go_ret
  exact ⟨ret_bool (by unfold numB; simp; omega), rfl⟩

set_option maxHeartbeats 1000000 in
theorem specRowsOk (A : Option Addr) (c : Nat) (l : List R) (w : World) (hfit : FitR l) (hc : l.length ≤ c) (hcm : c ≤ maxLen) (hr : Rd w w.heap.size A l) :
  Calls Tryd.prog 49 #[.slice A l.length c] w fun e w' => e = .returned (.bool (rowsB l)) ∧ ∃ n, w' = w.drewN n := by
 unfold maxLen at hcm
 go_enter Tryd.func49, Tryd.ntmps49
 go_wp2
 go_loopw [3] (fun i W => ∃ k : Nat, k ≤ l.length ∧ i = .int .i64 k ∧ (∃ n, W = w.drewN n) ∧ (∀ j (h : j < l.length), j < k → keyB l[j].1 = true ∧ numB l[j].2 = true ∧ (0 < j → lt (l[j - 1]'(by omega)).1 l[j].1 = true))) (fun i _ => l.length - (intOf i).toNat)
 case atStart => exact ⟨0, Nat.zero_le _, rfl, ⟨0, rfl⟩, fun j h h0 => absurd h0 (by omega)⟩
 case round =>
  obtain ⟨k, hk, rfl, ⟨nd, hW⟩, hall⟩ := hrel
  have HALL := Lib.hid hall
  have HW := Lib.hid hW
  have hr' : Rd wr w.heap.size A l := by rw [hW]; exact hr
  clear hall hW hr
  by_cases hkl : k < l.length
  ·
   obtain ⟨b, o, rfl, hbB, hc1, hc2⟩ := hr'.at_ hkl
   have hs := (hfit _ (List.getElem_mem hkl)).1
   cases hkey : keyB l[k].1
   ·
    have HN := Lib.hid (rowsB_no fun h : RowsP l => by have := (h.each k hkl).1; rw [hkey] at this; cases this)
    go_wp2
    go_quiet ((first | (go_at_call 28; exact quietL (specKey _ _ hs))))
    go_wp2
    go_ret
    exact ⟨ret_bool HN.out.symm, _, by rw [HW.out, World.drewN_drewN]⟩
   ·
    cases hnum : numB l[k].2
    ·
     have HN := Lib.hid (rowsB_no fun h : RowsP l => by have := (h.each k hkl).2; rw [hnum] at this; cases this)
     go_wp2
     go_quiet ((first | (go_at_call 28; exact quietL (specKey _ _ hs)) | (go_at_call 29; exact quietL (specNum _ _))))
     go_wp2
     go_ret
     exact ⟨ret_bool HN.out.symm, _, by rw [HW.out, World.drewN_drewN]⟩
    ·
     by_cases hk0 : k = 0
     ·
      have hz : decide (0 < k) = false := by simp; omega
      have H0 := Lib.hid hk0
      have HK := Lib.hid hkey
      have HM := Lib.hid hnum
      clear hk0
      go_wp2
      go_quiet ((first | (go_at_call 28; exact quietL (specKey _ _ hs)) | (go_at_call 29; exact quietL (specNum _ _))))
      go_wp2
      go_roundw
      case rel => exact ⟨k + 1, by omega, by go_num, ⟨_, by rw [HW.out, World.drewN_drewN]⟩, fun j h h1 => by
       have e := H0.out
       obtain rfl : j = k := by omega
       exact ⟨HK.out, HM.out, fun h0 => absurd h0 (by omega)⟩⟩
      case measure => simp [intOf]; omega
     ·
      have hpos : decide (0 < k) = true := by simp; omega
      obtain ⟨hp1, hp2⟩ := hr'.fix rfl (i := k - 1) (by omega)
      have HK := Lib.hid hkey
      have HM := Lib.hid hnum
      have hi1 : ((k : Int) - 1).toNat = k - 1 := by omega
      have hi2 : (0 : Int) ≤ (k : Int) - 1 := by omega
      have hi3 : (k : Int) - 1 < (l.length : Int) := by omega
      cases hlt : Op.bytesLess (l[k - 1]'(by omega)).1.toList l[k].1.toList
      ·
       have HN := Lib.hid (rowsB_no fun h : RowsP l => by
        have := h.asc (k - 1) (by omega)
        have e : k - 1 + 1 = k := by omega
        simp only [e] at this
        unfold lt at this
        rw [hlt] at this; cases this)
       go_wp2
       go_quiet ((first | (go_at_call 28; exact quietL (specKey _ _ hs)) | (go_at_call 29; exact quietL (specNum _ _))))
       go_wp2
       go_ret
       exact ⟨ret_bool HN.out.symm, _, by rw [HW.out, World.drewN_drewN]⟩
      ·
       have HL := Lib.hid (show lt (l[k - 1]'(by omega)).1 l[k].1 = true from hlt)
       go_wp2
       go_quiet ((first | (go_at_call 28; exact quietL (specKey _ _ hs)) | (go_at_call 29; exact quietL (specNum _ _))))
       go_wp2
       go_roundw
       case rel => exact ⟨k + 1, by omega, by go_num, ⟨_, by rw [HW.out, World.drewN_drewN]⟩, fun j h h1 => by
        by_cases e : j = k
        ·
         subst e
         exact ⟨HK.out, HM.out, fun _ => HL.out⟩
        ·
         exact HALL.out j h (by omega)⟩
       case measure => simp [intOf]; omega
  ·
   have hkk : k = l.length := by omega
   subst hkk
   go_wp2
   go_ret
   refine ⟨ret_bool ?_, _, HW.out⟩
   by_cases h10 : l.length ≤ 10
   ·
    rw [rowsB_yes ⟨h10, fun i h => ⟨(HALL.out i h h).1, (HALL.out i h h).2.1⟩, fun i h => by simpa using (HALL.out (i + 1) h h).2.2 (by omega)⟩]
    simp; omega
   ·
    rw [rowsB_no fun h => h10 h.len]
    simp; omega

end Go.Proofs.YtjgfbcmgnjgapaaDoor

namespace Go.Proofs.YtjgfbcmgnjgapaaDoor
open Go.RowKit
set_option linter.unusedVariables false

set_option maxHeartbeats 400000 in
theorem implNum (n : Int) (w : World) : Calls Tryd.prog 43 #[.int .i64 n] w fun e w' => e = .returned (.bool (numB n)) ∧ w = w' := by
 by_cases h1 : -999 ≤ n
 ·
  go_enter Tryd.func43, Tryd.ntmps43
  go_wp2
  go_ret
  exact ⟨ret_bool (by unfold numB; simp [h1]), rfl⟩
 ·
  go_enter Tryd.func43, Tryd.ntmps43
  go_wp2
  go_ret
  exact ⟨ret_bool (by unfold numB; simp; omega), rfl⟩

theorem ret_str {a b : ByteArray} (h : a = b) : Ending.returned (.string a) = .returned (.string b) := by rw [h]

end Go.Proofs.YtjgfbcmgnjgapaaDoor

namespace Go.Proofs.YtjgfbcmgnjgapaaDoor
open Go.RowKit
set_option linter.unusedVariables false

/-- k is the first place whose key is not below the key -/
structure Pos (l : List R) (key : ByteArray) (k : Nat) : Prop where
 le : k ≤ l.length
 low : ∀ i (h : i < l.length), i < k → lt l[i].1 key = true
 at_ : ∀ h : k < l.length, lt l[k].1 key = false

def posN (l : List R) (key : ByteArray) : Nat := (l.takeWhile fun r => lt r.1 key).length
theorem posN_pos : (l : List R) → (key : ByteArray) → Pos l key (posN l key)
 | [], key => ⟨by simp [posN], fun i h => by simp at h, fun h => by simp at h⟩
 | r :: l, key => by
  have ih := posN_pos l key
  cases hr : lt r.1 key
  ·
   have e : posN (r :: l) key = 0 := by simp [posN, hr]
   rw [e]
   exact ⟨Nat.zero_le _, fun i h h0 => absurd h0 (by omega), fun h => by simpa using hr⟩
  ·
   have e : posN (r :: l) key = posN l key + 1 := by simp [posN, hr]
   rw [e]
   refine ⟨by have := ih.le; simp; omega, fun i h h0 => ?_, fun h => ?_⟩
   ·
    cases i with
    | zero => simpa using hr
    | succ i => simpa using ih.low i (by simpa using h) (by omega)
   ·
    simpa using ih.at_ (by simpa using h)
theorem Pos.unique {l : List R} {key : ByteArray} {k k' : Nat} (h : Pos l key k) (h' : Pos l key k') : k = k' := by
 rcases Nat.lt_trichotomy k k' with c | c | c
 ·
  have a := h.at_ (by have := h'.le; omega)
  rw [h'.low k _ c] at a; cases a
 ·
  exact c
 ·
  have a := h'.at_ (by have := h.le; omega)
  rw [h.low k' _ c] at a; cases a
theorem Pos.eq {l : List R} {key : ByteArray} {k : Nat} (h : Pos l key k) : k = posN l key := h.unique (posN_pos l key)

/-- the key is there -/
def hasB (l : List R) (key : ByteArray) : Bool := l[posN l key]?.any fun r => r.1.toList == key.toList
theorem hasB_end {l : List R} {key : ByteArray} {k : Nat} (h : Pos l key k) (hk : l.length ≤ k) : hasB l key = false := by
 unfold hasB; rw [← h.eq, List.getElem?_eq_none hk]; rfl
theorem hasB_at {l : List R} {key : ByteArray} {k : Nat} (h : Pos l key k) (hk : k < l.length) : hasB l key = (l[k].1.toList == key.toList) := by
 unfold hasB; rw [← h.eq, List.getElem?_eq_getElem hk]; rfl
theorem hasB_lt {l : List R} {key : ByteArray} (h : hasB l key = true) : posN l key < l.length := by
 rcases Nat.lt_or_ge (posN l key) l.length with c | c
 ·
  exact c
 ·
  rw [hasB_end (posN_pos l key) c] at h; cases h

theorem ret_pos {a b : Nat} {p q : Bool} (h : a = b) (k : p = q) : Ending.returned (.tuple #[.int .i64 (a : Int), .bool p]) = .returned (.tuple #[.int .i64 (b : Int), .bool q]) := by rw [h, k]

set_option maxRecDepth 100000 in
set_option maxHeartbeats 1000000 in
theorem specFind (A : Option Addr) (c : Nat) (l : List R) (key : ByteArray) (w : World) (hc : l.length ≤ 2097152) (hr : Rd w w.heap.size A l) :
  Calls Tryd.prog 57 #[.slice A l.length c, .string key] w fun e w' => e = .returned (.tuple #[.int .i64 (posN l key : Nat), .bool (hasB l key)]) ∧ ∃ n, w' = w.drewN n := by
 go_enter Tryd.func57, Tryd.ntmps57
 go_wp2
 go_loop [6] (fun i => ∃ k : Nat, k ≤ l.length ∧ i = .int .i64 k ∧ (∀ i (h : i < l.length), i < k → lt l[i].1 key = true)) (fun i => l.length - (intOf i).toNat)
 case atStart => exact ⟨0, Nat.zero_le _, rfl, fun i h h0 => absurd h0 (by omega)⟩
 case round =>
  obtain ⟨k, hk, rfl, hall⟩ := hrel
  have HALL := Lib.hid hall
  clear hall
  by_cases hkl : k < l.length
  ·
   obtain ⟨b, o, rfl, hbB, hc1, hc2⟩ := hr.at_ hkl
   cases hlt : Op.bytesLess l[k].1.toList key.toList
   ·
    have hp : Pos l key k := ⟨hk, HALL.out, fun h => hlt⟩
    have HP := Lib.hid hp
    have HB := Lib.hid (hasB_at hp hkl)
    clear hp
    go_wp2
    go_quiet (fail)
    go_wp2
    go_ret2
    exact ⟨ret_pos HP.out.eq HB.out.symm, _, rfl⟩
   ·
    have HL := Lib.hid (show lt l[k].1 key = true from hlt)
    go_wp2
    go_round
    case rel => exact ⟨k + 1, by omega, by go_num, fun i h h0 => by
     by_cases e : i = k
     ·
      subst e; exact HL.out
     ·
      exact HALL.out i h (by omega)⟩
    case measure => simp [intOf]; omega
  ·
   have hp : Pos l key k := ⟨hk, HALL.out, fun h => absurd h hkl⟩
   have HP := Lib.hid hp
   have HB := Lib.hid (hasB_end hp (by omega))
   clear hp
   have hd : decide ((k : Int) < (l.length : Int)) = false := by simp; omega
   have hd2 : decide (k < l.length) = false := by simp; omega
   go_wp2
   go_quiet (fail)
   go_wp2
   go_ret2
   exact ⟨ret_pos HP.out.eq HB.out.symm, _, rfl⟩

theorem asc_lt {l : List R} (ha : AscP l) : ∀ j (hj : j < l.length) i (h : i < j), lt (l[i]'(by omega)).1 l[j].1 = true := by
 intro j
 induction j with
 | zero => intro hj i h; omega
 | succ j ih =>
  intro hj i h
  by_cases e : i = j
  ·
   subst e; exact ha i hj
  ·
   exact lt_trans (ih (by omega) i (by omega)) (ha j hj)

/-- the number under a key -/
noncomputable def getN (l : List R) (key : ByteArray) : Int := if rowsB l && hasB l key then (l[posN l key]?.map (·.2)).getD 0 else 0
noncomputable def getB (l : List R) (key : ByteArray) : Bool := rowsB l && hasB l key
theorem getN_no {l : List R} {key : ByteArray} (h : (rowsB l && hasB l key) = false) : getN l key = 0 := by unfold getN; rw [h]; rfl
theorem getN_yes {l : List R} {key : ByteArray} (h : (rowsB l && hasB l key) = true) (hk : posN l key < l.length) : getN l key = l[posN l key].2 := by
 unfold getN; rw [h, List.getElem?_eq_getElem hk]; rfl
theorem ret_get {a b : Int} {p q : Bool} (h : a = b) (k : p = q) : Ending.returned (.tuple #[.int .i64 a, .bool p]) = .returned (.tuple #[.int .i64 b, .bool q]) := by rw [h, k]

end Go.Proofs.YtjgfbcmgnjgapaaDoor
