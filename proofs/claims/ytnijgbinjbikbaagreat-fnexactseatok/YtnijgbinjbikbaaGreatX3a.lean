/- The program's buffer of writes: a map by keys; one write more; the writes in order. -/
import Derived.Test.YtnijgbinjbikbaaGreatX3m
import Derived.Test.YtnijgbinjbikbaaGreatIt
import Derived.Test.YtnijgbinjbikbaaGreatB3
import Derived.Maps.Views
import Derived.Maps.OwnOps
import Derived.Maps.OwnIn
namespace Go.Proofs.YtnijgbinjbikbaaGreat
open Go.RowKit Go.Maps
set_option linter.unusedVariables false
set_option maxRecDepth 100000

/-- how an element of the map reads: as itself -/
def elR (v : Value) : Option (DataW Value × List MemPlace) := some (.held v, [])
/-- a map of writes: the list's, each under its key -/
def Buf (w : World) (b n : Nat) (xs : List X) : Prop :=
 ∃ D : DataW Value, w.ownsMap Tryz.prog 9 elR b n D ∧ (∀ k, Maps.has D (.string k) = true ↔ ∃ x ∈ xs, kl x = k) ∧ ∀ x ∈ xs, ∀ z, D.atKey (.string (kl x)) z = .held (agX x)
theorem Buf.lt {w : World} {b n : Nat} {xs : List X} (h : Buf w b n xs) : b < w.heap.size := by obtain ⟨D, h, _⟩ := h; exact h.lt
theorem Buf.kept {w w' : World} {b n : Nat} {xs : List X} {row : Option Nat} (h : Buf w b n xs) (hg : w.grownBy w' row) (hne : some b ≠ row) : Buf w' b n xs := by
 obtain ⟨D, h1, h2⟩ := h; exact ⟨D, h1.kept hg hne, h2⟩
theorem Buf.same {w w' : World} {b n : Nat} {xs : List X} (h : Buf w b n xs) (hb : w'.heap[b]? = w.heap[b]?) : Buf w' b n xs := by
 obtain ⟨D, ⟨es, clock, h0, F, hs, hD⟩, h2⟩ := h
 exact ⟨D, ⟨es, clock, hb.trans h0, F, hs, hD⟩, h2⟩
theorem Buf.next {w w' : World} {b n : Nat} {xs : List X} (h : Buf w b n xs) (hb : Below w.heap.size w w') : Buf w' b n xs := h.same (hb.block b h.lt)
theorem Buf.made (w : World) : Buf (w.alloc (.map #[] 0)) w.heap.size 0 [] :=
 ⟨_, World.ownsMap_made w _ _ _, fun k => by simp [Maps.has], fun x hx => by simp at hx⟩
theorem isMap_own {w : World} {b n : Nat} {D : DataW Value} (h : w.ownsMap Tryz.prog 9 elR b n D) : IsMap D := by
 obtain ⟨es, e, _⟩ := h.keysOf; exact ⟨es, e⟩
theorem keyS (s : ByteArray) (hs : s.size ≤ maxLen) : keyOf Tryz.prog 9 (.string s) = some (.string s.data.toList) := Go.WideMaps.keyOf_string_mk Tryz.underlying9 hs
theorem Buf.store {w : World} {b n : Nat} {xs xs' : List X} (h : Buf w b n xs) (x : X) (hx : x.k.size ≤ maxLen) (hn : n < maxLen) (hxs : ∀ y, y ∈ xs' ↔ y = x ∨ (y ∈ xs ∧ y.k ≠ x.k)) :
  ∃ w', (Instr.mapUpdate 142 (.map (some b)) (.string x.k) (agX x)).run Tryz.prog w = .ok () w' ∧ Buf w' b (n + 1) xs' ∧ w.grownBy w' (some b) := by
 obtain ⟨D, h1, h2, h3⟩ := h
 obtain ⟨w', hr, h4, h5⟩ := h1.update (string_keyed Tryz.underlying9) Tryz.underlying142 hn (keyS x.k hx) (show elR (agX x) = some (.held (agX x), []) from rfl)
 have hD := isMap_own h1
 have hk : WideAt.IsKeyLit (.string x.k.data.toList) := trivial
 refine ⟨w', hr, ⟨_, h4, fun k => ?_, fun y hy z => ?_⟩, h5⟩
 ·
  by_cases hkx : k = kl x
  ·
   subst hkx
   rw [show (Lit.string (kl x)) = .string x.k.data.toList from rfl, has_put_same hD hk]
   exact ⟨fun _ => ⟨x, (hxs x).2 (.inl rfl), rfl⟩, fun _ => rfl⟩
  ·
   rw [has_put_other (fun e => hkx (by injection e)), h2 k]
   constructor
   ·
    rintro ⟨y, hy, rfl⟩
    exact ⟨y, (hxs y).2 (.inr ⟨hy, fun e => hkx (by unfold kl; rw [e])⟩), rfl⟩
   ·
    rintro ⟨y, hy, rfl⟩
    rcases (hxs y).1 hy with rfl | ⟨hy, _⟩
    ·
     exact absurd rfl hkx
    ·
     exact ⟨y, hy, rfl⟩
 ·
  rcases (hxs y).1 hy with rfl | ⟨hy, hne⟩
  ·
   exact atKey_put_same hD hk _ _
  ·
   rw [atKey_put_other (fun e => hne (kl_inj (by injection e)))]
   exact h3 y hy z
theorem Buf.look {w : World} {b n : Nat} {xs : List X} (h : Buf w b n xs) {x : X} (hm : x ∈ xs) (hx : x.k.size ≤ maxLen) :
  (Instr.lookup 142 (.map (some b)) (.string x.k) false).run Tryz.prog w = .ok (agX x) w := by
 obtain ⟨D, h1, h2, h3⟩ := h
 obtain ⟨v, ps, hr, hv⟩ := h1.lookup (string_keyed Tryz.underlying9) Tryz.underlying142 (Tryz.zeroValue98 w) (show elR _ = some (.held _, []) from rfl) (keyS x.k hx)
 rw [show (Lit.string x.k.data.toList) = .string (kl x) from rfl, h3 x hm] at hv
 unfold elR at hv
 injection hv with hv
 injection hv with hv _
 injection hv with hv
 rw [hr, hv]
/-- the keys of a map of ordered writes -/
theorem Buf.keys {w : World} {b n : Nat} {xs : List X} (ha : AscW xs) {D : DataW Value} (h1 : w.ownsMap Tryz.prog 9 elR b n D) (h2 : ∀ k, Maps.has D (.string k) = true ↔ ∃ x ∈ xs, kl x = k) : (xs.map kl).Perm (strKeys D) :=
 Collected.perm (left := fun _ => false) ⟨asc_nodup ha, fun k => by
  rw [h2 k]; simp [List.mem_map]⟩ h1 (string_keyed Tryz.underlying9) Tryz.underlying9 (fun _ => rfl)
theorem size_keys {D : DataW Value} (h : IsMap D) : Maps.size D = (strKeys D).length := by
 obtain ⟨es, rfl⟩ := h; rw [size_eq]; simp [strKeys]

theorem below_of_grown {w w' : World} {g : Nat} (hg : w.grownBy w' (some g)) : Chg (fun k => k = g) w w' := ⟨hg.os, hg.tape, hg.output, hg.size, fun k hk hn => hg.block k hk (fun e => hn (by injection e))⟩

/-- one write more -/
def RetPut (w : World) (b n : Nat) (xs' : List X) (e : Ending) (w' : World) : Prop := (∃ v, e = .returned v) ∧ Buf w' b (n + 1) xs' ∧ Chg (fun k => k = b) w w'
set_option maxHeartbeats 1000000 in
theorem put_c (b n : Nat) (xs xs' : List X) (x : X) (w : World) (h : Buf w b n xs) (hx : x.k.size ≤ maxLen) (hn : n < maxLen) (hxs : ∀ y, y ∈ xs' ↔ y = x ∨ (y ∈ xs ∧ y.k ≠ x.k)) :
  Calls Tryz.prog 110 #[.map (some b), .agg #[.string x.k, .int .i64 x.n, .bool x.g]] w (RetPut w b n xs') := by
 have hlt := h.lt
 have hB := h.next (below_alloc (Below.refl _ w) (.cells #[.string x.k, .int .i64 x.n, .bool x.g] 98))
 obtain ⟨w', hrun, h1, h2⟩ := hB.store x hx hn hxs
 unfold agX at hrun
 go_enter Tryz.func110, Tryz.ntmps110
 go_wp2
 go_end0
 exact ⟨⟨_, rfl⟩, h1, (Chg.of_below (below_alloc (Below.refl _ w) _)).trans (below_of_grown h2) (fun k _ hk => hk)⟩

theorem asc_take {ws : List X} (h : AscW ws) {k : Nat} (hk : k < ws.length) (y : X) : y ∈ ws.take (k + 1) ↔ y = ws[k] ∨ (y ∈ ws.take k ∧ y.k ≠ ws[k].k) := by
 rw [List.take_succ_eq_append_getElem hk, List.mem_append, List.mem_singleton]
 constructor
 ·
  rintro (hy | hy)
  ·
   refine .inr ⟨hy, fun e => ?_⟩
   obtain ⟨i, hi, rfl⟩ := List.getElem_of_mem hy
   rw [List.length_take] at hi
   rw [List.getElem_take] at e
   have := List.pairwise_iff_getElem.1 h i k (by omega) hk (by omega)
   rw [e, lt_irrefl] at this; cases this
  ·
   exact .inl hy
 ·
  rintro (hy | ⟨hy, _⟩)
  ·
   exact .inr hy
  ·
   exact .inl hy
/-- the buffer of a list of writes -/
def RetBuf (w : World) (ws : List X) (e : Ending) (w' : World) : Prop := ∃ b, e = .returned (.map (some b)) ∧ w.heap.size ≤ b ∧ Buf w' b ws.length ws ∧ Below w.heap.size w w'
set_option maxHeartbeats 2000000 in
theorem bufferOf_c (B : Option Addr) (d : Nat) (ws : List X) (w : World) (ha : AscW ws) (hfx : FitXs ws) (hl : ws.length ≤ 1048576) (hr : RdG w w.heap.size B ws) :
  Calls Tryz.prog 88 #[.slice B ws.length d] w (RetBuf w ws) := by
 have hmm := @run_makeMap Tryz.prog
 have hb0 : Below w.heap.size w (w.alloc (.map #[] 0)) := below_alloc (Below.refl _ _) _
 have hM := Buf.made w
 go_enter Tryz.func88, Tryz.ntmps88
 go_wp2
 go_loopw [9] (fun i wr => ∃ k : Nat, k ≤ ws.length ∧ i = .int .i64 k ∧ Buf wr w.heap.size k (ws.take k) ∧ Below w.heap.size w wr) (fun i _ => ws.length - (intOf i).toNat)
 case atStart => exact ⟨0, Nat.zero_le _, rfl, hM, hb0⟩
 case round =>
  obtain ⟨k, hk, rfl, hB, hb⟩ := hrel
  by_cases hkl : k < ws.length
  ·
   obtain ⟨b, o, rfl, hbB, hc0, hc1, hc2⟩ := (hr.below hb).atX hkl
   have hkI := lenI _ _ hkl
   have hks := (hfx ws[k] (List.getElem_mem hkl)).1
   have hBa := hB.next (below_alloc (Below.refl _ wr) (.cells #[.string ws[k].k, .int .i64 ws[k].n, .bool ws[k].g] 98))
   have hlt := hB.lt
   have hTk := asc_take ha hkl
   have HT := Lib.hid hTk
   clear hTk
   go_wp2_with (go_at_call 110; refine (put_c w.heap.size k (ws.take k) (ws.take (k + 1)) ws[k] _ hBa hks (by unfold maxLen; omega) HT.out).mono ?_; rintro e w2 ⟨⟨_, rfl⟩, hB2, hc2'⟩)
   go_roundw
   case rel => exact ⟨k + 1, by omega, by go_num, hB2, (below_alloc hb _).trans (hc2'.toBelow (by simp; omega) (fun k hk => by omega))⟩
   case measure => simp [intOf]; omega
  ·
   have hi1 : decide ((k : Int) < (ws.length : Int)) = false := decide_eq_false (by omega)
   obtain rfl : k = ws.length := by omega
   go_wp2
   go_ret
   rw [List.take_of_length_le (Nat.le_refl _)] at hB
   exact ⟨w.heap.size, rfl, Nat.le_refl _, hB, hb⟩

theorem mapsKeys_c (b : Nat) (w : World) : Calls Tryz.prog 123 #[.map (some b)] w fun e w' => e = .returned (.func (.func 126) #[] #[.pointer (some ⟨w.heap.size, 0, none⟩)]) ∧ w' = w.alloc (.cells #[.map (some b)] 142) :=
 (callsIn_wide (n := 5)).1 (Tryz.mapsKeys (some b) w)
/-- the keys of a map, in order -/
def RetKeys (w : World) (xs : List X) (e : Ending) (w' : World) : Prop := ∃ A c, e = .returned (.slice A xs.length c) ∧ (∀ k (h : k < xs.length), ∃ g, A = some ⟨g, 0, none⟩ ∧ g < w'.heap.size ∧ w'.cell? ⟨g, k, none⟩ = some (.string xs[k].k)) ∧ Below w.heap.size w w'
theorem sortedKeys_c (b n : Nat) (xs : List X) (w : World) (ha : AscW xs) (hl : xs.length ≤ 1048576) (h : Buf w b n xs) :
  Calls Tryz.prog 122 #[.func (.func 126) #[] #[.pointer (some ⟨w.heap.size, 0, none⟩)]] (w.alloc (.cells #[.map (some b)] 142)) (RetKeys (w.alloc (.cells #[.map (some b)] 142)) xs) := by
 obtain ⟨D, hD1, hD2, hD3⟩ := h
 have hperm := Buf.keys ha hD1 hD2
 have hsz : Maps.size D = xs.length := by rw [size_keys (isMap_own hD1), ← hperm.length_eq, List.length_map]
 refine ((callsIn_wide (n := 5)).1 (Tryz.sortedKeys b n D elR w hD1 (by rw [hsz]; unfold maxLen; omega) (by rw [hsz]; omega))).mono ?_
 rintro e w1 ⟨v, ss, rfl, hS, hrow, hnil, hb1⟩
 have hss : ss.mergeSort (fun x y => decide (x ≤ y)) = xs.map kl := by
  rw [← asc_sorted ha]; exact mergeSort_of_perm (hS.trans hperm.symm)
 have hsl : ss.length = xs.length := by rw [(hS.trans hperm.symm).length_eq, List.length_map]
 rw [hss, hsl] at hrow
 rcases hrow.2 with ⟨rfl, h0⟩ | ⟨g, cap, cur, rfl, hbase, hg, _⟩
 ·
  exact ⟨none, 0, by rw [h0], fun k hk => absurd hk (by omega), hb1⟩
 ·
  refine ⟨_, cap, rfl, fun k hk => ⟨g, rfl, (Array.getElem?_eq_some_iff.1 hg).1, ?_⟩, hb1⟩
  have := hrow.cells (g := g) rfl k (encStr (kl xs[k])) (by simp [hk])
  rw [show (⟨g, 0, none⟩ : Addr).add k = ⟨g, k, none⟩ from by unfold Addr.add; split <;> simp_all] at this
  rw [this]
  simp [encStr, kl]

set_option maxHeartbeats 2000000 in
/-- its writes in order -/
theorem list_c (b n : Nat) (xs : List X) (w : World) (ha : AscW xs) (hfx : FitXs xs) (hl : xs.length ≤ 1048576) (h : Buf w b n xs) :
  Calls Tryz.prog 119 #[.map (some b)] w (RetG w xs) := by
 have hb0 : Below w.heap.size w (w.alloc (.cells #[.map (some b)] 142)) := below_alloc (Below.refl _ _) _
 go_enter Tryz.func119, Tryz.ntmps119
 go_wp2_with (first
   | (go_at_call 123; refine (mapsKeys_c b _).mono ?_; rintro e w' ⟨rfl, rfl⟩)
   | (go_at_call 122; refine (sortedKeys_c b n xs w ha hl h).mono ?_; rintro e w1 ⟨A, c, rfl, hA, hb1⟩))
 have hw1 := below_next hb0 hb1
 have hB1 := h.next hw1
 go_loopw [3, 10] (fun v i wr => ∃ k : Nat, k ≤ xs.length ∧ i = .int .i64 k ∧ OwnG wr w1.heap.size v (xs.take k) ∧ Below w1.heap.size w1 wr) (fun _ i _ => xs.length - (intOf i).toNat)
 case atStart => exact ⟨0, Nat.zero_le _, rfl, OwnG.nil _ _, Below.refl _ _⟩
 case round =>
  obtain ⟨k, hk, rfl, hO, hb⟩ := hrel
  by_cases hkl : k < xs.length
  ·
   obtain ⟨g, rfl, hgl, hc0⟩ := hA k hkl
   have hc1 : wr.cell? ⟨g, k, none⟩ = some (.string xs[k].k) := (hb.cell (p := ⟨g, k, none⟩) hgl).trans hc0
   have hkI := lenI _ _ hkl
   have hlk := (hB1.next hb).look (List.getElem_mem hkl) (hfx xs[k] (List.getElem_mem hkl)).1
   unfold agX at hlk
   have HS := Lib.hid (List.take_succ_eq_append_getElem hkl)
   have hlen : (xs.take k).length = k := by rw [List.length_take]; omega
   have hsz := hb.size
   clear hA hc0
   go_wp2_with (at_builtin; refine wpList_appG (α := X) (wr.alloc (.cells #[.string xs[k].k, .int .i64 xs[k].n, .bool xs[k].g] 98)) rfl _ _ 23 23 98 rfl Tryz.underlying23 Tryz.underlying23 w1.heap.size _ (xs.take k) rfl (hO.alloc _) (some ⟨wr.heap.size, 0, none⟩) 1 _ 1 [xs[k]] rfl rfl (rdOneX wr xs[k] 98) (by simp; omega) (by simp; omega) ?_; intro v' w5 hown' hgrow hloc)
   go_roundw
   case rel => exact ⟨k + 1, by omega, by go_num, by rw [HS.out]; exact hown', (hO.alloc _).below (below_alloc hb _) hgrow (Nat.le_refl _)⟩
   case measure => simp [intOf]; omega
  ·
   have hi1 : decide ((k : Int) < (xs.length : Int)) = false := decide_eq_false (by omega)
   obtain rfl : k = xs.length := by omega
   go_wp2
   go_ret
   rw [List.take_of_length_le (Nat.le_refl _)] at hO
   exact ⟨_, rfl, hO.low hw1.size, below_next hw1 hb⟩

end Go.Proofs.YtnijgbinjbikbaaGreat
