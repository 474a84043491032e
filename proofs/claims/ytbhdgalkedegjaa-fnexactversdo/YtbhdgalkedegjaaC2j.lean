/- VersLast, of the model and of the program. -/
import Derived.Test.YtbhdgalkedegjaaC2i
namespace Go.Proofs.Ytbhdgalkedegjaa
open Go.RowKit
set_option linter.unusedVariables false
set_option maxRecDepth 100000

set_option maxHeartbeats 400000 in
theorem specMax (a b : Int) (w : World) : Calls Try.prog 101 #[.int .i64 a, .int .i64 b] w fun e w' => e = .returned (.int .i64 (max a b)) ∧ w = w' := by
  go_enter Try.func101, Try.ntmps101
  go_wp2
  all_goals
    go_ret
    exact ⟨ret_int (by omega), rfl⟩

def lastF (key : ByteArray) (n : Int) (x : V) : Int := if x.k.toList == key.toList then max n (max x.f x.t) else n
/-- the time at which something was done to a key last -/
def lastL (l : List V) (key : ByteArray) : Int := l.foldl (lastF key) 0
noncomputable def versLast (z : Int) (l : List V) (key : ByteArray) : Int := if versB z l then lastL l key else 0
theorem lastL_succ (l : List V) (key : ByteArray) (k : Nat) (hk : k < l.length) : lastL (l.take (k + 1)) key = lastF key (lastL (l.take k) key) l[k] := by
  unfold lastL; rw [List.take_succ_eq_append_getElem hk, List.foldl_append]; rfl

set_option maxHeartbeats 1000000 in
theorem specLast (z : Int) (A : Option Addr) (c : Nat) (l : List V) (key : ByteArray) (w : World) (hl : l.length ≤ 1048576) (hr : RdG w w.heap.size A l) :
    Calls Try.prog 72 #[.agg #[.int .i64 z, .slice A l.length c], .string key] w fun e w' => e = .returned (.int .i64 (lastL l key)) ∧ Below w.heap.size w w' := by
  have hb0 : Below w.heap.size w (w.alloc (.cells #[.int .i64 z, .slice A l.length c] 29)) := below_alloc (Below.refl _ _) _
  have hB0 := blkA w #[.int .i64 z, .slice A l.length c] 29
  go_enter Try.func72, Try.ntmps72
  go_wp2
  go_loopw [5, 6] (fun n i W => ∃ k : Nat, k ≤ l.length ∧ i = .int .i64 k ∧ n = .int .i64 (lastL (l.take k) key) ∧ Blk W w.heap.size 29 #[.int .i64 z, .slice A l.length c] ∧ Below w.heap.size w W) (fun _ i _ => l.length - (intOf i).toNat)
  case atStart => exact ⟨0, Nat.zero_le _, rfl, rfl, hB0, hb0⟩
  case round =>
    obtain ⟨k, hk, rfl, rfl, hB, hb⟩ := hrel
    have c1 : wr.cell? ⟨w.heap.size, 1, none⟩ = some (.slice A l.length c) := by rw [hB.cell]; rfl
    obtain ⟨m, HM⟩ : ∃ m, Hid (lastL (l.take k) key = m) := ⟨_, Lib.hid rfl⟩
    rw [HM.out]
    by_cases hkl : k < l.length
    · obtain ⟨b, o, rfl, hbB, hc0, hc1, hc2, hc3⟩ := (hr.below hb).atV hkl
      have hkI := lenI _ _ hkl
      have HS := Lib.hid (lastL_succ l key k hkl)
      cases he : l[k].k.toList == key.toList
      · have HE := Lib.hid (show lastF key m l[k] = m from by unfold lastF; rw [he]; rfl)
        go_wp2
        go_roundw
        case rel => exact ⟨k + 1, by omega, by go_num, by rw [HS.out, HM.out, HE.out], hB, hb⟩
        case measure => simp [intOf]; omega
      · have HE := Lib.hid (show lastF key m l[k] = max m (max l[k].f l[k].t) from by unfold lastF; rw [he]; rfl)
        go_wp2
        refine wp_region_held_drew (S := (fun W => W.cell? ⟨w.heap.size, 1, none⟩ = some (.slice (some ⟨b, o, none⟩) l.length c) ∧ W.cell? ⟨b, o + k * 4 + 2, none⟩ = some (.int .i64 l[k].f) ∧ W.cell? ⟨b, o + k * 4 + 3, none⟩ = some (.int .i64 l[k].t))) (by kernel_rfl) ?_ (fun hHeld => ?_)
        focus ((try dsimp only); (exact ⟨c1, hc2, hc3⟩))
        (refine tkW (i := 0) (v := ?_) (by (simp only [ga, gb, gc]; rfl)) (by kernel_rfl) (by (intro _ _ _ h; exact h)) (by rfl) ?_ (by assumption) ?_; rotate_left; (focus ((intro w hSw; (try dsimp only at hSw); go_simp) <;> with_reducible rfl)); (try simp only [Act.put, pa, pb, pc]))
        (refine tkW (i := 1) (v := ?_) (by (simp only [ga, gb, gc]; rfl)) (by kernel_rfl) (by (intro _ _ _ h; exact h)) (by rfl) ?_ (by assumption) ?_; rotate_left; (focus ((intro w hSw; (try dsimp only at hSw); go_simp) <;> with_reducible rfl)); (try simp only [Act.put, pa, pb, pc]))
        (refine tkW (i := 2) (v := ?_) (by (simp only [ga, gb, gc]; rfl)) (by kernel_rfl) (by (intro _ _ _ h; exact h)) (by rfl) ?_ (by assumption) ?_; rotate_left; (focus ((intro w hSw; (try dsimp only at hSw); go_simp) <;> with_reducible rfl)); (try simp only [Act.put, pa, pb, pc]))
        (refine tkW (i := 3) (v := ?_) (by (simp only [ga, gb, gc]; rfl)) (by kernel_rfl) (by (intro _ _ _ h; exact h)) (by rfl) ?_ (by assumption) ?_; rotate_left; (focus ((intro w hSw; (try dsimp only at hSw); go_simp) <;> with_reducible rfl)); (try simp only [Act.put, pa, pb, pc]))
        (refine tkW (i := 4) (v := ?_) (by (simp only [ga, gb, gc]; rfl)) (by kernel_rfl) (by (intro _ _ _ h; exact h)) (by rfl) ?_ (by assumption) ?_; rotate_left; (focus ((intro w hSw; (try dsimp only at hSw); go_simp) <;> with_reducible rfl)); (try simp only [Act.put, pa, pb, pc]))
        (refine tkW (i := 5) (v := ?_) (by (simp only [ga, gb, gc]; rfl)) (by kernel_rfl) (by (intro _ _ _ h; exact h)) (by rfl) ?_ (by assumption) ?_; rotate_left; (focus ((intro w hSw; (try dsimp only at hSw); go_simp) <;> with_reducible rfl)); (try simp only [Act.put, pa, pb, pc]))
        (refine tkW (i := 6) (v := ?_) (by (simp only [ga, gb, gc]; rfl)) (by kernel_rfl) (by (intro _ _ _ h; exact h)) (by rfl) ?_ (by assumption) ?_; rotate_left; (focus ((intro w hSw; (try dsimp only at hSw); go_simp) <;> with_reducible rfl)); (try simp only [Act.put, pa, pb, pc]))
        (refine tkW (i := 7) (v := ?_) (by (simp only [ga, gb, gc]; rfl)) (by kernel_rfl) (by (intro _ _ _ h; exact h)) (by rfl) ?_ (by assumption) ?_; rotate_left; (focus ((intro w hSw; (try dsimp only at hSw); go_simp) <;> with_reducible rfl)); (try simp only [Act.put, pa, pb, pc]))
        (refine tkW (i := 8) (v := ?_) (by (simp only [ga, gb, gc]; rfl)) (by kernel_rfl) (by (intro _ _ _ h; exact h)) (by rfl) ?_ (by assumption) ?_; rotate_left; (focus ((intro w hSw; (try dsimp only at hSw); go_simp) <;> with_reducible rfl)); (try simp only [Act.put, pa, pb, pc]))
        (refine tkW (i := 9) (v := ?_) (by (simp only [ga, gb, gc]; rfl)) (by kernel_rfl) (by (intro _ _ _ h; exact h)) (by rfl) ?_ (by assumption) ?_; rotate_left; (focus ((intro w hSw; (try dsimp only at hSw); go_simp) <;> with_reducible rfl)); (try simp only [Act.put, pa, pb, pc]))
        (refine tkW (i := 10) (v := ?_) (by (simp only [ga, gb, gc]; rfl)) (by kernel_rfl) (by (intro _ _ _ h; exact h)) (by rfl) ?_ (by assumption) ?_; rotate_left; (focus ((intro w hSw; (try dsimp only at hSw); go_simp) <;> with_reducible rfl)); (try simp only [Act.put, pa, pb, pc]))
        (refine tkW (i := 11) (v := ?_) (by (simp only [ga, gb, gc]; rfl)) (by kernel_rfl) (by (intro _ _ _ h; exact h)) (by rfl) ?_ (by assumption) ?_; rotate_left; (focus ((intro w hSw; (try dsimp only at hSw); go_simp) <;> with_reducible rfl)); (try simp only [Act.put, pa, pb, pc]))
        (refine tkW (i := 12) (v := ?_) (by (simp only [ga, gb, gc]; rfl)) (by kernel_rfl) (by (intro _ _ _ h; exact h)) (by rfl) ?_ (by assumption) ?_; rotate_left; (focus ((intro w hSw; (try dsimp only at hSw); go_simp) <;> with_reducible rfl)); (try simp only [Act.put, pa, pb, pc]))
        (refine wpAnyH_ready (rs := [13]) (by kernel_rfl) (by simp) ?_; refine AllReadyH.cons (by (simp only [ga, gb, gc]; rfl)) (fun K hK => ?_) AllReadyH.nil; go_simp; (go_at_call 101; refine (specMax _ _ _).mono ?_; rintro e w' ⟨rfl, rfl⟩); go_wp2_with fail; refine hK.out _ _ ?_ (fun hHeld => ?_); (focus ((try dsimp only); (exact ⟨c1, hc2, hc3⟩))); clear hK K; (try simp only [Act.put, pa, pb, pc]))
        (refine wpAnyH_ready (rs := [14]) (by kernel_rfl) (by simp) ?_; refine AllReadyH.cons (by (simp only [ga, gb, gc]; rfl)) (fun K hK => ?_) AllReadyH.nil; go_simp; (go_at_call 101; refine (specMax _ _ _).mono ?_; rintro e w' ⟨rfl, rfl⟩); go_wp2_with fail; refine hK.out _ _ ?_ (fun hHeld => ?_); (focus ((try dsimp only); (exact ⟨c1, hc2, hc3⟩))); clear hK K; (try simp only [Act.put, pa, pb, pc]))
        (refine tkW (i := 15) (v := ?_) (by (simp only [ga, gb, gc]; rfl)) (by kernel_rfl) (by (intro _ _ _ h; exact h)) (by rfl) ?_ (by assumption) ?_; rotate_left; (focus ((intro w hSw; (try dsimp only at hSw); go_simp) <;> with_reducible rfl)); (try simp only [Act.put, pa, pb, pc]))
        refine wpAnyH_done (by kernel_rfl) ?_ _
        go_wp2
        go_roundw
        case rel => exact ⟨k + 1, by omega, by go_num, by rw [HS.out, HM.out, HE.out], hB, hb.drew⟩
        case measure => simp [intOf]; omega
    · have hkI : decide ((k : Int) < (l.length : Int)) = false := decide_eq_false (by omega)
      have HN := Lib.hid (show k = l.length from by omega)
      go_wp2
      go_ret
      refine ⟨ret_int ?_, hb⟩
      rw [← HM.out, HN.out, List.take_length]

set_option maxHeartbeats 1000000 in
theorem specVersLast (z : Int) (A : Option Addr) (c : Nat) (l : List V) (key : ByteArray) (w : World) (hfit : FitVs l) (hlc : l.length ≤ c) (hcm : c ≤ maxLen) (hl : l.length ≤ 1048576) (hr : RdG w w.heap.size A l) :
    Calls Try.prog 31 #[.agg #[.int .i64 z, .slice A l.length c], .string key] w fun e w' => e = .returned (.int .i64 (versLast z l key)) ∧ Below w.heap.size w w' := by
  have hb0 : Below w.heap.size w (w.alloc (.cells #[.int .i64 z, .slice A l.length c] 29)) := below_alloc (Below.refl _ _) _
  have hB0 := blkA w #[.int .i64 z, .slice A l.length c] 29
  cases hv : versB z l
  · have HE := Lib.hid (show versLast z l key = 0 from by unfold versLast; rw [hv]; rfl)
    go_enter Try.func31, Try.ntmps31
    go_wp2_with fail
    refine (specVersOk z A c l _ hfit hlc hcm (hr.next hb0)).mono ?_
    rintro e w1 ⟨rfl, hb1⟩
    rw [hv]
    go_wp2
    go_ret
    exact ⟨ret_int HE.out.symm, below_next hb0 hb1⟩
  · have HE := Lib.hid (show versLast z l key = lastL l key from by unfold versLast; rw [hv]; rfl)
    go_enter Try.func31, Try.ntmps31
    go_wp2_with fail
    refine (specVersOk z A c l _ hfit hlc hcm (hr.next hb0)).mono ?_
    rintro e w1 ⟨rfl, hb1⟩
    rw [hv]
    have hw1 := below_next hb0 hb1
    have c0 : w1.cell? ⟨w.heap.size, 0, none⟩ = some (.int .i64 z) := by rw [(hB0.next hb1).cell]; rfl
    have c1 : w1.cell? ⟨w.heap.size, 1, none⟩ = some (.slice A l.length c) := by rw [(hB0.next hb1).cell]; rfl
    go_wp2_with fail
    refine (specLast z A c l key w1 hl (hr.next hw1)).mono ?_
    rintro e w2 ⟨rfl, hb2⟩
    go_wp2
    go_ret
    exact ⟨ret_int HE.out.symm, below_next hw1 hb2⟩

/-! what a chain says last is what was done last -/
theorem foldl_key (key : ByteArray) : (l : List V) → (n : Int) → (∀ x ∈ l, x.k ≠ key) → l.foldl (lastF key) n = n
  | [], n, _ => rfl
  | x :: l, n, h => by
    rw [List.foldl_cons, foldl_key key l _ fun y hy => h y (by simp [hy])]
    unfold lastF; rw [str_ne (h x (by simp))]; rfl
theorem foldl_le (key : ByteArray) (b : Int) : (l : List V) → (n : Int) → n ≤ b → (∀ x ∈ l, x.f ≤ b ∧ x.t ≤ b) → l.foldl (lastF key) n ≤ b
  | [], n, hn, _ => hn
  | x :: l, n, hn, h => by
    rw [List.foldl_cons]
    refine foldl_le key b l _ ?_ fun y hy => h y (by simp [hy])
    have := h x (by simp)
    unfold lastF
    split <;> omega
theorem chain_last {key : ByteArray} {z : Int} {ls : List Lk} (hc : Chain (ls.map Lk.v)) (hk : ∀ x ∈ ls.map Lk.v, x.k = key) (hv : ∀ x ∈ ls.map Lk.v, verB z x = true) : (ls.map Lk.v).foldl (lastF key) 0 = lastI ls := by
  rcases nil_or_snoc ls with rfl | ⟨init, y, rfl⟩
  · rfl
  · have e : lastI (init ++ [y]) = if y.v.f ≤ y.v.t then y.v.t else y.v.f := by unfold lastI; simp
    rw [e, List.map_append, List.foldl_append]
    have hy := hv y.v (by simp)
    have hyf := verB_from hy
    have hm : (init.map Lk.v).foldl (lastF key) 0 ≤ y.v.f := by
      refine foldl_le key _ _ _ (by omega) fun x hx => ?_
      unfold Chain at hc
      rw [List.map_append, List.pairwise_append] at hc
      have h1 := hc.2.2 x hx y.v (by simp)
      have h2 := verB_to (hv x (by rw [List.map_append]; exact List.mem_append_left _ hx))
      omega
    simp only [List.map_cons, List.map_nil, List.foldl_cons, List.foldl_nil]
    generalize (init.map Lk.v).foldl (lastF key) 0 = m at hm
    unfold lastF
    rw [hk y.v (by simp)]
    simp only [beq_self_eq_true, if_true]
    split <;> omega
theorem cons_last {chs L R : List Ch} {c : Ch} {l : List V} {key : ByteArray} {z : Int} (hC : Cons chs l) (ho : Ord2 l) (hv : ∀ x ∈ l, verB z x = true) (hck : c.k = key) (hA : Asc (L ++ c :: R)) (hor : chs = L ++ c :: R ∨ (chs = L ++ R ∧ c.ls = [])) :
    lastL l key = lastI c.ls := by
  unfold Asc at hA
  rw [List.pairwise_append, List.pairwise_cons] at hA
  have hne : ∀ d, d ∈ L ∨ d ∈ R → ∀ x ∈ d.vs, x.k ≠ key := by
    intro d hd x hx e
    have hdm : d ∈ chs := by rcases hor with rfl | ⟨rfl, _⟩ <;> rcases hd with h | h <;> simp [h]
    have hxk := (hC.each d hdm).2 x hx
    rw [e] at hxk
    rcases hd with h | h
    · have := hA.2.2 d h c (by simp)
      rw [← hxk, hck, lt_irrefl] at this; cases this
    · have := hA.2.1.1 d h
      rw [← hxk, hck, lt_irrefl] at this; cases this
  have hL : ∀ x ∈ L.flatMap Ch.vs, x.k ≠ key := fun x hx => by obtain ⟨d, hd, hx⟩ := List.mem_flatMap.1 hx; exact hne d (.inl hd) x hx
  have hR : ∀ x ∈ R.flatMap Ch.vs, x.k ≠ key := fun x hx => by obtain ⟨d, hd, hx⟩ := List.mem_flatMap.1 hx; exact hne d (.inr hd) x hx
  unfold lastL
  rw [← hC.flat]
  rcases hor with rfl | ⟨rfl, he⟩
  · rw [List.flatMap_append, List.flatMap_cons, List.foldl_append, List.foldl_append, foldl_key key _ _ hL, foldl_key key _ _ hR]
    refine chain_last (z := z) (hC.chain ho (by simp)) (fun x hx => by rw [← hck]; exact (hC.each c (by simp)).2 x hx) fun x hx => hv x ?_
    rw [← hC.flat]
    exact List.mem_flatMap.2 ⟨c, by simp, hx⟩
  · rw [List.flatMap_append, List.foldl_append, foldl_key key _ _ hL, foldl_key key _ _ hR, he]
    rfl

set_option maxHeartbeats 1000000 in
theorem implVersLast (z : Int) (A : Option Addr) (c : Nat) (l : List V) (key : ByteArray) (w : World) (hfit : FitVs l) (hlc : l.length ≤ c) (hcm : c ≤ maxLen) (hl : l.length ≤ 1048576) (hr : RdG w w.heap.size A l) :
    Calls Try.prog 32 #[.agg #[.int .i64 z, .slice A l.length c], .string key] w fun e w' => e = .returned (.int .i64 (versLast z l key)) ∧ Below w.heap.size w w' := by
  have hb0 : Below w.heap.size w (w.alloc (.cells #[.int .i64 z, .slice A l.length c] 29)) := below_alloc (Below.refl _ _) _
  have hB0 := blkA w #[.int .i64 z, .slice A l.length c] 29
  cases hv : versB z l
  · have HE := Lib.hid (show versLast z l key = 0 from by unfold versLast; rw [hv]; rfl)
    go_enter Try.func32, Try.ntmps32
    go_wp2_with fail
    refine (implVersOk z A c l _ hfit hlc hcm (hr.next hb0)).mono ?_
    rintro e w1 ⟨rfl, hb1⟩
    rw [hv]
    go_wp2
    go_ret
    exact ⟨ret_int HE.out.symm, below_next hb0 hb1⟩
  · have HE := Lib.hid (show versLast z l key = lastL l key from by unfold versLast; rw [hv]; rfl)
    have hP := versB_iff.1 hv
    have HO := Lib.hid hP.ord2
    have HV := Lib.hid (show ∀ x ∈ l, verB z x = true from fun x hx => by obtain ⟨i, hi, rfl⟩ := List.getElem_of_mem hx; exact hP.each i hi)
    clear hP
    go_enter Try.func32, Try.ntmps32
    go_wp2_with fail
    refine (implVersOk z A c l _ hfit hlc hcm (hr.next hb0)).mono ?_
    rintro e w1 ⟨rfl, hb1⟩
    rw [hv]
    have hw1 := below_next hb0 hb1
    have c0 : w1.cell? ⟨w.heap.size, 0, none⟩ = some (.int .i64 z) := by rw [(hB0.next hb1).cell]; rfl
    have c1 : w1.cell? ⟨w.heap.size, 1, none⟩ = some (.slice A l.length c) := by rw [(hB0.next hb1).cell]; rfl
    go_wp2_with fail
    refine (storageOf_c z A c l w1 hl HO.out.keyLe (hr.next hw1)).mono ?_
    rintro e w3 ⟨s, chs, rfl, hS, hC, hb3⟩
    have hw3 := below_next hw1 hb3
    have hlo := hS.lo
    have hCl := hC.length
    go_wp2_with fail
    refine (chainOf_c w1.heap.size s z chs key w3 hS hC.asc (by omega)).mono ?_
    rintro e w4 ⟨L, d, R, rfl, hck, hS4, hA4, hch4, hor⟩
    have HL := Lib.hid (cons_last (z := z) hC HO.out HV.out hck hA4 hor)
    have hw4 : Below w.heap.size w w4 := hw3.trans (hch4.toBelow (by have := hw3.size; omega) (fun k hk => by have := hw1.size; omega))
    go_wp2_with fail
    refine (last_c d w4 (hS4.cok d (by simp))).mono ?_
    rintro e w5 ⟨rfl, hb5⟩
    go_wp2
    go_ret
    exact ⟨ret_int (by rw [HE.out, HL.out]), below_next hw4 hb5⟩

theorem implVersLastO {v : Value} {z : Int} {l : List V} {base : Nat} {w : World} (key : ByteArray) (h : OwnG w base v l) (hf : FitVs l) (hl : l.length ≤ 1048576) :
    Calls Try.prog 32 #[.agg #[.int .i64 z, v], .string key] w fun e w' => e = .returned (.int .i64 (versLast z l key)) ∧ Below w.heap.size w w' := by
  obtain ⟨A, c, rfl, h1, h2, hr⟩ := h.read
  exact implVersLast z A c l key w hf h1 h2 hl hr
theorem specVersLastO {v : Value} {z : Int} {l : List V} {base : Nat} {w : World} (key : ByteArray) (h : OwnG w base v l) (hf : FitVs l) (hl : l.length ≤ 1048576) :
    Calls Try.prog 31 #[.agg #[.int .i64 z, v], .string key] w fun e w' => e = .returned (.int .i64 (versLast z l key)) ∧ Below w.heap.size w w' := by
  obtain ⟨A, c, rfl, h1, h2, hr⟩ := h.read
  exact specVersLast z A c l key w hf h1 h2 hl hr

end Go.Proofs.Ytbhdgalkedegjaa
