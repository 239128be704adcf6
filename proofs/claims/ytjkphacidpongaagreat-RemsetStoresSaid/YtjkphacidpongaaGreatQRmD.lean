/- Boxes that stay; Check, the program's. -/
import Derived.Test.YtjkphacidpongaaGreatQRmC
namespace Go.Proofs
namespace YtjkphacidpongaaGreat
open Go.RowKit
open Cf (good plC plE chkE)
attribute [local go_sem] Oper.semAt_some

theorem KeptR.of_below {B C : Nat} {W W' : World} (h : Below W.heap.size W W') : KeptR B C W W' := ⟨h.size, fun k _ _ hk => h.block k hk⟩
/-- the boxes of a call hold this -/
def Kp (w : World) (bs : List (Nat × Obj)) (W : World) : Prop := (∀ p, p ∈ bs → W.heap[p.1]? = some p.2) ∧ Below w.heap.size w W
theorem Kp.at {w W : World} {bs : List (Nat × Obj)} (h : Kp w bs W) (b : Nat) (o : Obj) (hm : (b, o) ∈ bs) : W.heap[b]? = some o := h.1 _ hm
theorem Kp.below {w W W' : World} {bs : List (Nat × Obj)} (h : Kp w bs W) (hb : Below W.heap.size W W') : Kp w bs W' := ⟨fun p hp => keep_heap hb (h.1 p hp), below_end h.2 hb⟩
theorem Kp.grown {w W W' : World} {bs : List (Nat × Obj)} {r : Nat} (h : Kp w bs W) (hg : W.grownBy W' (some r)) (hr : w.heap.size ≤ r) (hn : ∀ p, p ∈ bs → p.1 ≠ r) : Kp w bs W' :=
  ⟨fun p hp => (hg.block _ (Array.getElem?_eq_some_iff.1 (h.1 p hp)).1 (fun e => by injection e with e; exact hn p hp e)).trans (h.1 p hp), h.2.grown hg h.2.size (fun q e => by injection e with e; omega)⟩
theorem Kp.minds {ι : Type} (w : World) (bs : ι → List (Nat × Obj)) (P : ι → Prop) (B C : Nat) (hw : w.heap.size ≤ B) (hB : ∀ i p, p ∈ bs i → p.1 < B) : MindsR B C (fun i W => Kp w (bs i) W ∧ P i) := by
  intro i W W' r h1 h2 h hg
  exact ⟨h.1.grown hg (by omega) (fun p hp => by have := hB i p hp; omega), h.2⟩
theorem Kp.set {w W : World} {b : Nat} {x : Value} {t : TypeId} {bs : List (Nat × Obj)} (h : Kp w ((b, .cells #[x] t (0, 0)) :: bs) W) (v : Value) (hb : w.heap.size ≤ b) (hn : ∀ p, p ∈ bs → p.1 ≠ b) : Kp w ((b, .cells #[v] t (0, 0)) :: bs) (W.setCell ⟨b, 0, none⟩ v) := by
  have h0 := h.1 _ List.mem_cons_self
  refine ⟨fun p hp => ?_, h.2.setCell (p := ⟨b, 0, none⟩) hb v⟩
  rcases List.mem_cons.1 hp with rfl | hp
  · exact set_row h0 0 v
  · exact set_far v (hn p hp) (h.1 p (List.mem_cons_of_mem _ hp))
theorem set_two {B : Nat} {W : World} {x0 y0 : Value} {t u : TypeId} (h2 : W.heap[B + 2]? = some (.cells #[x0] t (0, 0))) (h3 : W.heap[B + 3]? = some (.cells #[y0] u (0, 0))) (x y : Value) :
    ((W.setCell ⟨B + 1 + 1, 0, none⟩ x).setCell ⟨B + 1 + 1 + 1, 0, none⟩ y).heap[B + 2]? = some (.cells #[x] t (0, 0)) ∧
    ((W.setCell ⟨B + 1 + 1, 0, none⟩ x).setCell ⟨B + 1 + 1 + 1, 0, none⟩ y).heap[B + 3]? = some (.cells #[y] u (0, 0)) ∧
    ∀ w : World, w.heap.size = B → Below B w W → Below B w ((W.setCell ⟨B + 1 + 1, 0, none⟩ x).setCell ⟨B + 1 + 1 + 1, 0, none⟩ y) := by
  refine ⟨?_, ?_, fun w _ hB => (hB.setCell (p := ⟨B + 1 + 1, 0, none⟩) (show B ≤ B + 1 + 1 by omega) x).setCell (p := ⟨B + 1 + 1 + 1, 0, none⟩) (show B ≤ B + 1 + 1 + 1 by omega) y⟩
  · exact set_far _ (by omega) (set_row h2 0 x)
  · exact set_row (set_far _ (by omega) h3) 0 y
theorem put_cell {W : World} {a : Addr} {v : Value} (l : Nat) (o : Obj) (hne : a.block ≠ l) (h : W.cell? a = some v) : (W.putObj l o).cell? a = some v :=
  (World.cell?_of_block (World.putObj_heap_other hne)).trans h
theorem put_below {w W : World} {n : Nat} (h : Below w.heap.size w W) (hn : w.heap.size ≤ n) (o : Obj) : Below w.heap.size w (W.putObj n o) := h.grown (grownBy_putObj' W n o) h.size (fun q e => by injection e with e; omega)
section
variable (C N S K Q : Int)
theorem chk13_yes (h : good C N S K Q) (w : World) : Calls Tryz.prog 40 #[.agg #[.int .i64 C, .int .i64 N, .int .i64 S, .int .i64 K, .int .i64 Q]] w fun e w' => e = .returned (.int .i64 0) ∧ Below w.heap.size w w' := Cf.chk13_good C N S K Q h w
set_option maxRecDepth 100000 in
set_option maxHeartbeats 1000000 in
theorem check17_bad (A nv : Value) (w : World) (hg : ¬ good C N S K Q) :
    Calls Tryz.prog 12 #[.agg #[.int .i64 C, .int .i64 N, .int .i64 S, .int .i64 K, .int .i64 Q], .agg #[A, nv]] w fun e w' => e = .returned (.tuple #[.int .i64 (-2), .int .i64 7]) ∧ Below w.heap.size w w' := by
  obtain ⟨k0, k1, k2, k3, k4, k5⟩ := four_boxes w (.cells #[.int .i64 C, .int .i64 N, .int .i64 S, .int .i64 K, .int .i64 Q] 23) (.cells #[A, nv] 29) (.cells #[.int .i64 0] 3) (.cells #[.int .i64 0] 34)
  have CK := Lib.hid (Cf.chk13_bad C N S K Q hg)
  obtain ⟨c0, c1, c2, c3, c4⟩ := five_cells k0
  have B := Lib.hid k5
  have K2 := Lib.hid k2
  have K3 := Lib.hid k3
  clear k0 k1 k2 k3 k4 k5 hg
  go_enter Tryz.func12, Tryz.ntmps12
  go_wp2_with (go_at_call 40; refine (CK.out _).mono ?_; rintro e w1 ⟨rfl, hb1⟩; have B1 := Lib.hid (below_end B.out hb1); have P2 := Lib.hid (keep_heap hb1 K2.out); have P3 := Lib.hid (keep_heap hb1 K3.out); obtain ⟨d2, f2⟩ := one_cell P2.out; obtain ⟨d3, f3⟩ := one_cell P3.out; clear hb1)
  obtain ⟨t2, t3, hx⟩ := set_two P2.out P3.out (.int .i64 (-2)) (.int .i64 7)
  have z2 : ((w1.setCell ⟨w.heap.size + 1 + 1, 0, none⟩ (.int .i64 (-2))).setCell ⟨w.heap.size + 1 + 1 + 1, 0, none⟩ (.int .i64 7)).cell? ⟨w.heap.size + 1 + 1, 0, none⟩ = some (.int .i64 (-2)) := (one_cell t2).1
  have z3 : ((w1.setCell ⟨w.heap.size + 1 + 1, 0, none⟩ (.int .i64 (-2))).setCell ⟨w.heap.size + 1 + 1 + 1, 0, none⟩ (.int .i64 7)).cell? ⟨w.heap.size + 1 + 1 + 1, 0, none⟩ = some (.int .i64 7) := (one_cell t3).1
  refine bodyPost_ret (v := .tuple #[.int .i64 (-2), .int .i64 7]) (by simp [results, Tryz.f12, go_sem, z2, z3]) rfl ⟨rfl, hx w rfl B1.out⟩
set_option maxRecDepth 100000 in
set_option maxHeartbeats 1000000 in
theorem check17_len (A nv : Value) (n : Nat) (U : Nat → Value) (T : Nat → List Int) (w : World) (hR : RS w A nv n U T) (hg : good C N S K Q) (hn : (n : Int) ≠ N) :
    Calls Tryz.prog 12 #[.agg #[.int .i64 C, .int .i64 N, .int .i64 S, .int .i64 K, .int .i64 Q], .agg #[A, nv]] w fun e w' => e = .returned (.tuple #[.int .i64 (-2), .int .i64 6]) ∧ Below w.heap.size w w' := by
  obtain ⟨a, cap, rfl, -⟩ := hR.form
  obtain ⟨k0, k1, k2, k3, k4, k5⟩ := four_boxes w (.cells #[.int .i64 C, .int .i64 N, .int .i64 S, .int .i64 K, .int .i64 Q] 23) (.cells #[.slice a n cap, nv] 29) (.cells #[.int .i64 0] 3) (.cells #[.int .i64 0] 34)
  have CK := Lib.hid (chk13_yes C N S K Q hg)
  obtain ⟨c0, c1, c2, c3, c4⟩ := five_cells k0
  have B := Lib.hid k5
  have K0 := Lib.hid k0
  have K1 := Lib.hid k1
  have K2 := Lib.hid k2
  have K3 := Lib.hid k3
  have q : ((n : Int) != N) = true := by simpa using hn
  clear k0 k1 k2 k3 k4 k5 hg hR hn
  go_enter Tryz.func12, Tryz.ntmps12
  go_wp2_with (go_at_call 40; refine (CK.out _).mono ?_; rintro e w1 ⟨rfl, hb1⟩; have B1 := Lib.hid (below_end B.out hb1); have P2 := Lib.hid (keep_heap hb1 K2.out); have P3 := Lib.hid (keep_heap hb1 K3.out); obtain ⟨d2, f2⟩ := one_cell P2.out; obtain ⟨d3, f3⟩ := one_cell P3.out; obtain ⟨e0, e1, e2, e3, e4⟩ := five_cells (keep_heap hb1 K0.out); obtain ⟨g0, g1, -, -⟩ := two_cells (keep_heap hb1 K1.out); clear hb1)
  obtain ⟨t2, t3, hx⟩ := set_two P2.out P3.out (.int .i64 (-2)) (.int .i64 6)
  have z2 : ((w1.setCell ⟨w.heap.size + 1 + 1, 0, none⟩ (.int .i64 (-2))).setCell ⟨w.heap.size + 1 + 1 + 1, 0, none⟩ (.int .i64 6)).cell? ⟨w.heap.size + 1 + 1, 0, none⟩ = some (.int .i64 (-2)) := (one_cell t2).1
  have z3 : ((w1.setCell ⟨w.heap.size + 1 + 1, 0, none⟩ (.int .i64 (-2))).setCell ⟨w.heap.size + 1 + 1 + 1, 0, none⟩ (.int .i64 6)).cell? ⟨w.heap.size + 1 + 1 + 1, 0, none⟩ = some (.int .i64 6) := (one_cell t3).1
  refine bodyPost_ret (v := .tuple #[.int .i64 (-2), .int .i64 6]) (by simp [results, Tryz.f12, go_sem, z2, z3]) rfl ⟨rfl, hx w rfl B1.out⟩
/-- what Check's boxes hold between two rounds: the number of the set, or what is returned -/
def ckB (w : World) (b : Nat) (A nv : Value) (r1 r2 : Int) : List (Nat × Obj) :=
  [(w.heap.size, .cells #[.int .i64 C, .int .i64 N, .int .i64 S, .int .i64 K, .int .i64 Q] 23 (0, 0)), (w.heap.size + 2, .cells #[.int .i64 r1] 3 (0, 0)), (w.heap.size + 3, .cells #[.int .i64 r2] 34 (0, 0)), (b, .cells #[A, nv] 29 (0, 0))]
theorem ck_get {w W : World} {b : Nat} {A nv : Value} {r1 r2 : Int} (h : Kp w (ckB C N S K Q w b A nv r1 r2) W) : W.heap[w.heap.size]? = some (.cells #[.int .i64 C, .int .i64 N, .int .i64 S, .int .i64 K, .int .i64 Q] 23 (0, 0)) ∧
    W.heap[w.heap.size + 2]? = some (.cells #[.int .i64 r1] 3 (0, 0)) ∧ W.heap[w.heap.size + 3]? = some (.cells #[.int .i64 r2] 34 (0, 0)) ∧ W.heap[b]? = some (.cells #[A, nv] 29 (0, 0)) :=
  ⟨h.at _ _ (by simp [ckB]), h.at _ _ (by simp [ckB]), h.at _ _ (by simp [ckB]), h.at _ _ (by simp [ckB])⟩
/-- what is returned is stored, and the collected calls are taken -/
theorem ck_end {w W : World} {b n : Nat} {A nv : Value} {r1 r2 : Int} (h : Kp w (ckB C N S K Q w b A nv r1 r2) W) (hK : W.heap[n]? = some (.deferred (some []))) (hn : w.heap.size + 4 ≤ n) (x y : Value) :
    ((W.setCell ⟨w.heap.size + 1 + 1, 0, none⟩ x).setCell ⟨w.heap.size + 1 + 1 + 1, 0, none⟩ y).heap[n]? = some (.deferred (some [])) ∧
    (((W.setCell ⟨w.heap.size + 1 + 1, 0, none⟩ x).setCell ⟨w.heap.size + 1 + 1 + 1, 0, none⟩ y).putObj n (.deferred none)).cell? ⟨w.heap.size + 1 + 1, 0, none⟩ = some x ∧
    (((W.setCell ⟨w.heap.size + 1 + 1, 0, none⟩ x).setCell ⟨w.heap.size + 1 + 1 + 1, 0, none⟩ y).putObj n (.deferred none)).cell? ⟨w.heap.size + 1 + 1 + 1, 0, none⟩ = some y ∧
    Below w.heap.size w (((W.setCell ⟨w.heap.size + 1 + 1, 0, none⟩ x).setCell ⟨w.heap.size + 1 + 1 + 1, 0, none⟩ y).putObj n (.deferred none)) := by
  obtain ⟨-, h2, h3, -⟩ := ck_get C N S K Q h
  obtain ⟨t2, t3, hx⟩ := set_two h2 h3 x y
  refine ⟨set_far _ (by omega) (set_far _ (by omega) hK), put_cell _ _ (by simp; omega) (one_cell t2).1, put_cell _ _ (by simp; omega) (one_cell t3).1, put_below (hx w rfl h.2) (by omega) _⟩
set_option maxRecDepth 100000 in
set_option maxHeartbeats 2000000 in
theorem check17_walk (A nv : Value) (n : Nat) (U : Nat → Value) (T : Nat → List Int) (w : World) (hR : RS w A nv n U T) (hm : ∀ j, j ≤ n → (T j).length ≤ 100000) (hg : good C N S K Q) (hn : (n : Int) = N) :
    Calls Tryz.prog 12 #[.agg #[.int .i64 C, .int .i64 N, .int .i64 S, .int .i64 K, .int .i64 Q], .agg #[A, nv]] w fun e w' => e = .returned (.tuple #[.int .i64 (chkS C N S K Q n T).1, .int .i64 (chkS C N S K Q n T).2]) ∧ Below w.heap.size w w' := by
  have hn24 : n ≤ 24 := by obtain ⟨-, -, -, n1, -⟩ := hg; omega
  obtain ⟨a, cap, hA, -⟩ := hR.form
  subst hA
  obtain ⟨k0, k1, k2, k3, k4, k5⟩ := four_boxes w (.cells #[.int .i64 C, .int .i64 N, .int .i64 S, .int .i64 K, .int .i64 Q] 23) (.cells #[.slice a n cap, nv] 29) (.cells #[.int .i64 0] 3) (.cells #[.int .i64 0] 34)
  have CK := Lib.hid (chk13_yes C N S K Q hg)
  obtain ⟨c0, c1, c2, c3, c4⟩ := five_cells k0
  have B := Lib.hid k5
  have K0 := Lib.hid k0
  have K1 := Lib.hid k1
  have K2 := Lib.hid k2
  have K3 := Lib.hid k3
  have K4 := Lib.hid k4
  have q : ((n : Int) != N) = false := by simpa using hn
  have HR := Lib.hid hR
  have HG := Lib.hid hg
  have HN := Lib.hid hn
  have HM := Lib.hid hm
  clear k0 k1 k2 k3 k4 k5 hg hR hn hm
  refine callsIn_wide.1 (callsIn_of_wp_marks (n := 9) Tryz.func12 rfl trivial ?_ rfl)
  simp only [Tryz.ntmps12, List.size_toArray, List.length_cons, List.length_nil, Nat.reduceAdd, Nat.reduceSub, Array.replicate_succ, Array.replicate_zero, List.push_toArray, List.append_toArray, List.nil_append, List.cons_append]
  gi_wp2_with (first
    | (refine ⟨trivial, ?_⟩; gi_at_call 40; refine (callsIn_wide.2 (CK.out _)).mono ?_; rintro e w1 ⟨rfl, hb1⟩; have B1 := Lib.hid (below_end B.out hb1); have P0 := Lib.hid (keep_heap hb1 K0.out); have P1 := Lib.hid (keep_heap hb1 K1.out); have P2 := Lib.hid (keep_heap hb1 K2.out); have P3 := Lib.hid (keep_heap hb1 K3.out); have Z1 := Lib.hid (show w.heap.size + 4 ≤ w1.heap.size by have := hb1.size; rw [K4.out] at this; exact this); obtain ⟨e0, e1, e2, e3, e4⟩ := five_cells P0.out; obtain ⟨g0, g1, -, -⟩ := two_cells P1.out; clear hb1)
    | (refine ⟨trivial, ?_⟩; gi_at_call 44; refine (callsIn_wide.2 (all48 _ _ _)).mono ?_; rintro e w2 ⟨rfl, rfl⟩))
  have hBx := World.alloc_heap_new w1 (.cells #[.slice a n cap, nv] 29)
  have hB2 := alloc_below w1 (.cells #[.slice a n cap, nv] 29)
  have hz : (w1.alloc (.cells #[.slice a n cap, nv] 29)).heap.size = w1.heap.size + 1 := by simp
  have KP := Lib.hid (show Kp w (ckB C N S K Q w w1.heap.size (.slice a n cap) nv 0 0) (w1.alloc (.cells #[.slice a n cap, nv] 29)) from ⟨fun p hp => by
    simp only [ckB, List.mem_cons, List.not_mem_nil, or_false] at hp
    rcases hp with rfl | rfl | rfl | rfl
    · exact keep_heap hB2 P0.out
    · exact keep_heap hB2 P2.out
    · exact keep_heap hB2 P3.out
    · exact hBx, below_end B1.out hB2⟩)
  have hZ := Z1.out
  generalize w1.alloc (.cells #[.slice a n cap, nv] 29) = W0 at *
  clear hBx hB2 P0 P1 P2 P3 B1 Z1 CK e0 e1 e2 e3 e4 g0 g1 c0 c1 c2 c3 c4 B K0 K1 K2 K3 K4
  have hbn : ∀ r1 r2 p, p ∈ ckB C N S K Q w w1.heap.size (.slice a n cap) nv r1 r2 → p.1 < W0.heap.size := fun r1 r2 p hp => by
    simp only [ckB, List.mem_cons, List.not_mem_nil, or_false] at hp
    rcases hp with rfl | rfl | rfl | rfl <;> dsimp only <;> omega
  refine range_ret (w := W0) (n := 9) (by omega) (gf := 80) (lb := #[.pointer (some ⟨w1.heap.size, 0, none⟩)]) rfl (enters_of Tryz.func80 (by kernel_rfl) rfl) (enc := encS n U) (E := fun i => i = n + 1) (S := fun i => i ≤ n) (G := fun W => SetsAt W w1.heap.size (.slice a n cap) nv n U T)
    (fun W1 hb hsz l J K hG hJ hK hY h0' => callsIn_wide.2 (iter73 8 (by omega) _ nv n U T (by omega) w1.heap.size l J K W1 hG hJ hY h0')) (fun _ => rfl)
    (fun i W => Kp w (ckB C N S K Q w w1.heap.size (.slice a n cap) nv 0 0) W ∧ (∀ j, j < i → wrongF C N S K Q (numS n j) (T j) = 0))
    (fun W => ∃ i : Nat, (i ≤ n ∧ wrongF C N S K Q (numS n i) (T i) ≠ 0 ∧ ∀ j, j < i → wrongF C N S K Q (numS n j) (T j) = 0) ∧ Kp w (ckB C N S K Q w w1.heap.size (.slice a n cap) nv (numS n i) (wrongF C N S K Q (numS n i) (T i))) W)
    (fun i W h => ⟨(ck_get C N S K Q h.1).2.2.2, HR.out.below h.1.2⟩)
    (fun i a' W => ∃ p, W.heap[p]? = some (.cells #[U i] 27 (0, 0)) ∧ W0.heap.size + 2 ≤ p ∧ a' = { tmps := #[.agg #[.int .i64 C, .int .i64 N, .int .i64 S, .int .i64 K, .int .i64 Q], .agg #[.slice a n cap, nv], .pointer (some ⟨w.heap.size, 0, none⟩), .pointer (some ⟨w.heap.size + 1, 0, none⟩), .pointer (some ⟨w.heap.size + 1 + 1, 0, none⟩), .pointer (some ⟨w.heap.size + 1 + 1 + 1, 0, none⟩), .int .i64 0, .int .i64 (numS n i), .pointer (some ⟨p, 0, none⟩), undef,
      .agg #[.int .i64 C, .int .i64 N, .int .i64 S, .int .i64 K, .int .i64 Q], .int .i64 0, .int .i64 0, .bool false, undef, .pointer (some ⟨w.heap.size + 1, 0, none⟩), .slice a n cap, .int .i64 n, .pointer (some ⟨w.heap.size, 1, none⟩), .int .i64 N, .bool false, .agg #[.slice a n cap, nv], .func (.func 80) #[] #[.pointer (some ⟨w1.heap.size, 0, none⟩)], .int .i64 (numS n i), .agg #[U i], undef, undef, undef, undef, undef, undef, undef, undef], defers := [] })
    (fun i a' W W' h hg => by
      obtain ⟨p, h1, h2, h3⟩ := h
      exact ⟨p, (hg.block _ (Array.getElem?_eq_some_iff.1 h1).1 (fun e => by injection e with e; omega)).trans h1, h2, h3⟩)
    (Kp.minds w _ _ _ _ (by omega) (fun _ => hbn _ _))
    (fun _ W W' r h1 h2 h hg => by
      obtain ⟨i, h3, h4⟩ := h
      exact ⟨i, h3, h4.grown hg (by omega) (fun p hp => by have := hbn _ _ p hp; omega)⟩)
    (fun W1 hb hsz => ⟨KP.out.below hb, fun j hj => by omega⟩) ?assign ?body ?done ?stop
  case assign =>
    intro l i W hi hS hsz
    obtain ⟨Ak, ck, hu, -⟩ := HR.out.at_ i hS
    dsimp only [encS]
    rw [hu]
    have hh := heap_alloc_new W (.cells #[.slice Ak (T i).length ck] 27)
    have hb := alloc_below W (.cells #[.slice Ak (T i).length ck] 27)
    generalize (T i).length = nk at *
    clear hi hu
    gi_wp2
    exact ⟨hb, W.heap.size, hh, hsz, rfl⟩
  case body =>
    rintro l i a' W ⟨hk, hno⟩ ⟨p, hp, hps, rfl⟩ hS hsz
    obtain ⟨Ak, ck, hu, -⟩ := HR.out.at_ i hS
    have CS := Lib.hid (checkSet49 C N S K Q (numS n i) (U i) (T i) W ((HR.out.at_ i hS).below hk.2) (HM.out i hS))
    unfold sv at CS
    rw [hu] at CS hp ⊢
    obtain ⟨c0, c1, c2, c3, c4⟩ := five_cells (ck_get C N S K Q hk).1
    obtain ⟨cp, -⟩ := one_cell hp
    have HK := Lib.hid hk
    have HNO := Lib.hid hno
    obtain ⟨z, hz2⟩ : ∃ z, numS n i = z := ⟨_, rfl⟩
    obtain ⟨r, hr2⟩ : ∃ r, wrongF C N S K Q z (T i) = r := ⟨_, rfl⟩
    have HZ2 := Lib.hid hz2
    have HR2 := Lib.hid hr2
    rw [hz2, hr2] at CS
    rw [hz2]
    have HBN := Lib.hid hbn
    generalize (T i).length = nk at *
    clear hk hno hz2 hr2 hu hp hbn
    by_cases hr : r = 0
    · have q0 : (r != 0) = false := by simpa using hr
      have HR0 := Lib.hid hr
      clear hr
      gi_wp2_with (refine ⟨trivial, ?_⟩; gi_at_call 45; refine (CallsIn.inRound l (callsIn_wide.2 CS.out)).mono ?_; rintro e w2 ⟨rfl, hb2⟩)
      exact ⟨KeptR.of_below hb2, HK.out.below hb2, fun j hj => by
        rcases Nat.lt_or_ge j i with h | h
        · exact HNO.out j h
        · obtain rfl : j = i := by omega
          rw [HZ2.out, HR2.out, HR0.out]⟩
    · have q0 : (r != 0) = true := by simpa using hr
      have HR0 := Lib.hid hr
      clear hr
      gi_wp2_with (refine ⟨trivial, ?_⟩; gi_at_call 45; refine (CallsIn.inRound l (callsIn_wide.2 CS.out)).mono ?_; rintro e w2 ⟨rfl, hb2⟩; have K2 := Lib.hid (HK.out.below hb2); have d2 : w2.cell? ⟨w.heap.size + 1 + 1, 0, none⟩ = some (.int .i64 0) := (one_cell (ck_get C N S K Q K2.out).2.1).1; have f2 : w2.frozen? ⟨w.heap.size + 1 + 1, 0, none⟩ = false := (one_cell (ck_get C N S K Q K2.out).2.1).2; have d3 : ∀ u, (w2.setCell ⟨w.heap.size + 1 + 1, 0, none⟩ u).cell? ⟨w.heap.size + 1 + 1 + 1, 0, none⟩ = some (.int .i64 0) := fun u => (one_cell (set_far (b := w.heap.size + 1 + 1) (i := 0) u (by omega) (ck_get C N S K Q K2.out).2.2.1)).1; have f3 : ∀ u, (w2.setCell ⟨w.heap.size + 1 + 1, 0, none⟩ u).frozen? ⟨w.heap.size + 1 + 1 + 1, 0, none⟩ = false := fun u => (one_cell (set_far (b := w.heap.size + 1 + 1) (i := 0) u (by omega) (ck_get C N S K Q K2.out).2.2.1)).2)
      obtain ⟨t2, t3, hx⟩ := set_two (ck_get C N S K Q K2.out).2.1 (ck_get C N S K Q K2.out).2.2.1 (.int .i64 z) (.int .i64 r)
      refine ⟨((KeptR.of_below hb2).set _ _ _ (by omega)).set _ _ _ (by omega), i, ⟨hS, by rw [HZ2.out, HR2.out]; exact HR0.out, HNO.out⟩, fun p hp => ?_, hx w rfl K2.out.2⟩
      simp only [ckB, List.mem_cons, List.not_mem_nil, or_false] at hp
      rw [HZ2.out, HR2.out] at hp
      rcases hp with rfl | rfl | rfl | rfl
      · exact set_far _ (by dsimp only; omega) (set_far _ (by dsimp only; omega) (ck_get C N S K Q K2.out).1)
      · exact t2
      · exact t3
      · have := HBN.out 0 0 _ (show (w1.heap.size, Obj.cells #[.slice a n cap, nv] 29 (0, 0)) ∈ ckB C N S K Q w w1.heap.size (.slice a n cap) nv 0 0 by simp [ckB])
        exact set_far _ (by dsimp only at *; omega) (set_far _ (by dsimp only at *; omega) (ck_get C N S K Q K2.out).2.2.2)
  case done =>
    intro i W hE ⟨hk, hno⟩ hK
    have e0 := Lib.hid (chkS_ok HG.out HN.out (fun j hj => hno j (by omega)))
    have d2 : W.cell? ⟨w.heap.size + 1 + 1, 0, none⟩ = some (.int .i64 0) := (one_cell (ck_get C N S K Q hk).2.1).1
    have f2 : W.frozen? ⟨w.heap.size + 1 + 1, 0, none⟩ = false := (one_cell (ck_get C N S K Q hk).2.1).2
    have d3 : ∀ u, (W.setCell ⟨w.heap.size + 1 + 1, 0, none⟩ u).cell? ⟨w.heap.size + 1 + 1 + 1, 0, none⟩ = some (.int .i64 0) := fun u => (one_cell (set_far (b := w.heap.size + 1 + 1) (i := 0) u (by omega) (ck_get C N S K Q hk).2.2.1)).1
    have f3 : ∀ u, (W.setCell ⟨w.heap.size + 1 + 1, 0, none⟩ u).frozen? ⟨w.heap.size + 1 + 1 + 1, 0, none⟩ = false := fun u => (one_cell (set_far (b := w.heap.size + 1 + 1) (i := 0) u (by omega) (ck_get C N S K Q hk).2.2.1)).2
    obtain ⟨x1, x2, x3, x4⟩ := ck_end C N S K Q hk hK (by omega) (.int .i64 0) (.int .i64 0)
    have X1 := Lib.hid x1
    have X4 := Lib.hid x4
    clear hk hno hK hE x1 x4
    gi_wp2
    refine ⟨by simp, .inl ⟨_, _, rfl, run_takeDeferred X1.out, ?_⟩⟩
    exact ⟨.tuple #[.int .i64 0, .int .i64 0], by simp [results, Tryz.f12, go_sem, x2, x3], by rw [e0.out], X4.out⟩
  case stop =>
    intro W ⟨i, ⟨hS, hr, hno⟩, hk⟩ hK
    have e0 := Lib.hid (chkS_at HG.out HN.out hS hr hno)
    have d2 : W.cell? ⟨w.heap.size + 1 + 1, 0, none⟩ = some (.int .i64 (numS n i)) := (one_cell (ck_get C N S K Q hk).2.1).1
    have d3 : W.cell? ⟨w.heap.size + 1 + 1 + 1, 0, none⟩ = some (.int .i64 (wrongF C N S K Q (numS n i) (T i))) := (one_cell (ck_get C N S K Q hk).2.2.1).1
    have x2 := put_cell W0.heap.size (.deferred none) (by simp; omega) d2
    have x3 := put_cell W0.heap.size (.deferred none) (by simp; omega) d3
    have X4 := Lib.hid (put_below hk.2 (show w.heap.size ≤ W0.heap.size by omega) (.deferred none))
    have X1 := Lib.hid hK
    clear hk hno hK hr hS d2 d3
    gi_wp2
    refine ⟨by simp, .inl ⟨_, _, rfl, run_takeDeferred X1.out, ?_⟩⟩
    exact ⟨.tuple #[.int .i64 (numS n i), .int .i64 (wrongF C N S K Q (numS n i) (T i))], by simp [results, Tryz.f12, go_sem, x2, x3], by rw [e0.out], X4.out⟩
/-- Check, the program's -/
theorem check17 (A nv : Value) (n : Nat) (U : Nat → Value) (T : Nat → List Int) (w : World) (hR : RS w A nv n U T) (hm : ∀ j, j ≤ n → (T j).length ≤ 100000) :
    Calls Tryz.prog 12 #[.agg #[.int .i64 C, .int .i64 N, .int .i64 S, .int .i64 K, .int .i64 Q], .agg #[A, nv]] w fun e w' => e = .returned (.tuple #[.int .i64 (chkS C N S K Q n T).1, .int .i64 (chkS C N S K Q n T).2]) ∧ Below w.heap.size w w' := by
  by_cases hg : good C N S K Q
  · by_cases hn : (n : Int) = N
    · exact check17_walk C N S K Q A nv n U T w hR hm hg hn
    · rw [chkS_len hg hn]; exact check17_len C N S K Q A nv n U T w hR hg hn
  · rw [chkS_bad hg]; exact check17_bad C N S K Q A nv w hg
end
end YtjkphacidpongaaGreat
end Go.Proofs
