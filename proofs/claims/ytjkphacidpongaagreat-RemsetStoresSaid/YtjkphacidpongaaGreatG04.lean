/- find, the program's. -/
import Derived.Test.YtjkphacidpongaaGreatG03
namespace Go.Proofs
namespace YtjkphacidpongaaGreat
open Go.RowKit
attribute [local go_sem] Oper.semAt_some

/-- what find answers -/
def findF (cs : List Int) (a : Int) : Int := if hasB cs a = true then (pos a cs.length (stopI cs a) : Int) else (pos a cs.length (freeI cs a) : Int)
/-- the first place that is free, before the i-th -/
def accF (cs : List Int) (a : Int) (i : Nat) : Int := if freeI cs a < i then (pos a cs.length (freeI cs a) : Int) else -1
theorem acc_zero (cs : List Int) (a : Int) : accF cs a 0 = -1 := rfl
/-- what find's own boxes hold between two rounds -/
structure FI (w : World) (v : Value) (cs : List Int) (a : Int) (i : Nat) (W : World) : Prop where
  bt : W.heap[w.heap.size]? = some (.cells #[v] 104 (0, 0))
  ba : W.heap[w.heap.size + 1]? = some (.cells #[.int .i64 a] 3 (0, 0))
  bc : W.heap[w.heap.size + 2]? = some (.cells #[.int .i64 (accF cs a i)] 3 (0, 0))
  bi : W.heap[w.heap.size + 3]? = some (.cells #[.bool false] 4 (0, 0))
  st : W.heap[w.heap.size + 4]? = some (.cells #[v] 104 (0, 0))
  sa : W.heap[w.heap.size + 5]? = some (.cells #[.int .i64 a] 3 (0, 0))
  no : ∀ j, j < i → pv cs a j ≠ a
  below : Below w.heap.size w W
structure FX (w : World) (cs : List Int) (a : Int) (W : World) : Prop where
  at_ : ∃ k, k < cs.length ∧ pv cs a k = a ∧ (∀ j, j < k → pv cs a j ≠ a ∧ pv cs a j ≠ 0) ∧ W.heap[w.heap.size + 2]? = some (.cells #[.int .i64 (pos a cs.length k)] 3 (0, 0))
  bi : W.heap[w.heap.size + 3]? = some (.cells #[.bool true] 4 (0, 0))
  below : Below w.heap.size w W
theorem FI.seq {w : World} {v : Value} {cs : List Int} {a : Int} {i : Nat} {W : World} (h : FI w v cs a i W) (hA : IAt w v cs) : SeqAt W (w.heap.size + 4) (w.heap.size + 5) v cs a := ⟨h.st, h.sa, hA.below h.below⟩
theorem FI.minds (w : World) (v : Value) (cs : List Int) (a : Int) (B C : Nat) (hB : w.heap.size + 6 ≤ B) : MindsR B C (fun i W => FI w v cs a i W) := by
  intro i W W' r h1 h2 h hg
  have k : ∀ {q : Nat} {o : Obj}, q < w.heap.size + 6 → W.heap[q]? = some o → W'.heap[q]? = some o := fun hq ho => (hg.block _ (Array.getElem?_eq_some_iff.1 ho).1 (fun e => by injection e with e; omega)).trans ho
  exact ⟨k (by omega) h.bt, k (by omega) h.ba, k (by omega) h.bc, k (by omega) h.bi, k (by omega) h.st, k (by omega) h.sa, h.no, h.below.grown hg h.below.size (fun q e => by injection e with e; omega)⟩
theorem FX.minds (w : World) (cs : List Int) (a : Int) (B C : Nat) (hB : w.heap.size + 6 ≤ B) : MindsR B C (fun (_ : Unit) W => FX w cs a W) := by
  intro i W W' r h1 h2 h hg
  have k : ∀ {q : Nat} {o : Obj}, q < w.heap.size + 6 → W.heap[q]? = some o → W'.heap[q]? = some o := fun hq ho => (hg.block _ (Array.getElem?_eq_some_iff.1 ho).1 (fun e => by injection e with e; omega)).trans ho
  obtain ⟨q, h3, h4, h5, h6⟩ := h.at_
  exact ⟨⟨q, h3, h4, h5, k (by omega) h6⟩, k (by omega) h.bi, h.below.grown hg h.below.size (fun q e => by injection e with e; omega)⟩
theorem acc_stay {cs : List Int} {a : Int} {i : Nat} (hz : (0 : Int) ∈ cs) (h : 0 < pv cs a i ∨ freeI cs a < i) : accF cs a (i + 1) = accF cs a i := by
  have : freeI cs a ≠ i ∨ freeI cs a < i := by
    rcases h with h | h
    · left; intro e; have := free_at hz a; rw [e] at this; omega
    · exact .inr h
  unfold accF
  by_cases h2 : freeI cs a < i
  · rw [if_pos h2, if_pos (by omega)]
  · rw [if_neg h2, if_neg (by omega)]
theorem acc_take {cs : List Int} {a : Int} {i : Nat} (h : pv cs a i ≤ 0) (h2 : ¬ freeI cs a < i) : accF cs a i = -1 ∧ accF cs a (i + 1) = pos a cs.length i := by
  have h3 : freeI cs a ≤ i := least_hit _ _ _ i (Nat.zero_le _) (by simpa using h)
  have e : freeI cs a = i := by omega
  unfold accF
  rw [if_neg h2, if_pos (by omega), e]
  exact ⟨rfl, rfl⟩
theorem acc_free {cs : List Int} {a : Int} {i : Nat} (h2 : freeI cs a < i) : accF cs a i = pos a cs.length (freeI cs a) := by unfold accF; rw [if_pos h2]
theorem FI.stay {w : World} {v : Value} {cs : List Int} {a : Int} {i : Nat} {W : World} (h : FI w v cs a i W) (hn : pv cs a i ≠ a) (he : accF cs a (i + 1) = accF cs a i) : FI w v cs a (i + 1) W :=
  ⟨h.bt, h.ba, by rw [he]; exact h.bc, h.bi, h.st, h.sa, fun j hj => by
    rcases Nat.lt_or_ge j i with h1 | h1
    · exact h.no j h1
    · obtain rfl : j = i := by omega
      exact hn, h.below⟩
theorem FI.store {w : World} {v : Value} {cs : List Int} {a : Int} {i : Nat} {W : World} (h : FI w v cs a i W) (hn : pv cs a i ≠ a) (c : Int) (he : accF cs a (i + 1) = c) : FI w v cs a (i + 1) (W.setCell ⟨w.heap.size + 1 + 1, 0, none⟩ (.int .i64 c)) :=
  ⟨set_far _ (by omega) h.bt, set_far _ (by omega) h.ba, by have := set_row h.bc 0 (.int .i64 c); rw [he]; exact this, set_far _ (by omega) h.bi, set_far _ (by omega) h.st, set_far _ (by omega) h.sa, fun j hj => by
    rcases Nat.lt_or_ge j i with h1 | h1
    · exact h.no j h1
    · obtain rfl : j = i := by omega
      exact hn, h.below.setCell (p := ⟨w.heap.size + 1 + 1, 0, none⟩) (show w.heap.size ≤ w.heap.size + 1 + 1 by omega) _⟩
theorem FI.found {w : World} {v : Value} {cs : List Int} {a : Int} {i : Nat} {W : World} (h : FI w v cs a i W) (hi : i < cs.length) (he : pv cs a i = a) (h0 : ∀ j, j < i → pv cs a j ≠ 0) :
    FX w cs a ((W.setCell ⟨w.heap.size + 1 + 1, 0, none⟩ (.int .i64 (pos a cs.length i))).setCell ⟨w.heap.size + 1 + 1 + 1, 0, none⟩ (.bool true)) := by
  have s1 := set_row h.bc 0 (.int .i64 (pos a cs.length i))
  have s2 := set_far (c := w.heap.size + 3) (b := w.heap.size + 1 + 1) (i := 0) (.int .i64 (pos a cs.length i)) (by omega) h.bi
  exact ⟨⟨i, hi, he, fun j hj => ⟨h.no j hj, h0 j hj⟩, set_far (c := w.heap.size + 2) (b := w.heap.size + 1 + 1 + 1) _ (by omega) s1⟩, set_row s2 0 (.bool true),
    (h.below.setCell (p := ⟨w.heap.size + 1 + 1, 0, none⟩) (show w.heap.size ≤ w.heap.size + 1 + 1 by omega) _).setCell (p := ⟨w.heap.size + 1 + 1 + 1, 0, none⟩) (show w.heap.size ≤ w.heap.size + 1 + 1 + 1 by omega) _⟩
theorem find_done {cs : List Int} {a : Int} {i : Nat} (hz : (0 : Int) ∈ cs) (hE : EndP cs a i) (hn : ∀ j, j < i → pv cs a j ≠ a) : hasB cs a = false ∧ accF cs a i = findF cs a := by
  have h1 := stop_lt hz a
  have h2 := free_lt hz a
  have h3 : stopI cs a < i ∧ freeI cs a < i := by
    rcases hE with rfl | ⟨k, rfl, hk, h0⟩
    · exact ⟨h1, h2⟩
    · have a1 : stopI cs a ≤ k := least_hit _ _ _ k (Nat.zero_le _) (by simp [h0])
      have a2 : freeI cs a ≤ k := least_hit _ _ _ k (Nat.zero_le _) (by simp [h0])
      omega
  have h4 : hasB cs a = false := by unfold hasB; simpa using hn _ h3.1
  refine ⟨h4, ?_⟩
  unfold findF accF
  rw [if_pos h3.2, h4, if_neg (by simp)]
theorem find_stop {cs : List Int} {a : Int} {k : Nat} (hk : k < cs.length) (he : pv cs a k = a) (hn : ∀ j, j < k → pv cs a j ≠ a ∧ pv cs a j ≠ 0) : hasB cs a = true ∧ findF cs a = pos a cs.length k := by
  have e : stopI cs a = k := least_eq _ (Nat.zero_le _) (by omega) (by simp [he]) (fun m _ hm => by simpa using hn m hm)
  have h4 : hasB cs a = true := by unfold hasB; rw [e]; simpa using he
  refine ⟨h4, ?_⟩
  unfold findF
  rw [h4, if_pos rfl, e]
theorem find_end {w W : World} {R b u v : Value} (n : Nat) (h2 : W.heap[w.heap.size + 2]? = some (.cells #[u] 3 (0, 0))) (h3 : W.heap[w.heap.size + 3]? = some (.cells #[v] 4 (0, 0))) (hB : Below w.heap.size w W)
    (hK : W.heap[n]? = some (.deferred (some []))) (hn : w.heap.size + 6 ≤ n) (X : World) (hX : X = ((W.setCell ⟨w.heap.size + 1 + 1, 0, none⟩ R).setCell ⟨w.heap.size + 1 + 1 + 1, 0, none⟩ b).drew) :
    X.heap[n]? = some (.deferred (some [])) ∧ (X.putObj n (.deferred none)).cell? ⟨w.heap.size + 1 + 1, 0, none⟩ = some R ∧ (X.putObj n (.deferred none)).cell? ⟨w.heap.size + 1 + 1 + 1, 0, none⟩ = some b ∧ Below w.heap.size w (X.putObj n (.deferred none)) := by
  have s2 := set_row h2 0 R
  have s3 := set_far (c := w.heap.size + 3) (b := w.heap.size + 1 + 1) (i := 0) R (by omega) h3
  have t2 := set_far (c := w.heap.size + 2) (b := w.heap.size + 1 + 1 + 1) (i := 0) b (by omega) s2
  have t3 := set_row s3 0 b
  have k2 := set_far (c := n) (b := w.heap.size + 1 + 1 + 1) (i := 0) b (by omega) (set_far (c := n) (b := w.heap.size + 1 + 1) (i := 0) R (by omega) hK)
  have B := (hB.setCell (p := ⟨w.heap.size + 1 + 1, 0, none⟩) (show w.heap.size ≤ w.heap.size + 1 + 1 by omega) R).setCell (p := ⟨w.heap.size + 1 + 1 + 1, 0, none⟩) (show w.heap.size ≤ w.heap.size + 1 + 1 + 1 by omega) b
  have B2 := below_drewN B 1
  change Below w.heap.size w ((W.setCell ⟨w.heap.size + 1 + 1, 0, none⟩ R).setCell ⟨w.heap.size + 1 + 1 + 1, 0, none⟩ b).drew at B2
  rw [← hX] at B2
  have e : X.heap = ((W.setCell ⟨w.heap.size + 1 + 1, 0, none⟩ R).setCell ⟨w.heap.size + 1 + 1 + 1, 0, none⟩ b).heap := by rw [hX]; rfl
  rw [← e] at t2 t3 k2
  have u2 : (X.putObj n (.deferred none)).heap[w.heap.size + 2]? = _ := (World.putObj_heap_other (by omega)).trans t2
  have u3 : (X.putObj n (.deferred none)).heap[w.heap.size + 3]? = _ := (World.putObj_heap_other (by omega)).trans t3
  exact ⟨k2, (one_cell u2).1, (one_cell u3).1, B2.grown (grownBy_putObj' X n (.deferred none)) B2.size (fun q e => by injection e with e; omega)⟩
theorem KeptR.refl (B C : Nat) (W : World) : KeptR B C W W := ⟨Nat.le_refl _, fun _ _ _ _ => rfl⟩
theorem KeptR.set {B C : Nat} {W W' : World} (h : KeptR B C W W') (b i : Nat) (u : Value) (hb : b < B) : KeptR B C W (W'.setCell ⟨b, i, none⟩ u) :=
  ⟨by rw [size_set]; exact h.size, fun k h1 h2 h3 => (Below.heap_setCell W' ⟨b, i, none⟩ u k (by simp; omega)).trans (h.same k h1 h2 h3)⟩
theorem four_boxes (w : World) (o0 o1 o2 o3 : Obj) :
    ((((w.alloc o0).alloc o1).alloc o2).alloc o3).heap[w.heap.size]? = some o0 ∧ ((((w.alloc o0).alloc o1).alloc o2).alloc o3).heap[w.heap.size + 1]? = some o1 ∧
    ((((w.alloc o0).alloc o1).alloc o2).alloc o3).heap[w.heap.size + 2]? = some o2 ∧ ((((w.alloc o0).alloc o1).alloc o2).alloc o3).heap[w.heap.size + 3]? = some o3 ∧
    ((((w.alloc o0).alloc o1).alloc o2).alloc o3).heap.size = w.heap.size + 4 ∧ Below w.heap.size w ((((w.alloc o0).alloc o1).alloc o2).alloc o3) := by
  refine ⟨?_, ?_, ?_, ?_, by simp, ?_⟩
  · rw [Below.heap_alloc _ _ _ (by simp; omega), Below.heap_alloc _ _ _ (by simp; omega), Below.heap_alloc _ _ _ (by simp)]; exact World.alloc_heap_new w o0
  · rw [Below.heap_alloc _ _ _ (by simp), Below.heap_alloc _ _ _ (by simp)]; have := World.alloc_heap_new (w.alloc o0) o1; rwa [World.size_alloc] at this
  · rw [Below.heap_alloc _ _ _ (by simp)]; have := World.alloc_heap_new ((w.alloc o0).alloc o1) o2; simpa only [World.size_alloc] using this
  · have := World.alloc_heap_new (((w.alloc o0).alloc o1).alloc o2) o3; simpa only [World.size_alloc] using this
  · exact ((((Below.refl _ _).alloc (Nat.le_refl _) _).alloc (by simp) _).alloc (by simp; omega) _).alloc (by simp; omega) _
/-- the world in which find's loop begins -/
theorem find_start (w W0 : World) (v : Value) (cs : List Int) (a : Int) (k0 : W0.heap[w.heap.size]? = some (.cells #[v] 104 (0, 0))) (k1 : W0.heap[w.heap.size + 1]? = some (.cells #[.int .i64 a] 3 (0, 0)))
    (k2 : W0.heap[w.heap.size + 2]? = some (.cells #[.int .i64 0] 3 (0, 0))) (k3 : W0.heap[w.heap.size + 3]? = some (.cells #[.bool false] 4 (0, 0))) (k4 : W0.heap.size = w.heap.size + 4) (k5 : Below w.heap.size w W0) (W1 : World)
    (hW : W1 = ((W0.setCell ⟨w.heap.size + 1 + 1, 0, none⟩ (.int .i64 (-1))).alloc (.cells #[v] 104)).alloc (.cells #[.int .i64 a] 3)) : FI w v cs a 0 W1 ∧ W1.heap.size = w.heap.size + 6 := by
  have s2 := set_row k2 0 (.int .i64 (-1))
  have s0 := set_far (c := w.heap.size) (b := w.heap.size + 1 + 1) (i := 0) (.int .i64 (-1)) (by omega) k0
  have s1 := set_far (c := w.heap.size + 1) (b := w.heap.size + 1 + 1) (i := 0) (.int .i64 (-1)) (by omega) k1
  have s3 := set_far (c := w.heap.size + 3) (b := w.heap.size + 1 + 1) (i := 0) (.int .i64 (-1)) (by omega) k3
  have s4 : (W0.setCell ⟨w.heap.size + 1 + 1, 0, none⟩ (.int .i64 (-1))).heap.size = w.heap.size + 4 := by rw [size_set]; exact k4
  have s5 : Below w.heap.size w (W0.setCell ⟨w.heap.size + 1 + 1, 0, none⟩ (.int .i64 (-1))) := k5.setCell (p := ⟨w.heap.size + 1 + 1, 0, none⟩) (show w.heap.size ≤ w.heap.size + 1 + 1 by omega) _
  change (W0.setCell ⟨w.heap.size + 1 + 1, 0, none⟩ (.int .i64 (-1))).heap[w.heap.size + 2]? = _ at s2
  generalize W0.setCell ⟨w.heap.size + 1 + 1, 0, none⟩ (.int .i64 (-1)) = X at *
  have b1 := alloc_below X (.cells #[v] 104)
  have t4 := heap_alloc_new X (.cells #[v] 104)
  have z1 : (X.alloc (.cells #[v] 104)).heap.size = w.heap.size + 5 := by simp [s4]
  rw [s4] at t4
  generalize X.alloc (.cells #[v] 104) = Y at *
  have b2 := alloc_below Y (.cells #[.int .i64 a] 3)
  have t5 := heap_alloc_new Y (.cells #[.int .i64 a] 3)
  have z2 : (Y.alloc (.cells #[.int .i64 a] 3)).heap.size = w.heap.size + 6 := by simp [z1]
  rw [z1] at t5
  rw [← hW] at b2 t5 z2
  have b := below_end b1 b2
  exact ⟨⟨keep_heap b s0, keep_heap b s1, keep_heap b s2, keep_heap b s3, keep_heap b2 t4, t5, fun j hj => by omega, below_end s5 b⟩, z2⟩
set_option maxRecDepth 100000 in
theorem path60 (A : Option Addr) (n c : Nat) (a : Int) (w : World) :
    Calls Tryz.prog 135 #[.slice A n c, .int .i64 a] w fun e w' => e = .returned (.func (.func 142) #[] #[.pointer (some ⟨w.heap.size + 1, 0, none⟩), .pointer (some ⟨w.heap.size, 0, none⟩)]) ∧
      w' = (w.alloc (.cells #[.slice A n c] 104)).alloc (.cells #[.int .i64 a] 3) := by
  go_enter Tryz.func135, Tryz.ntmps135
  go_wp2
  go_ret
  exact ⟨rfl, rfl⟩
end YtjkphacidpongaaGreat
end Go.Proofs
/- find, the program's: the walk. -/
namespace Go.Proofs
namespace YtjkphacidpongaaGreat
open Go.RowKit
attribute [local go_sem] Oper.semAt_some

set_option maxRecDepth 100000 in
set_option maxHeartbeats 2000000 in
theorem find46 (v : Value) (cs : List Int) (a : Int) (w : World) (h : IAt w v cs) (hz : (0 : Int) ∈ cs) (hr : ∀ c ∈ cs, -1 ≤ c) (hl : cs.length ≤ 100000) (ha : 1 ≤ a ∧ a ≤ 1600) :
    Calls Tryz.prog 119 #[v, .int .i64 a] w fun e w' => e = .returned (.tuple #[.int .i64 (findF cs a), .bool (hasB cs a)]) ∧ Below w.heap.size w w' := by
  have HA := Lib.hid h
  have h0 := List.length_pos_of_mem hz
  obtain ⟨A, cap, hv, -⟩ := h
  have HR := Lib.hid hr
  have HZ := Lib.hid hz
  clear hr hz
  subst hv
  obtain ⟨k0, k1, k2, k3, k4, k5⟩ := four_boxes w (.cells #[.slice A cs.length cap] 104) (.cells #[.int .i64 a] 3) (.cells #[.int .i64 0] 3) (.cells #[.bool false] 4)
  have K0 := Lib.hid k0
  have K1 := Lib.hid k1
  have K2 := Lib.hid k2
  have K3 := Lib.hid k3
  have K4 := Lib.hid k4
  have K5 := Lib.hid k5
  clear k0 k1 k2 k3 k4 k5
  refine callsIn_wide.1 (callsIn_of_wp_marks (n := 9) Tryz.func119 rfl trivial ?_ rfl)
  simp only [Tryz.ntmps119, List.size_toArray, List.length_cons, List.length_nil, Nat.reduceAdd, Nat.reduceSub, Array.replicate_succ, Array.replicate_zero, List.push_toArray, List.append_toArray, List.nil_append, List.cons_append]
  gi_wp2
  generalize (((w.alloc (Obj.cells #[.slice A cs.length cap] 104)).alloc (Obj.cells #[.int .i64 a] 3)).alloc (Obj.cells #[.int .i64 0] 3)).alloc (Obj.cells #[.bool false] 4) = W0 at *
  have c2 : W0.cell? ⟨w.heap.size + 1 + 1, 0, none⟩ = some (.int .i64 0) := (one_cell K2.out).1
  have f2 : W0.frozen? ⟨w.heap.size + 1 + 1, 0, none⟩ = false := (one_cell K2.out).2
  have c0 := (one_cell (set_far (i := 0) (b := w.heap.size + 1 + 1) (.int .i64 (-1)) (by omega) K0.out)).1
  have c1 := (one_cell (set_far (i := 0) (b := w.heap.size + 1 + 1) (.int .i64 (-1)) (by omega) K1.out)).1
  refine wpIn_wide.2 ?_
  refine wp_scope_straight ?_
  refine (wpIn_wide (n := 9)).1 ?_
  gi_wp2
  refine wpIn_label ?_
  gi_wp2_with (refine ⟨trivial, ?_⟩; gi_at_call 135; refine (callsIn_wide.2 (path60 _ _ _ _ _)).mono ?_; rintro e w1 ⟨rfl, rfl⟩)
  obtain ⟨w1, hw1⟩ : ∃ w1, w1 = ((W0.setCell ⟨w.heap.size + 1 + 1, 0, none⟩ (.int .i64 (-1))).alloc (.cells #[.slice A cs.length cap] 104)).alloc (.cells #[.int .i64 a] 3) := ⟨_, rfl⟩
  obtain ⟨hS, hsz⟩ := find_start w W0 (.slice A cs.length cap) cs a K0.out K1.out K2.out K3.out K4.out K5.out w1 hw1
  rw [← hw1, K4.out]
  have HS := Lib.hid hS
  clear hS hw1 c0 c1 c2 f2 K0 K1 K2 K3 K4 K5
  have hM := FI.minds w (.slice A cs.length cap) cs a w1.heap.size (w1.heap.size + 2) (by omega)
  have hMx := FX.minds w cs a w1.heap.size (w1.heap.size + 2) (by omega)
  refine range_stop (w := w1) (n := 9) (by omega) (gf := 142) (lb := #[.pointer (some ⟨w.heap.size + 4 + 1, 0, none⟩), .pointer (some ⟨w.heap.size + 4, 0, none⟩)]) rfl (enters_of Tryz.func142 (by kernel_rfl) rfl) (enc := encP a cs.length) (E := EndP cs a) (S := RunP cs a)
    (G := fun W => SeqAt W (w.heap.size + 4) (w.heap.size + 5) (.slice A cs.length cap) cs a) 0
    (fun W1 hb hsz l J K hG hJ hK hY h0' => callsIn_wide.2 (iter66 8 (by omega) (.slice A cs.length cap) cs a ⟨h0, hl⟩ ha (w.heap.size + 4) (w.heap.size + 5) l J K W1 hG hJ hY h0')) (fun _ => rfl)
    (FI w (.slice A cs.length cap) cs a) (FX w cs a) (fun i W h => h.seq HA.out)
    (fun i a' => a' = { tmps := #[.slice A cs.length cap, .int .i64 a, .pointer (some ⟨w.heap.size, 0, none⟩), .pointer (some ⟨w.heap.size + 1, 0, none⟩), .pointer (some ⟨w.heap.size + 1 + 1, 0, none⟩), .pointer (some ⟨w.heap.size + 1 + 1 + 1, 0, none⟩), .int .i64 (pos a cs.length i), .slice A cs.length cap, .int .i64 a, .func (.func 142) #[] #[.pointer (some ⟨w.heap.size + 4 + 1, 0, none⟩), .pointer (some ⟨w.heap.size + 4, 0, none⟩)], .int .i64 (pos a cs.length i), undef, undef, undef, undef, undef, undef, undef, undef, undef, undef, undef, undef, undef, undef, undef, undef], defers := [] })
    hM hMx (fun W1 hb hsz => hM.below (by omega) HS.out (hb.mono (Nat.le_refl _))) ?assign ?body ?done ?stop
  case assign =>
    intro l i W _
    dsimp only [encP]
    gi_wp2
    exact ⟨trivial, trivial⟩
  case body =>
    rintro l i a' W hi rfl hS hsz
    obtain ⟨hil, h0'⟩ := hS
    obtain ⟨A', cap', e, hcs⟩ := HA.out
    cases e
    obtain ⟨b1, o1, rfl, ca⟩ := hcs h0
    have hp := pos_lt a h0 i
    have ca' := (hi.below.cell (cell_lt (ca _ hp))).trans (ca _ hp)
    rw [pv_eq] at ca'
    have ad1 : (⟨b1, o1, none⟩ : Addr).add (pos a cs.length i) = ⟨b1, o1 + pos a cs.length i, none⟩ := by unfold Addr.add; split <;> simp_all
    have hp' : (pos a cs.length i : Int) < (cs.length : Int) := by omega
    obtain ⟨c0, -⟩ := one_cell hi.bt
    obtain ⟨c1, -⟩ := one_cell hi.ba
    have c2 : W.cell? ⟨w.heap.size + 1 + 1, 0, none⟩ = some (.int .i64 (accF cs a i)) := (one_cell hi.bc).1
    have f2 : W.frozen? ⟨w.heap.size + 1 + 1, 0, none⟩ = false := (one_cell hi.bc).2
    have c3 : W.cell? ⟨w.heap.size + 1 + 1 + 1, 0, none⟩ = some (.bool false) := (one_cell hi.bi).1
    have f3 : W.frozen? ⟨w.heap.size + 1 + 1 + 1, 0, none⟩ = false := (one_cell hi.bi).2
    have HI := Lib.hid hi
    have H0 := Lib.hid h0'
    have hrx := HR.out _ (pv_mem h0 a i)
    have c3' : ∀ u, (W.setCell ⟨w.heap.size + 1 + 1, 0, none⟩ u).cell? ⟨w.heap.size + 1 + 1 + 1, 0, none⟩ = some (.bool false) := fun u => (World.cell?_setCell_other _ _ _ _ (by simp)).trans c3
    have f3' : ∀ u, (W.setCell ⟨w.heap.size + 1 + 1, 0, none⟩ u).frozen? ⟨w.heap.size + 1 + 1 + 1, 0, none⟩ = false := fun u => (one_cell (set_far (i := 0) (b := w.heap.size + 1 + 1) (c := w.heap.size + 1 + 1 + 1) u (by omega) HI.out.bi)).2
    have HM := Lib.hid hM
    clear hi h0' ca hM hMx HS hcs
    obtain ⟨x, hx⟩ : ∃ x, pv cs a i = x := ⟨_, rfl⟩
    have HX := Lib.hid hx
    rw [hx] at ca' hrx
    clear hx
    have hB : w.heap.size + 1 + 1 < w.heap.size + 6 := by omega
    have hB3 : w.heap.size + 1 + 1 + 1 < w.heap.size + 6 := by omega
    by_cases h1 : x = a
    · have q0 : (x == a) = true := by simpa using h1
      have T := Lib.hid h1
      clear h1
      gi_wp2
      exact ⟨((KeptR.refl _ _ _).set _ _ _ hB).set _ _ _ hB3, HI.out.found hil (HX.out.trans T.out) H0.out⟩
    have q0 : (x == a) = false := by simpa using h1
    have T := Lib.hid (show pv cs a i ≠ a by rw [HX.out]; exact h1)
    by_cases h2 : 0 < x
    · have q1 : (x == -1) = false := by simp; omega
      have q2 : (x == 0) = false := by simp; omega
      have AC := Lib.hid (acc_stay HZ.out (a := a) (i := i) (.inl (by rw [HX.out]; exact h2)))
      clear h1 h2
      gi_wp2
      exact ⟨KeptR.refl _ _ _, HI.out.stay T.out AC.out⟩
    by_cases h3 : freeI cs a < i
    · have AC := Lib.hid (acc_stay HZ.out (a := a) (i := i) (.inr h3))
      have e3 := acc_free h3
      rw [e3] at c2
      have q3 : (((pos a cs.length (freeI cs a) : Nat) : Int) == -1) = false := by simp
      generalize pos a cs.length (freeI cs a) = pf at *
      by_cases h4 : x = 0
      · have q1 : (x == -1) = false := by simp; omega
        have q2 : (x == 0) = true := by simpa using h4
        clear h1 h2 h3 h4 e3
        gi_wp2
        exact ⟨KeptR.refl _ _ _, HI.out.stay T.out AC.out⟩
      · have q1 : (x == -1) = true := by simp; omega
        clear h1 h2 h3 h4 e3
        gi_wp2
        exact ⟨KeptR.refl _ _ _, HI.out.stay T.out AC.out⟩
    · obtain ⟨e3, e4⟩ := acc_take (a := a) (i := i) (by rw [HX.out]; omega) h3
      rw [e3] at c2
      have AC := Lib.hid e4
      by_cases h4 : x = 0
      · have q1 : (x == -1) = false := by simp; omega
        have q2 : (x == 0) = true := by simpa using h4
        clear h1 h2 h3 h4 e3 e4
        gi_wp2
        exact ⟨(KeptR.refl _ _ _).set _ _ _ hB, HI.out.store T.out _ AC.out⟩
      · have q1 : (x == -1) = true := by simp; omega
        clear h1 h2 h3 h4 e3 e4
        gi_wp2
        exact ⟨(KeptR.refl _ _ _).set _ _ _ hB, HI.out.store T.out _ AC.out⟩
  case done =>
    intro i W hE hi hK
    obtain ⟨r1, r2⟩ := find_done HZ.out hE hi.no
    have b2 := hi.bc
    have b3 := hi.bi
    rw [r2] at b2
    have R1 := Lib.hid r1
    obtain ⟨R, hR⟩ : ∃ R, findF cs a = R := ⟨_, rfl⟩
    rw [hR] at b2
    have R2 := Lib.hid hR
    clear r1 r2 hE hR
    have c2 : W.cell? ⟨w.heap.size + 1 + 1, 0, none⟩ = some (.int .i64 R) := (one_cell b2).1
    have f2 : W.frozen? ⟨w.heap.size + 1 + 1, 0, none⟩ = false := (one_cell b2).2
    have c3 : W.cell? ⟨w.heap.size + 1 + 1 + 1, 0, none⟩ = some (.bool false) := (one_cell b3).1
    have f3 : W.frozen? ⟨w.heap.size + 1 + 1 + 1, 0, none⟩ = false := (one_cell b3).2
    have B2 := Lib.hid b2
    have B3 := Lib.hid b3
    have HI := Lib.hid hi
    have HK := Lib.hid hK
    clear hi hK b2 b3 HS hM hMx HR HZ HA
    gi_wp2
    refine wpIn_wide.2 ?_
    go_region
    obtain ⟨X, hX⟩ : ∃ X, X = ((W.setCell ⟨w.heap.size + 1 + 1, 0, none⟩ (.int .i64 R)).setCell ⟨w.heap.size + 1 + 1 + 1, 0, none⟩ (.bool false)).drew := ⟨_, rfl⟩
    obtain ⟨x1, x2, x3, x4⟩ := find_end w1.heap.size B2.out B3.out HI.out.below HK.out (by omega) X hX
    rw [← hX]
    have X1 := Lib.hid x1
    have X4 := Lib.hid x4
    clear hX x1 x4
    gi_wp2
    rw [Exit.noGoto_ret]
    refine ⟨by simp, .inl ⟨_, _, rfl, run_takeDeferred X1.out, ?_⟩⟩
    exact ⟨.tuple #[.int .i64 R, .bool false], by simp [results, Tryz.f119, go_sem, x2, x3], by rw [R1.out, R2.out], X4.out⟩
  case stop =>
    intro W hi hK
    obtain ⟨k, hk, hk2, hk3, b2⟩ := hi.at_
    have b3 := hi.bi
    obtain ⟨r1, r2⟩ := find_stop hk hk2 hk3
    obtain ⟨R, hR⟩ : ∃ R, (pos a cs.length k : Int) = R := ⟨_, rfl⟩
    rw [hR] at r2 b2
    have R1 := Lib.hid r1
    have R2 := Lib.hid r2
    clear r1 r2 hk hk2 hk3 hR
    have c2 : W.cell? ⟨w.heap.size + 1 + 1, 0, none⟩ = some (.int .i64 R) := (one_cell b2).1
    have f2 : W.frozen? ⟨w.heap.size + 1 + 1, 0, none⟩ = false := (one_cell b2).2
    have c3 : W.cell? ⟨w.heap.size + 1 + 1 + 1, 0, none⟩ = some (.bool true) := (one_cell b3).1
    have f3 : W.frozen? ⟨w.heap.size + 1 + 1 + 1, 0, none⟩ = false := (one_cell b3).2
    have B2 := Lib.hid b2
    have B3 := Lib.hid b3
    have HI := Lib.hid hi
    have HK := Lib.hid hK
    clear hi hK b2 b3 HS hM hMx HR HZ HA
    gi_wp2
    refine wpIn_wide.2 ?_
    go_region
    obtain ⟨X, hX⟩ : ∃ X, X = ((W.setCell ⟨w.heap.size + 1 + 1, 0, none⟩ (.int .i64 R)).setCell ⟨w.heap.size + 1 + 1 + 1, 0, none⟩ (.bool true)).drew := ⟨_, rfl⟩
    obtain ⟨x1, x2, x3, x4⟩ := find_end w1.heap.size B2.out B3.out HI.out.below HK.out (by omega) X hX
    rw [← hX]
    have X1 := Lib.hid x1
    have X4 := Lib.hid x4
    clear hX x1 x4
    gi_wp2
    rw [Exit.noGoto_ret]
    refine ⟨by simp, .inl ⟨_, _, rfl, run_takeDeferred X1.out, ?_⟩⟩
    exact ⟨.tuple #[.int .i64 R, .bool true], by simp [results, Tryz.f119, go_sem, x2, x3], by rw [R1.out, R2.out], X4.out⟩
end YtjkphacidpongaaGreat
end Go.Proofs
