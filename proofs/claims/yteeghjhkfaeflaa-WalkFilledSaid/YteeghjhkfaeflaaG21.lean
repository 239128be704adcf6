/- The stretch's check; the closure that recovers; the maker of the iterator. -/
import Derived.Test.YteeghjhkfaeflaaG20
namespace Go.Proofs
namespace Yteeghjhkfaeflaa
open Go.RowKit
attribute [local go_sem] Oper.semAt_some

set_option maxRecDepth 100000 in
set_option maxHeartbeats 400000 in
theorem check49 (v : Value) (ws : List Int) (f t : Int) (w : World) (h : Ar w v ws) :
    Calls Try.prog 49 #[.agg #[v, .int .i64 f, .int .i64 t]] w fun e w' => e = .returned (.int .i64 (strF ws f t)) ∧ Below w.heap.size w w' := by
  have hm := h.len
  have C := Lib.hid (fun W (hb : Below w.heap.size w W) => check41 v ws W (h.at_.below hb) hm)
  obtain ⟨A, cap, rfl, h1, h2⟩ := h.open
  clear h h1
  have hB := Lib.hid (alloc_below w (.cells #[.slice A ws.length cap, .int .i64 f, .int .i64 t] 65))
  by_cases hc : chkF ws = 0
  rotate_left
  · have e1 : strF ws f t = chkF ws := by unfold strF; rw [if_pos hc]
    rw [e1]
    generalize chkF ws = c at *
    have q : (c != 0) = true := by simpa using hc
    clear hc e1
    go_enter Try.func49, Try.ntmps49
    go_wp2_with (go_at_call 69; refine (C.out _ hB.out).mono ?_; rintro e w1 ⟨rfl, rfl⟩)
    go_ret
    exact ⟨rfl, hB.out⟩
  rw [hc] at C
  by_cases h3 : f < 1
  · have e1 : strF ws f t = 7 := by unfold strF; rw [if_neg (by simp [hc]), if_pos (by omega)]
    rw [e1]
    have q : decide (f < 1) = true := decide_eq_true h3
    clear hc e1
    go_enter Try.func49, Try.ntmps49
    go_wp2_with (go_at_call 69; refine (C.out _ hB.out).mono ?_; rintro e w1 ⟨rfl, rfl⟩)
    go_ret
    exact ⟨rfl, hB.out⟩
  have q : decide (f < 1) = false := decide_eq_false h3
  by_cases h4 : t < f
  · have e1 : strF ws f t = 7 := by unfold strF; rw [if_neg (by simp [hc]), if_pos (by omega)]
    rw [e1]
    have q2 : decide (t < f) = true := decide_eq_true h4
    clear hc e1
    go_enter Try.func49, Try.ntmps49
    go_wp2_with (go_at_call 69; refine (C.out _ hB.out).mono ?_; rintro e w1 ⟨rfl, rfl⟩)
    go_ret
    exact ⟨rfl, hB.out⟩
  have q2 : decide (t < f) = false := decide_eq_false h4
  by_cases h5 : (ws.length : Int) < t
  · have e1 : strF ws f t = 7 := by unfold strF; rw [if_neg (by simp [hc]), if_pos (by omega)]
    rw [e1]
    have q3 : decide ((ws.length : Int) < t) = true := decide_eq_true h5
    clear hc e1
    go_enter Try.func49, Try.ntmps49
    go_wp2_with (go_at_call 69; refine (C.out _ hB.out).mono ?_; rintro e w1 ⟨rfl, rfl⟩)
    go_ret
    exact ⟨rfl, hB.out⟩
  · have e1 : strF ws f t = 0 := by unfold strF; rw [if_neg (by simp [hc]), if_neg (by omega)]
    rw [e1]
    have q3 : decide ((ws.length : Int) < t) = false := decide_eq_false h5
    clear hc e1
    go_enter Try.func49, Try.ntmps49
    go_wp2_with (go_at_call 69; refine (C.out _ hB.out).mono ?_; rintro e w1 ⟨rfl, rfl⟩)
    go_ret
    exact ⟨rfl, hB.out⟩
theorem all59 (v : Value) (f t : Int) (w : World) : Calls Try.prog 59 #[.agg #[v, .int .i64 f, .int .i64 t]] w fun e w' => e = .returned (.func (.func 77) #[] #[.pointer (some ⟨w.heap.size, 0, none⟩)]) ∧ w' = w.alloc (.cells #[v, .int .i64 f, .int .i64 t] 65) := by
  go_enter Try.func59, Try.ntmps59
  go_wp2
  go_ret
  exact ⟨rfl, rfl⟩
theorem assert_yes (a : Int) (w : World) : (Instr.typeAssert (.iface 88 (.int .i64 a)) 20 88 true).run Try.prog w = .ok (.tuple #[.int .i64 a, .bool true]) w := by kernel_rfl
theorem assert_no (w : World) : (Instr.typeAssert .nilIface 20 88 true).run Try.prog w = .ok (.tuple #[.int .i64 0, .bool false]) w := by kernel_rfl
set_option maxRecDepth 100000 in
theorem catch_gap (n : Nat) (p q : Addr) (a x y : Int) (older : List PanicEntry) (w : World) (hc : w.cell? p = some (.int .i64 x)) (hz : w.frozen? p = false) (hd : w.cell? q = some (.int .i64 y)) (hy : w.frozen? q = false)
    (hne : p.block ≠ q.block) :
    CallsDIn Fence.wide n Try.prog 58 #[.pointer (some p), .pointer (some q)] (.panicking ({ v := .iface 88 (.int .i64 a), recovered := false } :: older)) w fun e u' w' =>
      e = .returned (.tuple #[]) ∧ u' = .panicking ({ v := .iface 88 (.int .i64 a), recovered := true } :: older) ∧ w' = (w.setCell p (.int .i64 a)).setCell q (.int .i64 6) := by
  have hd2 : (w.setCell p (.int .i64 a)).cell? q = some (.int .i64 y) := by rw [World.cell?_setCell_other]; exact hd; intro e; exact hne (by rw [e])
  refine callsDIn_of_wpSIn Try.func58 rfl trivial fun c₀ cs hu => ?_
  apply wpSIn_seq
  apply wpSIn_region
  simp [wpOpsSIn, go_sem, recoverD, hu, Try.ntmps58, Exit.thenS, assert_yes]
  apply wpSIn_seq
  apply wpSIn_region
  simp [wpOpsSIn, go_sem, Exit.thenS]
  refine wpSIn_cond (t := true) (by simp [Act.eval, Array.replicate]) ?_
  simp only [if_true]
  apply wpSIn_region
  simp [wpOpsSIn, go_sem, hc, hz, hd2, hy, bodyPostS, results, Try.results58]
set_option maxRecDepth 100000 in
theorem catch_none (n : Nat) (p q : Addr) (w : World) :
    CallsDIn Fence.wide n Try.prog 58 #[.pointer (some p), .pointer (some q)] .returning w fun e u' w' => e = .returned (.tuple #[]) ∧ u' = .returning ∧ w' = w := by
  refine callsDIn_of_wpSIn Try.func58 rfl trivial fun c₀ cs hu => ?_
  apply wpSIn_seq
  apply wpSIn_region
  simp [wpOpsSIn, go_sem, recoverD, hu, Try.ntmps58, Exit.thenS, assert_no]
  apply wpSIn_seq
  apply wpSIn_region
  simp [wpOpsSIn, go_sem, Exit.thenS]
  refine wpSIn_cond (t := false) (by simp [Act.eval, Array.replicate]) ?_
  simp only [Bool.false_eq_true, if_false]
  refine wpSIn_of_wpIn rfl (wpIn_skip ?_)
  cases c₀
  simp_all [bodyPostS, results, Try.results58]
end Yteeghjhkfaeflaa
end Go.Proofs
/- A walk that does something with each object, and returns where one is missing. -/
namespace Go.Proofs
namespace Yteeghjhkfaeflaa
open Go.RowKit
attribute [local go_sem] Oper.semAt_some

/-- the walk's own boxes -/
structure EB (B b : Nat) (v : Value) (f t : Int) (gd : Nat) (lb : Array Value) (W : World) : Prop where
  do_ : W.heap[B + 1]? = some (.cells #[.func (.func gd) #[] lb] 67 (0, 0))
  at_ : W.heap[B + 2]? = some (.cells #[.int .i64 0] 3 (0, 0))
  er : W.heap[B + 3]? = some (.cells #[.int .i64 0] 26 (0, 0))
  bx : W.heap[b]? = some (.cells #[v, .int .i64 f, .int .i64 t] 65 (0, 0))
theorem EB.step {B b : Nat} {v : Value} {f t : Int} {gd : Nat} {lb : Array Value} {W W' : World} (h : EB B b v f t gd lb W) (hk : ∀ k, k < W.heap.size → (k = B + 1 ∨ k = B + 2 ∨ k = B + 3 ∨ k = b) → W'.heap[k]? = W.heap[k]?) : EB B b v f t gd lb W' := by
  have lt : ∀ {k : Nat} {o : Obj}, W.heap[k]? = some o → k < W.heap.size := fun h => (Array.getElem?_eq_some_iff.1 h).1
  exact ⟨(hk _ (lt h.do_) (by simp)).trans h.do_, (hk _ (lt h.at_) (by simp)).trans h.at_, (hk _ (lt h.er) (by simp)).trans h.er, (hk _ (lt h.bx) (by simp)).trans h.bx⟩
theorem one_cell {W : World} {g : Nat} {x : Value} {t : TypeId} (h : W.heap[g]? = some (.cells #[x] t (0, 0))) : W.cell? ⟨g, 0, none⟩ = some x ∧ W.frozen? ⟨g, 0, none⟩ = false := by
  refine ⟨?_, frozen_of_row _ _ _ _ _ h⟩; rw [cell_of_row _ _ _ _ _ _ h]; rfl
theorem four_boxes (w : World) (o0 o1 o2 o3 : Obj) : (((w.alloc o0).alloc o1).alloc o2).alloc o3 = (((w.alloc o0).alloc o1).alloc o2).alloc o3 ∧
    ((((w.alloc o0).alloc o1).alloc o2).alloc o3).heap[w.heap.size]? = some o0 ∧ ((((w.alloc o0).alloc o1).alloc o2).alloc o3).heap[w.heap.size + 1]? = some o1 ∧
    ((((w.alloc o0).alloc o1).alloc o2).alloc o3).heap[w.heap.size + 2]? = some o2 ∧ ((((w.alloc o0).alloc o1).alloc o2).alloc o3).heap[w.heap.size + 3]? = some o3 ∧
    ((((w.alloc o0).alloc o1).alloc o2).alloc o3).heap.size = w.heap.size + 4 ∧ Below w.heap.size w ((((w.alloc o0).alloc o1).alloc o2).alloc o3) := by
  refine ⟨rfl, ?_, ?_, ?_, ?_, by simp, ?_⟩
  · rw [Below.heap_alloc _ _ _ (by simp; omega), Below.heap_alloc _ _ _ (by simp; omega), Below.heap_alloc _ _ _ (by simp)]; exact World.alloc_heap_new w o0
  · rw [Below.heap_alloc _ _ _ (by simp), Below.heap_alloc _ _ _ (by simp)]; have := World.alloc_heap_new (w.alloc o0) o1; rwa [World.size_alloc] at this
  · rw [Below.heap_alloc _ _ _ (by simp)]; have := World.alloc_heap_new ((w.alloc o0).alloc o1) o2; simpa only [World.size_alloc] using this
  · have := World.alloc_heap_new (((w.alloc o0).alloc o1).alloc o2) o3; simpa only [World.size_alloc] using this
  · exact ((((Below.refl _ _).alloc (Nat.le_refl _) _).alloc (by simp) _).alloc (by simp; omega) _).alloc (by simp; omega) _

theorem set_two {B : Nat} {W : World} {x0 y0 : Value} {t u : TypeId} (h2 : W.heap[B + 2]? = some (.cells #[x0] t (0, 0))) (h3 : W.heap[B + 3]? = some (.cells #[y0] u (0, 0))) (x y : Value) :
    ((W.setCell ⟨B + 1 + 1, 0, none⟩ x).setCell ⟨B + 1 + 1 + 1, 0, none⟩ y).cell? ⟨B + 1 + 1, 0, none⟩ = some x ∧
    ((W.setCell ⟨B + 1 + 1, 0, none⟩ x).setCell ⟨B + 1 + 1 + 1, 0, none⟩ y).cell? ⟨B + 1 + 1 + 1, 0, none⟩ = some y ∧
    ∀ w : World, w.heap.size = B → Below B w W → Below B w ((W.setCell ⟨B + 1 + 1, 0, none⟩ x).setCell ⟨B + 1 + 1 + 1, 0, none⟩ y) := by
  obtain ⟨c2, -⟩ := one_cell h2
  obtain ⟨c3, -⟩ := one_cell h3
  refine ⟨?_, ?_, fun w _ hB => (hB.setCell (p := ⟨B + 1 + 1, 0, none⟩) (show B ≤ B + 1 + 1 by omega) x).setCell (p := ⟨B + 1 + 1 + 1, 0, none⟩) (show B ≤ B + 1 + 1 + 1 by omega) y⟩
  · rw [World.cell?_setCell_other _ _ _ _ (by simp)]; exact World.cell?_setCell_same _ _ _ c2
  · exact World.cell?_setCell_same _ _ _ ((World.cell?_setCell_other _ _ _ _ (by simp)).trans c3)
theorem put_cell {W : World} {a : Addr} {v : Value} (l : Nat) (o : Obj) (hne : a.block ≠ l) (h : W.cell? a = some v) : (W.putObj l o).cell? a = some v :=
  (World.cell?_of_block (World.putObj_heap_other hne)).trans h
theorem end_ret {o : Option Int} {v : Value} (h : EndW o (.returned v)) : o = none := by
  cases o with
  | none => rfl
  | some a => exact h.elim
theorem end_pan {o : Option Int} {ch : List PanicEntry} (h : EndW o (.panicked ch)) : ∃ a, o = some a ∧ ch = [{ v := .iface 88 (.int .i64 a), recovered := false }] := by
  cases o with
  | none => exact h.elim
  | some a => exact ⟨a, rfl, h⟩
/-- what is asked of what is done with an object -/
structure DoIt (v : Value) (ws : List Int) (xs : List Int) (gd : Nat) (lb : Array Value) (I : Nat → List Int → World → Prop) (w : World) : Prop where
  start : ∀ C W, Below w.heap.size w W → w.heap.size ≤ C → C ≤ W.heap.size → I C [] W
  minds : ∀ C, MindsR w.heap.size C (I C)
  ar : ∀ C pre W, I C pre W → Ar W v ws
  go : ∀ C pre x W, I C pre W → pre ++ [x] <+: xs → w.heap.size ≤ C → C ≤ W.heap.size → Calls Try.prog gd (#[.int .i64 x] ++ lb) W fun e W' => e = .returned (.tuple #[]) ∧ I C (pre ++ [x]) W' ∧ KeptR w.heap.size C W W'

set_option maxRecDepth 100000 in
set_option maxHeartbeats 1000000 in
theorem each36_err (v : Value) (ws : List Int) (f t : Int) (gd : Nat) (lb : Array Value) (w : World) (hA : Ar w v ws) (hs : strF ws f t ≠ 0) :
    Calls Try.prog 36 #[.agg #[v, .int .i64 f, .int .i64 t], .func (.func gd) #[] lb] w fun e w' => e = .returned (.tuple #[.int .i64 0, .int .i64 (strF ws f t)]) ∧ Below w.heap.size w w' := by
  have C := Lib.hid (fun W (hb : Below w.heap.size w W) => check49 v ws f t W (hA.below hb))
  obtain ⟨-, k0, k1, k2, k3, k4, k5⟩ := four_boxes w (.cells #[v, .int .i64 f, .int .i64 t] 65) (.cells #[.func (.func gd) #[] lb] 67) (.cells #[.int .i64 0] 3) (.cells #[.int .i64 0] 26)
  generalize strF ws f t = c at *
  have q : (c != 0) = true := by simpa using hs
  have K2 := Lib.hid k2
  have K3 := Lib.hid k3
  have K5 := Lib.hid k5
  have K4 := Lib.hid k4
  have K0 := Lib.hid k0
  clear hA hs k0 k1 k2 k3 k4 k5
  refine callsIn_wide.1 (callsIn_of_wp_marks (n := 9) Try.func36 rfl trivial ?_ rfl)
  simp only [Try.ntmps36, List.size_toArray, List.length_cons, List.length_nil, Nat.reduceAdd, Nat.reduceSub, Array.replicate_succ, Array.replicate_zero, List.push_toArray, List.append_toArray, List.nil_append, List.cons_append]
  gi_wp2_with (refine ⟨trivial, ?_⟩; gi_at_call 49; refine (callsIn_wide.2 (C.out _ K5.out)).mono ?_; rintro e w1 ⟨rfl, hb1⟩; have P2 := Lib.hid (keep_heap hb1 K2.out); have P3 := Lib.hid (keep_heap hb1 K3.out); obtain ⟨p2, f2⟩ := one_cell P2.out; obtain ⟨p3, f3⟩ := one_cell P3.out; have B1 := Lib.hid (below_end K5.out hb1); clear hb1 K0 K2 K3 K4 K5)
  obtain ⟨t2, t3, hx⟩ := set_two P2.out P3.out (.int .i64 0) (.int .i64 c)
  have HX := Lib.hid (hx w rfl B1.out)
  clear hx p2 f2 p3 f3 P2 P3 B1
  refine ⟨.tuple #[.int .i64 0, .int .i64 c], by simp [results, Try.f36, go_sem, t2, t3], rfl, HX.out⟩
/-- the loop's own share of what holds between two rounds -/
structure LW (B b C : Nat) (v : Value) (f t : Int) (gd : Nat) (lb : Array Value) (I : Nat → List Int → World → Prop) (pre : List Int) (W : World) : Prop where
  inv : I C pre W
  eb : EB B b v f t gd lb W
  size : C ≤ W.heap.size
theorem LW.turn {B b C : Nat} {v : Value} {f t : Int} {gd : Nat} {lb : Array Value} {I : Nat → List Int → World → Prop} {pre : List Int} {W W' : World} {r : Nat} (h : LW B b C v f t gd lb I pre W)
    (hI : MindsR B C (I C)) (hb : B + 3 < b) (hr : b < r) (hrC : r < C) (hg : W.grownBy W' (some r)) : LW B b C v f t gd lb I pre W' :=
  ⟨hI _ _ _ r (by omega) hrC h.inv hg, h.eb.step (fun k hk hk2 => hg.block k hk (fun e => by injection e with e; omega)), Nat.le_trans h.size hg.size⟩
theorem LW.out {B b C : Nat} {v : Value} {f t : Int} {gd : Nat} {lb : Array Value} {I : Nat → List Int → World → Prop} {pre : List Int} {W : World} (h : LW B b C v f t gd lb I pre W)
    (hI : MindsR B C (I C)) (hb : B + 3 < b) (hbC : b < C) (x y : Value) : I C pre ((W.setCell ⟨B + 1 + 1, 0, none⟩ x).setCell ⟨B + 1 + 1 + 1, 0, none⟩ y) :=
  hI _ _ _ (B + 1 + 1 + 1) (by omega) (by omega) (hI _ _ _ (B + 1 + 1) (by omega) (by omega) h.inv (grown_set W _ 0 x)) (grown_set _ _ 0 y)
set_option maxRecDepth 100000 in
set_option maxHeartbeats 2000000 in
theorem each36_ok (v : Value) (ws : List Int) (f t : Int) (gd : Nat) (lb : Array Value) (I : Nat → List Int → World → Prop) (w : World) (hA : Ar w v ws) (hs : strF ws f t = 0)
    (eg : ∀ args w, (callFunc gd args).run Try.prog w = .ok (.enter gd args) w) (hD : DoIt v ws (visL ws f t) gd lb I w) :
    Calls Try.prog 36 #[.agg #[v, .int .i64 f, .int .i64 t], .func (.func gd) #[] lb] w fun e w' => e = .returned (.tuple #[.int .i64 (wcF ws f t).1, .int .i64 (wcF ws f t).2]) ∧ ∃ C, I C (visL ws f t) w' := by
  have C := Lib.hid (fun W (hb : Below w.heap.size w W) => check49 v ws f t W (hA.below hb))
  obtain ⟨-, k0, k1, k2, k3, k4, k5⟩ := four_boxes w (.cells #[v, .int .i64 f, .int .i64 t] 65) (.cells #[.func (.func gd) #[] lb] 67) (.cells #[.int .i64 0] 3) (.cells #[.int .i64 0] 26)
  have ev : visL ws f t = (wlk ws f t).1 := by unfold visL; rw [if_pos hs]
  have ew : wcF ws f t = gapE (wlk ws f t).2 := by unfold wcF; rw [if_pos hs]
  rw [ev, ew]
  rw [ev] at hD
  rw [hs] at C
  have HD := Lib.hid hD
  have HA := Lib.hid hA
  have HS := Lib.hid hs
  have EG := Lib.hid eg
  have K0 := Lib.hid k0
  have K1 := Lib.hid k1
  have K2 := Lib.hid k2
  have K3 := Lib.hid k3
  have K4 := Lib.hid k4
  have K5 := Lib.hid k5
  clear hA hs k0 k1 k2 k3 k4 k5 eg hD ev ew
  refine callsIn_wide.1 (callsIn_of_wp_marks (n := 9) Try.func36 rfl trivial ?_ rfl)
  simp only [Try.ntmps36, List.size_toArray, List.length_cons, List.length_nil, Nat.reduceAdd, Nat.reduceSub, Array.replicate_succ, Array.replicate_zero, List.push_toArray, List.append_toArray, List.nil_append, List.cons_append]
  gi_wp2_with (first
    | (refine ⟨trivial, ?_⟩; gi_at_call 49; refine (callsIn_wide.2 (C.out _ K5.out)).mono ?_; rintro e w1 ⟨rfl, hb1⟩; have P0 := Lib.hid (keep_heap hb1 K0.out); have P1 := Lib.hid (keep_heap hb1 K1.out); have P2 := Lib.hid (keep_heap hb1 K2.out); have P3 := Lib.hid (keep_heap hb1 K3.out); obtain ⟨p0, p1, p2⟩ := three_cells P0.out; have B1 := Lib.hid (below_end K5.out hb1); have Z1 := Lib.hid (show w.heap.size + 4 ≤ w1.heap.size by have := hb1.size; rw [K4.out] at this; exact this); clear hb1 K0 K1 K2 K3 K4 K5)
    | (refine ⟨trivial, ?_⟩; gi_at_call 59; refine (callsIn_wide.2 (all59 v f t _)).mono ?_; rintro e w2 ⟨rfl, rfl⟩))
  have hb : w1.heap.size < (w1.alloc (.cells #[v, .int .i64 f, .int .i64 t] 65)).heap.size := by simp
  have hz : (w1.alloc (.cells #[v, .int .i64 f, .int .i64 t] 65)).heap.size = w1.heap.size + 1 := by simp
  have hBx := World.alloc_heap_new w1 (.cells #[v, .int .i64 f, .int .i64 t] 65)
  have hB2 := alloc_below w1 (.cells #[v, .int .i64 f, .int .i64 t] 65)
  have hEB : EB w.heap.size w1.heap.size v f t gd lb (w1.alloc (.cells #[v, .int .i64 f, .int .i64 t] 65)) := ⟨keep_heap hB2 P1.out, keep_heap hB2 P2.out, keep_heap hB2 P3.out, hBx⟩
  have hBw := below_end B1.out hB2
  have hZ := Z1.out
  generalize w1.alloc (.cells #[v, .int .i64 f, .int .i64 t] 65) = W0 at *
  have HEB := Lib.hid hEB
  have HBw := Lib.hid hBw
  clear hBx hB2 hEB hBw P0 P1 P2 P3 p0 p1 p2 B1 Z1 C
  have hM := HD.out.minds (W0.heap.size + 2)
  refine range_walk (w := W0) (n := 9) (by omega) (gf := 77) (lb := #[.pointer (some ⟨w1.heap.size, 0, none⟩)]) rfl (enters_of Try.func77 (by kernel_rfl) rfl) (encs := encI) (xs := (wlk ws f t).1) (E := EndW (wlk ws f t).2) (G := fun W => StrAt W w1.heap.size v ws f t)
    (by cases (wlk ws f t).2 <;> exact id)
    (fun W1 hb hsz l J hG hJ hY h0 => callsIn_wide.2 (iter77 8 (by omega) v ws f t HS.out _ l J W1 hG hJ hY h0)) (fun _ => rfl) (LW w.heap.size w1.heap.size (W0.heap.size + 2) v f t gd lb I)
    (fun pre W h => ⟨h.eb.bx, HD.out.ar _ _ _ h.inv⟩) (fun x a' => a' = { tmps := #[.agg #[v, .int .i64 f, .int .i64 t], .func (.func gd) #[] lb, .pointer (some ⟨w.heap.size, 0, none⟩), .pointer (some ⟨w.heap.size + 1, 0, none⟩), .pointer (some ⟨w.heap.size + 1 + 1, 0, none⟩), .pointer (some ⟨w.heap.size + 1 + 1 + 1, 0, none⟩), .int .i64 0, .int .i64 x, .agg #[v, .int .i64 f, .int .i64 t], .int .i64 0, .int .i64 0, .bool false, undef,
      .func (.func 58) #[] #[.pointer (some ⟨w.heap.size + 1 + 1, 0, none⟩), .pointer (some ⟨w.heap.size + 1 + 1 + 1, 0, none⟩)], .agg #[v, .int .i64 f, .int .i64 t], .func (.func 77) #[] #[.pointer (some ⟨w1.heap.size, 0, none⟩)], .int .i64 x, undef, undef, undef], defers := [] })
    (fun s W W' r h1 h2 h3 h4 => h3.turn hM (by omega) (by omega) h2 h4)
    (fun W1 hb hsz => ⟨HD.out.start _ W1 (below_end HBw.out hb) (by omega) (by omega), HEB.out.step (fun k hk _ => hb.block k hk), by omega⟩) ?assign ?body ?done ?panic
  case assign =>
    intro l pre x W _
    dsimp only [encI]
    gi_wp2
    exact ⟨trivial, trivial⟩
  case body =>
    rintro l pre x a' W hi rfl hpx hsz
    obtain ⟨c1, -⟩ := one_cell hi.eb.do_
    have GO := Lib.hid (HD.out.go _ pre x W hi.inv hpx (by omega) hsz)
    have HI := Lib.hid hi
    have hm : ∀ args w, (callFunc gd args).run Try.prog w = .ok (.enter gd args) w := EG.out
    have HZ := Lib.hid hz
    clear hi hM hz
    gi_wp2
    refine ⟨trivial, (CallsIn.inRound l (callsIn_wide.2 GO.out)).mono ?_⟩
    rintro e W' ⟨rfl, hi', hk'⟩
    gi_wp2
    have hz := HZ.out
    exact ⟨hk'.mono (by omega) (Nat.le_refl _), hi', HI.out.eb.step (fun k hk h => hk'.same k (by omega) (by omega) hk), Nat.le_trans HI.out.size hk'.size⟩
  case done =>
    intro x W hE hi hK
    have c2 : W.cell? ⟨w.heap.size + 1 + 1, 0, none⟩ = some (.int .i64 0) := (one_cell hi.eb.at_).1
    have f2 : W.frozen? ⟨w.heap.size + 1 + 1, 0, none⟩ = false := (one_cell hi.eb.at_).2
    have c3 : W.cell? ⟨w.heap.size + 1 + 1 + 1, 0, none⟩ = some (.int .i64 0) := (one_cell hi.eb.er).1
    have f3 : W.frozen? ⟨w.heap.size + 1 + 1 + 1, 0, none⟩ = false := (one_cell hi.eb.er).2
    have HI := Lib.hid hi
    have HK := Lib.hid hK
    have HE := Lib.hid hE
    clear hi hK hE
    gi_wp2
    have e2 := end_ret HE.out
    have hK2 : ((W.setCell ⟨w.heap.size + 1 + 1, 0, none⟩ (.int .i64 0)).setCell ⟨w.heap.size + 1 + 1 + 1, 0, none⟩ (.int .i64 0)).heap[W0.heap.size]? = some (.deferred (some [])) :=
      (Below.heap_setCell _ _ _ _ (by simp; omega)).trans ((Below.heap_setCell _ _ _ _ (by simp; omega)).trans HK.out)
    have hin := hM _ _ _ W0.heap.size (by omega) (by omega) (HI.out.out hM (by omega) (by omega) (.int .i64 0) (.int .i64 0)) (grownBy_putObj' _ W0.heap.size (.deferred none))
    obtain ⟨t2, t3, -⟩ := set_two HI.out.eb.at_ HI.out.eb.er (.int .i64 0) (.int .i64 0)
    have t2' := put_cell W0.heap.size (.deferred none) (by simp; omega) t2
    have t3' := put_cell W0.heap.size (.deferred none) (by simp; omega) t3
    refine ⟨by simp, .inl ⟨_, _, rfl, run_takeDeferred hK2, ?_⟩⟩
    generalize ((W.setCell ⟨w.heap.size + 1 + 1, 0, none⟩ (.int .i64 0)).setCell ⟨w.heap.size + 1 + 1 + 1, 0, none⟩ (.int .i64 0)).putObj W0.heap.size (.deferred none) = X at *
    refine ⟨by simp, .inr ⟨fun _ => by omega, .func 58, _, 58, #[.pointer (some ⟨w.heap.size + 1 + 1, 0, none⟩), .pointer (some ⟨w.heap.size + 1 + 1 + 1, 0, none⟩)], rfl, by simp [invoke, go_sem], fun _ _ => trivial, ?_⟩⟩
    refine (catch_none _ ⟨w.heap.size + 1 + 1, 0, none⟩ ⟨w.heap.size + 1 + 1 + 1, 0, none⟩ X).mono ?_
    rintro e u' w'' ⟨rfl, rfl, rfl⟩
    rw [e2]
    exact ⟨.tuple #[.int .i64 0, .int .i64 0], by simp [results, Try.f36, go_sem, t2', t3'], rfl, _, hin⟩
  case panic =>
    intro ch W hE hi hK
    obtain ⟨a, e2, rfl⟩ := end_pan hE
    have hEB2 : EB w.heap.size w1.heap.size v f t gd lb (W.putObj W0.heap.size (.deferred none)) := hi.eb.step (fun k hk h => World.putObj_heap_other (by omega))
    have hin := hM _ _ _ W0.heap.size (by omega) (by omega) hi.inv (grownBy_putObj' _ W0.heap.size (.deferred none))
    refine ⟨by simp, .inl ⟨_, _, rfl, run_takeDeferred hK, ?_⟩⟩
    generalize W.putObj W0.heap.size (.deferred none) = X at *
    obtain ⟨t2, t3, -⟩ := set_two hEB2.at_ hEB2.er (.int .i64 a) (.int .i64 6)
    have hout := hM _ _ _ (w.heap.size + 1 + 1 + 1) (by omega) (by omega) (hM _ _ _ (w.heap.size + 1 + 1) (by omega) (by omega) hin (grown_set X _ 0 (.int .i64 a))) (grown_set _ _ 0 (.int .i64 6))
    refine ⟨by simp, .inr ⟨fun _ => by omega, .func 58, _, 58, #[.pointer (some ⟨w.heap.size + 1 + 1, 0, none⟩), .pointer (some ⟨w.heap.size + 1 + 1 + 1, 0, none⟩)], rfl, by simp [invoke, go_sem], fun _ _ => trivial, ?_⟩⟩
    refine (catch_gap _ ⟨w.heap.size + 1 + 1, 0, none⟩ ⟨w.heap.size + 1 + 1 + 1, 0, none⟩ a 0 0 [] X (one_cell hEB2.at_).1 (one_cell hEB2.at_).2 (one_cell hEB2.er).1 (one_cell hEB2.er).2 (by simp)).mono ?_
    rintro e u' w'' ⟨rfl, rfl, rfl⟩
    rw [e2]
    exact ⟨.tuple #[.int .i64 a, .int .i64 6], by simp [results, Try.f36, go_sem, t2, t3], rfl, _, hout⟩
/-- a walk that does something with each object -/
theorem each36 (v : Value) (ws : List Int) (f t : Int) (gd : Nat) (lb : Array Value) (I : Nat → List Int → World → Prop) (w : World) (hA : Ar w v ws)
    (eg : ∀ args w, (callFunc gd args).run Try.prog w = .ok (.enter gd args) w) (hD : DoIt v ws (visL ws f t) gd lb I w) :
    Calls Try.prog 36 #[.agg #[v, .int .i64 f, .int .i64 t], .func (.func gd) #[] lb] w fun e w' => e = .returned (.tuple #[.int .i64 (wcF ws f t).1, .int .i64 (wcF ws f t).2]) ∧ ∃ C, I C (visL ws f t) w' := by
  by_cases hs : strF ws f t = 0
  · exact each36_ok v ws f t gd lb I w hA hs eg hD
  · refine (each36_err v ws f t gd lb w hA hs).mono ?_
    rintro e w' ⟨rfl, hb⟩
    unfold wcF visL
    rw [if_neg hs, if_neg hs]
    exact ⟨rfl, w.heap.size, hD.start _ w' hb (Nat.le_refl _) hb.size⟩
end Yteeghjhkfaeflaa
end Go.Proofs
