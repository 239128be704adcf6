/- The law ObjectsFields answers true. -/
import Derived.Test.YtmgoonahpndfoaaObL
import Derived.Test.YtmgoonahpndfoaaArRf
import Derived.Test.YtmgoonahpndfoaaObK
namespace Go.Proofs
namespace Ytmgoonahpndfoaa
open Go.RowKit

def fldV (a f t z : Int) : Value := .agg #[.int .i64 a, .int .i64 f, .int .i64 t, .int .u64 z]
set_option maxRecDepth 100000 in
set_option maxHeartbeats 400000 in
theorem set34 (v : Value) (ws : List Int) (a f t z : Int) (w : World) (h : Ar w v ws) (hz : 0 ≤ z ∧ z ≤ 18446744073709551615) :
    Calls Try.prog 34 #[v, fldV a f t z] w fun e w' => CAns w (setQ ws a f t z) e w' := by
  have F30 := Lib.hid (fun W (hb : Below w.heap.size w W) => setp30 v ws a f t W (h.below hb))
  have F32 := Lib.hid (fun W (hb : Below w.heap.size w W) => setr32 v ws a f z W (h.below hb))
  obtain ⟨A, cap, rfl, -, -⟩ := h.open
  obtain ⟨u0, u1⟩ := hz
  unfold fldV
  by_cases hp : z % 2 = 1
  · have T := Lib.hid (show setQ ws a f t z = srF ws a f z from if_pos hp)
    rw [T.out]
    have q : (z % 2 == 1) = true := by simpa using hp
    clear h hp T
    generalize srF ws a f z = R at *
    obtain ⟨r, c⟩ := R
    go_enter Try.func34, Try.ntmps34
    go_wp2_with (go_at_call 32; refine (F32.out _ (alloc_below w _)).mono ?_; rintro e w1 ⟨u, rfl, ho, hb1⟩)
    exact bodyPost_ret (v := .tuple #[u, .int .i64 c]) (by simp [results, Try.f34, go_sem]) rfl ⟨u, rfl, own_mono ho (alloc_below w (.cells #[.int .i64 a, .int .i64 f, .int .i64 t, .int .u64 z] 49)).size, below_end (alloc_below w _) hb1⟩
  · have T := Lib.hid (show setQ ws a f t z = spF ws a f t from if_neg hp)
    rw [T.out]
    have q : (z % 2 == 1) = false := by simpa using hp
    clear h hp T
    generalize spF ws a f t = R at *
    obtain ⟨r, c⟩ := R
    go_enter Try.func34, Try.ntmps34
    go_wp2_with (go_at_call 30; refine (F30.out _ (alloc_below w _)).mono ?_; rintro e w1 ⟨u, rfl, ho, hb1⟩)
    exact bodyPost_ret (v := .tuple #[u, .int .i64 c]) (by simp [results, Try.f34, go_sem]) rfl ⟨u, rfl, own_mono ho (alloc_below w (.cells #[.int .i64 a, .int .i64 f, .int .i64 t, .int .u64 z] 49)).size, below_end (alloc_below w _) hb1⟩
/-- a store to a cell that holds a number leaves an arena as it is -/
theorem ar_set {W : World} {v : Value} {ws : List Int} {g i : Nat} {x : Int} (h : Ar W v ws) (hg : W.cell? ⟨g, i, none⟩ = some (.int .i64 x)) (u : Value) : Ar (W.setCell ⟨g, i, none⟩ u) v ws := by
  obtain ⟨⟨A, cap, rfl, hA⟩, h2, h3, h4⟩ := h
  refine ⟨⟨A, cap, rfl, fun h0 => ?_⟩, h2, h3, h4⟩
  obtain ⟨b, off, rfl, hc⟩ := hA h0
  refine ⟨b, off, rfl, fun j y hy => ?_⟩
  have h1 := hc j y hy
  rw [World.cell?_setCell_other _ ⟨g, i, none⟩ ⟨b, off + j, none⟩ u (by
    intro e
    rw [← e, hg] at h1
    cases h1
    simp only [wc, List.getElem?_map] at hy
    cases hz : ws[j]? with
    | none => rw [hz] at hy; cases hy
    | some z => rw [hz] at hy; cases hy)]
  exact h1
theorem iat_nil {W : World} {l : Value} (h : IAt W l []) : ∃ A c, l = .slice A 0 c := by
  obtain ⟨A, c, rfl, _⟩ := h; exact ⟨A, c, rfl⟩
theorem iat_one {W : World} {l : Value} {x : Int} (h : IAt W l [x]) : ∃ b off c, l = .slice (some ⟨b, off, none⟩) 1 c ∧ W.cell? ⟨b, off, none⟩ = some (.int .i64 x) := by
  obtain ⟨A, c, rfl, hA⟩ := h
  obtain ⟨b, off, rfl, hc⟩ := hA (by simp)
  refine ⟨b, off, c, rfl, ?_⟩
  have := hc 0 (.int .i64 x) rfl
  rwa [Nat.add_zero] at this
theorem iat_any {W : World} {l : Value} {xs : List Int} (h : IAt W l xs) : ∃ A c, l = .slice A xs.length c := by
  obtain ⟨A, c, rfl, _⟩ := h; exact ⟨A, c, rfl⟩
/-- a call that answers numbers -/
def LAns (w : World) (rs : List Int) (e : Ending) (w' : World) : Prop := ∃ u, e = .returned (.tuple #[u, .int .i64 0]) ∧ Hid (IAt w' u rs) ∧ Below w.heap.size w w'
/-- a call of Differ on two arenas -/
theorem differ35 (v1 v2 : Value) (xs ys : List Int) (W : World) (h1 : Ar W v1 xs) (h2 : Ar W v2 ys) (c1 : chkF xs = 0) (c2 : chkF ys = 0) (hl : xs.length = ys.length) : Calls Try.prog 35 #[v1, v2] W fun e w' => LAns W (diffs 0 xs ys) e w' := by
  refine (rdiffer35 v1 v2 xs ys W h1.at_ h2.at_ h1.len h2.len).mono ?_
  rw [differ_one c1 c2 hl]
  rintro e w' ⟨u, rfl, ho, hb⟩
  exact ⟨u, rfl, Lib.hid (IAt.of_own ho), hb⟩
set_option maxRecDepth 100000 in
set_option maxHeartbeats 400000 in
theorem fields6_long (A : Option Addr) (n cap : Nat) (a f t z a' f' t' z' : Int) (w : World) (hn : 300 < n) (hm : n ≤ 9223372036854775807) :
    Calls Try.prog 6 #[.slice A n cap, fldV a f t z, fldV a' f' t' z'] w fun e w' => e = .returned (.bool true) ∧ Below w.heap.size w w' := by
  have q : decide ((300 : Int) < (n : Int)) = true := decide_eq_true (by omega)
  unfold fldV
  go_enter Try.func6, Try.ntmps6
  go_wp2_with (go_at_call 11; refine (awake11 _).mono ?_; rintro e w1 ⟨rfl, hb1⟩)
  exact bodyPost_ret (v := .bool true) (by simp [results, Try.f6, go_sem]) rfl ⟨rfl, below_end (below_end (alloc_below w _) (alloc_below _ _)) hb1⟩
set_option maxRecDepth 100000 in
set_option maxHeartbeats 400000 in
theorem fields6_err (A : Option Addr) (n cap : Nat) (a f t z a' f' t' z' E : Int) (w : World) (hn : n ≤ 300) (hE : E ≠ 0)
    (C1 : Hid (∀ W, Below w.heap.size w W → Calls Try.prog 34 #[.slice A n cap, fldV a f t z] W fun e w' => CAns W ([], E) e w')) :
    Calls Try.prog 6 #[.slice A n cap, fldV a f t z, fldV a' f' t' z'] w fun e w' => e = .returned (.bool true) ∧ Below w.heap.size w w' := by
  have q : decide ((300 : Int) < (n : Int)) = false := decide_eq_false (by omega)
  have q1 : (E != 0) = true := by simpa using hE
  unfold fldV at *
  clear hE
  go_enter Try.func6, Try.ntmps6
  go_wp2_with (first
    | (go_at_call 34; refine (C1.out _ (below_end (alloc_below w _) (alloc_below _ _))).mono ?_; rintro e w1 ⟨u, rfl, ho, hb1⟩; obtain ⟨A1, c1, rfl⟩ := own_nil ho; have B1 := Lib.hid (below_end (below_end (alloc_below w (.cells #[.int .i64 a, .int .i64 f, .int .i64 t, .int .u64 z] 49)) (alloc_below _ (.cells #[.int .i64 a', .int .i64 f', .int .i64 t', .int .u64 z'] 49))) hb1))
    | (go_at_call 11; refine (awake11 _).mono ?_; rintro e w2 ⟨rfl, hb2⟩))
  exact bodyPost_ret (v := .bool true) (by simp [results, Try.f6, go_sem]) rfl ⟨rfl, below_end B1.out hb2⟩
set_option maxRecDepth 100000 in
set_option maxHeartbeats 2000000 in
theorem fields6_odd_nil_yerr (A : Option Addr) (n cap : Nat) (a f t z a' f' t' z' : Int) (P R : Nat) (at_ : Int) (vs : List Int) (w : World) (hn : n ≤ 300) (hz : 0 ≤ z ∧ z ≤ 18446744073709551615) (hz' : 0 ≤ z' ∧ z' ≤ 18446744073709551615) (hp : z % 2 = 1) (ha : 1 ≤ a ∧ a ≤ 1601) (hf : 0 ≤ f ∧ f ≤ 63) (hP : P ≤ 63) (hat : a + 1 + f + (P : Int) = at_)
    (C1 : Hid (∀ W, Below w.heap.size w W → Calls Try.prog 34 #[.slice A n cap, fldV a f t z] W fun e w' => RAns W vs e w'))
    (C2 : Hid (∀ W u, Below w.heap.size w W → Ar W u vs → Calls Try.prog 35 #[.slice A n cap, u] W fun e w' => LAns W [] e w'))
    (C3 : Hid (∀ W, Below w.heap.size w W → Calls Try.prog 15 #[.slice A n cap, .int .i64 a] W fun e w' => e = .returned (.tuple #[.agg #[.int .i64 P, .int .i64 R], .int .i64 0]) ∧ Below W.heap.size W w'))
    (C4 : Hid (∀ W u, Ar W u vs → Calls Try.prog 24 #[u, .int .i64 a, .int .i64 f] W fun e w' => e = .returned (.tuple #[.int .u64 z, .int .i64 0]) ∧ Below W.heap.size W w'))
    (E : Int) (hE : E ≠ 0) (C5 : Hid (∀ W, Below w.heap.size w W → Calls Try.prog 34 #[.slice A n cap, fldV a f' t' z'] W fun e w' => CAns W ([], E) e w')) :
    Calls Try.prog 6 #[.slice A n cap, fldV a f t z, fldV a' f' t' z'] w fun e w' => e = .returned (.bool true) ∧ Below w.heap.size w w' := by
  have q : decide ((300 : Int) < (n : Int)) = false := decide_eq_false (by omega)
  have qp : (z % 2 == 1) = true := by simpa using hp
  obtain ⟨u0, u1⟩ := hz
  obtain ⟨u0', u1'⟩ := hz'
  obtain ⟨a0, a1⟩ := ha
  obtain ⟨f0, f1⟩ := hf
  have HAT := Lib.hid hat
  have qE : (E != 0) = true := by simpa using hE
  clear hE
  clear hat hp
  unfold fldV at *
  have N0 := Lib.hid (keep_heap (alloc_below (w.alloc (.cells #[.int .i64 a, .int .i64 f, .int .i64 t, .int .u64 z] 49)) (.cells #[.int .i64 a', .int .i64 f', .int .i64 t', .int .u64 z'] 49)) (heap_alloc_new w (.cells #[.int .i64 a, .int .i64 f, .int .i64 t, .int .u64 z] 49)))
  have M0 := Lib.hid (heap_alloc_new (w.alloc (.cells #[.int .i64 a, .int .i64 f, .int .i64 t, .int .u64 z] 49)) (.cells #[.int .i64 a', .int .i64 f', .int .i64 t', .int .u64 z'] 49))
  have B0 := Lib.hid (below_end (alloc_below w (.cells #[.int .i64 a, .int .i64 f, .int .i64 t, .int .u64 z] 49)) (alloc_below (w.alloc (.cells #[.int .i64 a, .int .i64 f, .int .i64 t, .int .u64 z] 49)) (.cells #[.int .i64 a', .int .i64 f', .int .i64 t', .int .u64 z'] 49)))
  rw [World.size_alloc] at M0
  obtain ⟨t0, t1, t2, t3⟩ := four_cells N0.out
  go_enter Try.func6, Try.ntmps6
  go_upto_region 1 with (fail)
  generalize (w.alloc (.cells #[.int .i64 a, .int .i64 f, .int .i64 t, .int .u64 z] 49)).alloc (.cells #[.int .i64 a', .int .i64 f', .int .i64 t', .int .u64 z'] 49) = W0 at *
  go_upto_region 4 with (go_at_call 34; refine (C1.out _ B0.out).mono ?_; rintro e w1 ⟨v1, rfl, X1, hb1⟩)
  have N1 := Lib.hid (keep_heap hb1 N0.out)
  have M1 := Lib.hid (keep_heap hb1 M0.out)
  have B1 := Lib.hid (below_end B0.out hb1)
  clear t0 t1 t2 t3 hb1 N0 M0
  go_upto_region 7 with (go_at_call 35; refine (C2.out _ _ B1.out X1.out).mono ?_; rintro e w2 ⟨l2, rfl, Y2, hb2⟩)
  obtain ⟨lA, lc, rfl⟩ := iat_nil Y2.out
  have N2 := Lib.hid (keep_heap hb2 N1.out)
  have M2 := Lib.hid (keep_heap hb2 M1.out)
  have B2 := Lib.hid (below_end B1.out hb2)
  have X2 := Lib.hid (X1.out.below hb2)
  clear hb2 N1 M1 X1 Y2
  obtain ⟨t0, t1, t2, t3⟩ := four_cells N2.out
  go_upto_region 8 with (go_at_call 15; refine (C3.out _ B2.out).mono ?_; rintro e w3 ⟨rfl, hb3⟩)
  have hb := below_end hb3 (alloc_below w3 (.cells #[.int .i64 P, .int .i64 R] 24))
  have N3 := Lib.hid (keep_heap hb N2.out)
  have M3 := Lib.hid (keep_heap hb M2.out)
  have B3 := Lib.hid (below_end B2.out hb)
  have X3 := Lib.hid (X2.out.below hb)
  obtain ⟨s0, s1, -, -⟩ := two_free (heap_alloc_new w3 (.cells #[.int .i64 P, .int .i64 R] 24))
  clear t0 t1 t2 t3 hb hb3 N2 M2 X2
  generalize w3.heap.size = g3 at *
  generalize w3.alloc (.cells #[.int .i64 P, .int .i64 R] 24) = W3 at *
  obtain ⟨t0, t1, t2, t3⟩ := four_cells N3.out
  go_upto_region 13 with (fail)
  clear s0 s1
  go_upto_region 19 with (go_at_call 24; refine (C4.out _ _ X3.out).mono ?_; rintro e w4 ⟨rfl, hb4⟩; obtain ⟨t0', t1', t2', t3'⟩ := four_cells (keep_heap hb4 N3.out); clear t0 t1 t2 t3)
  have N4 := Lib.hid (keep_heap hb4 N3.out)
  have M4 := Lib.hid (keep_heap hb4 M3.out)
  have B4 := Lib.hid (below_end B3.out hb4)
  have X4 := Lib.hid (X3.out.below hb4)
  clear t0' t1' t2' t3' hb4 N3 M3 X3
  go_upto_region 21 with (fail)
  obtain ⟨t0, t1, t2, t3⟩ := four_cells N4.out
  obtain ⟨m0, m1, m2, m3⟩ := four_cells M4.out
  have mf := frozen_of_row _ _ 0 _ _ M4.out
  go_upto_region 22 with (fail)
  have M5 := Lib.hid (show (w4.setCell ⟨w.heap.size + 1, 0, none⟩ (.int .i64 a)).heap[w.heap.size + 1]? = some (.cells #[.int .i64 a, .int .i64 f', .int .i64 t', .int .u64 z'] 49 (0, 0)) from by
    have := set_row M4.out 0 (.int .i64 a); simpa using this)
  have N5 := Lib.hid (show (w4.setCell ⟨w.heap.size + 1, 0, none⟩ (.int .i64 a)).heap[w.heap.size]? = some (.cells #[.int .i64 a, .int .i64 f, .int .i64 t, .int .u64 z] 49 (0, 0)) from set_far _ (by omega) N4.out)
  have B5 := Lib.hid (B4.out.setCell (p := ⟨w.heap.size + 1, 0, none⟩) (Nat.le_succ _) (.int .i64 a))
  have X5 := Lib.hid (ar_set X4.out m0 (.int .i64 a))
  clear t0 t1 t2 t3 m0 m1 m2 m3 mf N4 M4 X4
  generalize w4.setCell ⟨w.heap.size + 1, 0, none⟩ (.int .i64 a) = W5 at *
  obtain ⟨m0, m1, m2, m3⟩ := four_cells M5.out
  go_wp2_with (first
    | (go_at_call 34; refine (C5.out _ B5.out).mono ?_; rintro e w6 ⟨u6, rfl, ho6, hb6⟩)
    | (go_at_call 11; refine (awake11 _).mono ?_; rintro e w7 ⟨rfl, hb7⟩))
  exact bodyPost_ret (v := .bool true) (by simp [results, Try.f6, go_sem]) rfl ⟨rfl, below_end (below_end B5.out hb6) hb7⟩
set_option maxRecDepth 100000 in
set_option maxHeartbeats 2000000 in
theorem fields6_odd_nil_same (A : Option Addr) (n cap : Nat) (a f t z a' f' t' z' : Int) (P R : Nat) (at_ : Int) (vs : List Int) (w : World) (hn : n ≤ 300) (hz : 0 ≤ z ∧ z ≤ 18446744073709551615) (hz' : 0 ≤ z' ∧ z' ≤ 18446744073709551615) (hp : z % 2 = 1) (ha : 1 ≤ a ∧ a ≤ 1601) (hf : 0 ≤ f ∧ f ≤ 63) (hP : P ≤ 63) (hat : a + 1 + f + (P : Int) = at_)
    (C1 : Hid (∀ W, Below w.heap.size w W → Calls Try.prog 34 #[.slice A n cap, fldV a f t z] W fun e w' => RAns W vs e w'))
    (C2 : Hid (∀ W u, Below w.heap.size w W → Ar W u vs → Calls Try.prog 35 #[.slice A n cap, u] W fun e w' => LAns W [] e w'))
    (C3 : Hid (∀ W, Below w.heap.size w W → Calls Try.prog 15 #[.slice A n cap, .int .i64 a] W fun e w' => e = .returned (.tuple #[.agg #[.int .i64 P, .int .i64 R], .int .i64 0]) ∧ Below W.heap.size W w'))
    (C4 : Hid (∀ W u, Ar W u vs → Calls Try.prog 24 #[u, .int .i64 a, .int .i64 f] W fun e w' => e = .returned (.tuple #[.int .u64 z, .int .i64 0]) ∧ Below W.heap.size W w'))
    (ars bs cs ds : List Int) (C5 : Hid (∀ W, Below w.heap.size w W → Calls Try.prog 34 #[.slice A n cap, fldV a f' t' z'] W fun e w' => RAns W ars e w'))
    (C6 : Hid (∀ W u, Ar W u vs → Calls Try.prog 34 #[u, fldV a f' t' z'] W fun e w' => RAns W bs e w')) (C7 : Hid (∀ W u, Ar W u ars → Calls Try.prog 34 #[u, fldV a f t z] W fun e w' => RAns W cs e w'))
    (C8 : Hid (∀ W b c, Ar W b bs → Ar W c cs → Calls Try.prog 35 #[b, c] W fun e w' => LAns W ds e w')) (hff : f = f') (hzz : z % 2 = z' % 2) :
    Calls Try.prog 6 #[.slice A n cap, fldV a f t z, fldV a' f' t' z'] w fun e w' => e = .returned (.bool true) ∧ Below w.heap.size w w' := by
  have q : decide ((300 : Int) < (n : Int)) = false := decide_eq_false (by omega)
  have qp : (z % 2 == 1) = true := by simpa using hp
  obtain ⟨u0, u1⟩ := hz
  obtain ⟨u0', u1'⟩ := hz'
  obtain ⟨a0, a1⟩ := ha
  obtain ⟨f0, f1⟩ := hf
  have HAT := Lib.hid hat
  have qf : (f == f') = true := by simpa using hff
  have qz : (z % 2 == z' % 2) = true := by simpa using hzz
  clear hff hzz
  clear hat hp
  unfold fldV at *
  have N0 := Lib.hid (keep_heap (alloc_below (w.alloc (.cells #[.int .i64 a, .int .i64 f, .int .i64 t, .int .u64 z] 49)) (.cells #[.int .i64 a', .int .i64 f', .int .i64 t', .int .u64 z'] 49)) (heap_alloc_new w (.cells #[.int .i64 a, .int .i64 f, .int .i64 t, .int .u64 z] 49)))
  have M0 := Lib.hid (heap_alloc_new (w.alloc (.cells #[.int .i64 a, .int .i64 f, .int .i64 t, .int .u64 z] 49)) (.cells #[.int .i64 a', .int .i64 f', .int .i64 t', .int .u64 z'] 49))
  have B0 := Lib.hid (below_end (alloc_below w (.cells #[.int .i64 a, .int .i64 f, .int .i64 t, .int .u64 z] 49)) (alloc_below (w.alloc (.cells #[.int .i64 a, .int .i64 f, .int .i64 t, .int .u64 z] 49)) (.cells #[.int .i64 a', .int .i64 f', .int .i64 t', .int .u64 z'] 49)))
  rw [World.size_alloc] at M0
  obtain ⟨t0, t1, t2, t3⟩ := four_cells N0.out
  go_enter Try.func6, Try.ntmps6
  go_upto_region 1 with (fail)
  generalize (w.alloc (.cells #[.int .i64 a, .int .i64 f, .int .i64 t, .int .u64 z] 49)).alloc (.cells #[.int .i64 a', .int .i64 f', .int .i64 t', .int .u64 z'] 49) = W0 at *
  go_upto_region 4 with (go_at_call 34; refine (C1.out _ B0.out).mono ?_; rintro e w1 ⟨v1, rfl, X1, hb1⟩)
  have N1 := Lib.hid (keep_heap hb1 N0.out)
  have M1 := Lib.hid (keep_heap hb1 M0.out)
  have B1 := Lib.hid (below_end B0.out hb1)
  clear t0 t1 t2 t3 hb1 N0 M0
  go_upto_region 7 with (go_at_call 35; refine (C2.out _ _ B1.out X1.out).mono ?_; rintro e w2 ⟨l2, rfl, Y2, hb2⟩)
  obtain ⟨lA, lc, rfl⟩ := iat_nil Y2.out
  have N2 := Lib.hid (keep_heap hb2 N1.out)
  have M2 := Lib.hid (keep_heap hb2 M1.out)
  have B2 := Lib.hid (below_end B1.out hb2)
  have X2 := Lib.hid (X1.out.below hb2)
  clear hb2 N1 M1 X1 Y2
  obtain ⟨t0, t1, t2, t3⟩ := four_cells N2.out
  go_upto_region 8 with (go_at_call 15; refine (C3.out _ B2.out).mono ?_; rintro e w3 ⟨rfl, hb3⟩)
  have hb := below_end hb3 (alloc_below w3 (.cells #[.int .i64 P, .int .i64 R] 24))
  have N3 := Lib.hid (keep_heap hb N2.out)
  have M3 := Lib.hid (keep_heap hb M2.out)
  have B3 := Lib.hid (below_end B2.out hb)
  have X3 := Lib.hid (X2.out.below hb)
  obtain ⟨s0, s1, -, -⟩ := two_free (heap_alloc_new w3 (.cells #[.int .i64 P, .int .i64 R] 24))
  clear t0 t1 t2 t3 hb hb3 N2 M2 X2
  generalize w3.heap.size = g3 at *
  generalize w3.alloc (.cells #[.int .i64 P, .int .i64 R] 24) = W3 at *
  obtain ⟨t0, t1, t2, t3⟩ := four_cells N3.out
  go_upto_region 13 with (fail)
  clear s0 s1
  go_upto_region 19 with (go_at_call 24; refine (C4.out _ _ X3.out).mono ?_; rintro e w4 ⟨rfl, hb4⟩; obtain ⟨t0', t1', t2', t3'⟩ := four_cells (keep_heap hb4 N3.out); clear t0 t1 t2 t3)
  have N4 := Lib.hid (keep_heap hb4 N3.out)
  have M4 := Lib.hid (keep_heap hb4 M3.out)
  have B4 := Lib.hid (below_end B3.out hb4)
  have X4 := Lib.hid (X3.out.below hb4)
  clear t0' t1' t2' t3' hb4 N3 M3 X3
  go_upto_region 21 with (fail)
  obtain ⟨t0, t1, t2, t3⟩ := four_cells N4.out
  obtain ⟨m0, m1, m2, m3⟩ := four_cells M4.out
  have mf := frozen_of_row _ _ 0 _ _ M4.out
  go_upto_region 22 with (fail)
  have M5 := Lib.hid (show (w4.setCell ⟨w.heap.size + 1, 0, none⟩ (.int .i64 a)).heap[w.heap.size + 1]? = some (.cells #[.int .i64 a, .int .i64 f', .int .i64 t', .int .u64 z'] 49 (0, 0)) from by
    have := set_row M4.out 0 (.int .i64 a); simpa using this)
  have N5 := Lib.hid (show (w4.setCell ⟨w.heap.size + 1, 0, none⟩ (.int .i64 a)).heap[w.heap.size]? = some (.cells #[.int .i64 a, .int .i64 f, .int .i64 t, .int .u64 z] 49 (0, 0)) from set_far _ (by omega) N4.out)
  have B5 := Lib.hid (B4.out.setCell (p := ⟨w.heap.size + 1, 0, none⟩) (Nat.le_succ _) (.int .i64 a))
  have X5 := Lib.hid (ar_set X4.out m0 (.int .i64 a))
  clear t0 t1 t2 t3 m0 m1 m2 m3 mf N4 M4 X4
  generalize w4.setCell ⟨w.heap.size + 1, 0, none⟩ (.int .i64 a) = W5 at *
  obtain ⟨m0, m1, m2, m3⟩ := four_cells M5.out
  go_upto_region 23 with (go_at_call 34; refine (C5.out _ B5.out).mono ?_; rintro e w6 ⟨v6, rfl, X6, hb6⟩)
  have N6 := Lib.hid (keep_heap hb6 N5.out)
  have M6 := Lib.hid (keep_heap hb6 M5.out)
  have B6 := Lib.hid (below_end B5.out hb6)
  have X1 := Lib.hid (X5.out.below hb6)
  clear m0 m1 m2 m3 hb6 N5 M5 X5
  obtain ⟨m0, m1, m2, m3⟩ := four_cells M6.out
  go_upto_region 26 with (go_at_call 34; refine (C6.out _ _ X1.out).mono ?_; rintro e w7 ⟨v7, rfl, X7, hb7⟩)
  have N7 := Lib.hid (keep_heap hb7 N6.out)
  have M7 := Lib.hid (keep_heap hb7 M6.out)
  have B7 := Lib.hid (below_end B6.out hb7)
  have X6' := Lib.hid (X6.out.below hb7)
  clear m0 m1 m2 m3 hb7 N6 M6 X1 X6
  obtain ⟨t0, t1, t2, t3⟩ := four_cells N7.out
  go_upto_region 27 with (go_at_call 34; refine (C7.out _ _ X6'.out).mono ?_; rintro e w8 ⟨v8, rfl, X8, hb8⟩)
  have N8 := Lib.hid (keep_heap hb8 N7.out)
  have M8 := Lib.hid (keep_heap hb8 M7.out)
  have B8 := Lib.hid (below_end B7.out hb8)
  have X7' := Lib.hid (X7.out.below hb8)
  clear t0 t1 t2 t3 hb8 N7 M7 X7 X6'
  go_upto_region 28 with (go_at_call 35; refine (C8.out _ _ _ X7'.out X8.out).mono ?_; rintro e w9 ⟨l9, rfl, Y9, hb9⟩)
  obtain ⟨dA, dc, rfl⟩ := iat_any Y9.out
  obtain ⟨t0, t1, t2, t3⟩ := four_cells (keep_heap hb9 N8.out)
  obtain ⟨m0, m1, m2, m3⟩ := four_cells (keep_heap hb9 M8.out)
  have B9 := Lib.hid (below_end B8.out hb9)
  clear hb9 N8 M8 X7' X8 Y9
  go_wp2_with (go_at_call 11; refine (awake11 _).mono ?_; rintro e y1 ⟨rfl, hy1⟩)
  exact bodyPost_ret (v := .bool true) (by simp [results, Try.f6, go_sem]) rfl ⟨rfl, below_end B9.out hy1⟩
set_option maxRecDepth 100000 in
set_option maxHeartbeats 2000000 in
theorem fields6_odd_nil_nf (A : Option Addr) (n cap : Nat) (a f t z a' f' t' z' : Int) (P R : Nat) (at_ : Int) (vs : List Int) (w : World) (hn : n ≤ 300) (hz : 0 ≤ z ∧ z ≤ 18446744073709551615) (hz' : 0 ≤ z' ∧ z' ≤ 18446744073709551615) (hp : z % 2 = 1) (ha : 1 ≤ a ∧ a ≤ 1601) (hf : 0 ≤ f ∧ f ≤ 63) (hP : P ≤ 63) (hat : a + 1 + f + (P : Int) = at_)
    (C1 : Hid (∀ W, Below w.heap.size w W → Calls Try.prog 34 #[.slice A n cap, fldV a f t z] W fun e w' => RAns W vs e w'))
    (C2 : Hid (∀ W u, Below w.heap.size w W → Ar W u vs → Calls Try.prog 35 #[.slice A n cap, u] W fun e w' => LAns W [] e w'))
    (C3 : Hid (∀ W, Below w.heap.size w W → Calls Try.prog 15 #[.slice A n cap, .int .i64 a] W fun e w' => e = .returned (.tuple #[.agg #[.int .i64 P, .int .i64 R], .int .i64 0]) ∧ Below W.heap.size W w'))
    (C4 : Hid (∀ W u, Ar W u vs → Calls Try.prog 24 #[u, .int .i64 a, .int .i64 f] W fun e w' => e = .returned (.tuple #[.int .u64 z, .int .i64 0]) ∧ Below W.heap.size W w'))
    (ars bs cs _ds : List Int) (C5 : Hid (∀ W, Below w.heap.size w W → Calls Try.prog 34 #[.slice A n cap, fldV a f' t' z'] W fun e w' => RAns W ars e w'))
    (C6 : Hid (∀ W u, Ar W u vs → Calls Try.prog 34 #[u, fldV a f' t' z'] W fun e w' => RAns W bs e w')) (C7 : Hid (∀ W u, Ar W u ars → Calls Try.prog 34 #[u, fldV a f t z] W fun e w' => RAns W cs e w'))
    (C8 : Hid (∀ W b c, Ar W b bs → Ar W c cs → Calls Try.prog 35 #[b, c] W fun e w' => LAns W [] e w')) (hff : f ≠ f') :
    Calls Try.prog 6 #[.slice A n cap, fldV a f t z, fldV a' f' t' z'] w fun e w' => e = .returned (.bool true) ∧ Below w.heap.size w w' := by
  have q : decide ((300 : Int) < (n : Int)) = false := decide_eq_false (by omega)
  have qp : (z % 2 == 1) = true := by simpa using hp
  obtain ⟨u0, u1⟩ := hz
  obtain ⟨u0', u1'⟩ := hz'
  obtain ⟨a0, a1⟩ := ha
  obtain ⟨f0, f1⟩ := hf
  have HAT := Lib.hid hat
  have qf : (f == f') = false := by simpa using hff
  clear hff
  clear hat hp
  unfold fldV at *
  have N0 := Lib.hid (keep_heap (alloc_below (w.alloc (.cells #[.int .i64 a, .int .i64 f, .int .i64 t, .int .u64 z] 49)) (.cells #[.int .i64 a', .int .i64 f', .int .i64 t', .int .u64 z'] 49)) (heap_alloc_new w (.cells #[.int .i64 a, .int .i64 f, .int .i64 t, .int .u64 z] 49)))
  have M0 := Lib.hid (heap_alloc_new (w.alloc (.cells #[.int .i64 a, .int .i64 f, .int .i64 t, .int .u64 z] 49)) (.cells #[.int .i64 a', .int .i64 f', .int .i64 t', .int .u64 z'] 49))
  have B0 := Lib.hid (below_end (alloc_below w (.cells #[.int .i64 a, .int .i64 f, .int .i64 t, .int .u64 z] 49)) (alloc_below (w.alloc (.cells #[.int .i64 a, .int .i64 f, .int .i64 t, .int .u64 z] 49)) (.cells #[.int .i64 a', .int .i64 f', .int .i64 t', .int .u64 z'] 49)))
  rw [World.size_alloc] at M0
  obtain ⟨t0, t1, t2, t3⟩ := four_cells N0.out
  go_enter Try.func6, Try.ntmps6
  go_upto_region 1 with (fail)
  generalize (w.alloc (.cells #[.int .i64 a, .int .i64 f, .int .i64 t, .int .u64 z] 49)).alloc (.cells #[.int .i64 a', .int .i64 f', .int .i64 t', .int .u64 z'] 49) = W0 at *
  go_upto_region 4 with (go_at_call 34; refine (C1.out _ B0.out).mono ?_; rintro e w1 ⟨v1, rfl, X1, hb1⟩)
  have N1 := Lib.hid (keep_heap hb1 N0.out)
  have M1 := Lib.hid (keep_heap hb1 M0.out)
  have B1 := Lib.hid (below_end B0.out hb1)
  clear t0 t1 t2 t3 hb1 N0 M0
  go_upto_region 7 with (go_at_call 35; refine (C2.out _ _ B1.out X1.out).mono ?_; rintro e w2 ⟨l2, rfl, Y2, hb2⟩)
  obtain ⟨lA, lc, rfl⟩ := iat_nil Y2.out
  have N2 := Lib.hid (keep_heap hb2 N1.out)
  have M2 := Lib.hid (keep_heap hb2 M1.out)
  have B2 := Lib.hid (below_end B1.out hb2)
  have X2 := Lib.hid (X1.out.below hb2)
  clear hb2 N1 M1 X1 Y2
  obtain ⟨t0, t1, t2, t3⟩ := four_cells N2.out
  go_upto_region 8 with (go_at_call 15; refine (C3.out _ B2.out).mono ?_; rintro e w3 ⟨rfl, hb3⟩)
  have hb := below_end hb3 (alloc_below w3 (.cells #[.int .i64 P, .int .i64 R] 24))
  have N3 := Lib.hid (keep_heap hb N2.out)
  have M3 := Lib.hid (keep_heap hb M2.out)
  have B3 := Lib.hid (below_end B2.out hb)
  have X3 := Lib.hid (X2.out.below hb)
  obtain ⟨s0, s1, -, -⟩ := two_free (heap_alloc_new w3 (.cells #[.int .i64 P, .int .i64 R] 24))
  clear t0 t1 t2 t3 hb hb3 N2 M2 X2
  generalize w3.heap.size = g3 at *
  generalize w3.alloc (.cells #[.int .i64 P, .int .i64 R] 24) = W3 at *
  obtain ⟨t0, t1, t2, t3⟩ := four_cells N3.out
  go_upto_region 13 with (fail)
  clear s0 s1
  go_upto_region 19 with (go_at_call 24; refine (C4.out _ _ X3.out).mono ?_; rintro e w4 ⟨rfl, hb4⟩; obtain ⟨t0', t1', t2', t3'⟩ := four_cells (keep_heap hb4 N3.out); clear t0 t1 t2 t3)
  have N4 := Lib.hid (keep_heap hb4 N3.out)
  have M4 := Lib.hid (keep_heap hb4 M3.out)
  have B4 := Lib.hid (below_end B3.out hb4)
  have X4 := Lib.hid (X3.out.below hb4)
  clear t0' t1' t2' t3' hb4 N3 M3 X3
  go_upto_region 21 with (fail)
  obtain ⟨t0, t1, t2, t3⟩ := four_cells N4.out
  obtain ⟨m0, m1, m2, m3⟩ := four_cells M4.out
  have mf := frozen_of_row _ _ 0 _ _ M4.out
  go_upto_region 22 with (fail)
  have M5 := Lib.hid (show (w4.setCell ⟨w.heap.size + 1, 0, none⟩ (.int .i64 a)).heap[w.heap.size + 1]? = some (.cells #[.int .i64 a, .int .i64 f', .int .i64 t', .int .u64 z'] 49 (0, 0)) from by
    have := set_row M4.out 0 (.int .i64 a); simpa using this)
  have N5 := Lib.hid (show (w4.setCell ⟨w.heap.size + 1, 0, none⟩ (.int .i64 a)).heap[w.heap.size]? = some (.cells #[.int .i64 a, .int .i64 f, .int .i64 t, .int .u64 z] 49 (0, 0)) from set_far _ (by omega) N4.out)
  have B5 := Lib.hid (B4.out.setCell (p := ⟨w.heap.size + 1, 0, none⟩) (Nat.le_succ _) (.int .i64 a))
  have X5 := Lib.hid (ar_set X4.out m0 (.int .i64 a))
  clear t0 t1 t2 t3 m0 m1 m2 m3 mf N4 M4 X4
  generalize w4.setCell ⟨w.heap.size + 1, 0, none⟩ (.int .i64 a) = W5 at *
  obtain ⟨m0, m1, m2, m3⟩ := four_cells M5.out
  go_upto_region 23 with (go_at_call 34; refine (C5.out _ B5.out).mono ?_; rintro e w6 ⟨v6, rfl, X6, hb6⟩)
  have N6 := Lib.hid (keep_heap hb6 N5.out)
  have M6 := Lib.hid (keep_heap hb6 M5.out)
  have B6 := Lib.hid (below_end B5.out hb6)
  have X1 := Lib.hid (X5.out.below hb6)
  clear m0 m1 m2 m3 hb6 N5 M5 X5
  obtain ⟨m0, m1, m2, m3⟩ := four_cells M6.out
  go_upto_region 26 with (go_at_call 34; refine (C6.out _ _ X1.out).mono ?_; rintro e w7 ⟨v7, rfl, X7, hb7⟩)
  have N7 := Lib.hid (keep_heap hb7 N6.out)
  have M7 := Lib.hid (keep_heap hb7 M6.out)
  have B7 := Lib.hid (below_end B6.out hb7)
  have X6' := Lib.hid (X6.out.below hb7)
  clear m0 m1 m2 m3 hb7 N6 M6 X1 X6
  obtain ⟨t0, t1, t2, t3⟩ := four_cells N7.out
  go_upto_region 27 with (go_at_call 34; refine (C7.out _ _ X6'.out).mono ?_; rintro e w8 ⟨v8, rfl, X8, hb8⟩)
  have N8 := Lib.hid (keep_heap hb8 N7.out)
  have M8 := Lib.hid (keep_heap hb8 M7.out)
  have B8 := Lib.hid (below_end B7.out hb8)
  have X7' := Lib.hid (X7.out.below hb8)
  clear t0 t1 t2 t3 hb8 N7 M7 X7 X6'
  go_upto_region 28 with (go_at_call 35; refine (C8.out _ _ _ X7'.out X8.out).mono ?_; rintro e w9 ⟨l9, rfl, Y9, hb9⟩)
  obtain ⟨dA, dc, rfl⟩ := iat_nil Y9.out
  obtain ⟨t0, t1, t2, t3⟩ := four_cells (keep_heap hb9 N8.out)
  obtain ⟨m0, m1, m2, m3⟩ := four_cells (keep_heap hb9 M8.out)
  have B9 := Lib.hid (below_end B8.out hb9)
  clear hb9 N8 M8 X7' X8 Y9
  go_wp2_with (go_at_call 11; refine (awake11 _).mono ?_; rintro e y1 ⟨rfl, hy1⟩)
  exact bodyPost_ret (v := .bool true) (by simp [results, Try.f6, go_sem]) rfl ⟨rfl, below_end B9.out hy1⟩
set_option maxRecDepth 100000 in
set_option maxHeartbeats 2000000 in
theorem fields6_odd_nil_np (A : Option Addr) (n cap : Nat) (a f t z a' f' t' z' : Int) (P R : Nat) (at_ : Int) (vs : List Int) (w : World) (hn : n ≤ 300) (hz : 0 ≤ z ∧ z ≤ 18446744073709551615) (hz' : 0 ≤ z' ∧ z' ≤ 18446744073709551615) (hp : z % 2 = 1) (ha : 1 ≤ a ∧ a ≤ 1601) (hf : 0 ≤ f ∧ f ≤ 63) (hP : P ≤ 63) (hat : a + 1 + f + (P : Int) = at_)
    (C1 : Hid (∀ W, Below w.heap.size w W → Calls Try.prog 34 #[.slice A n cap, fldV a f t z] W fun e w' => RAns W vs e w'))
    (C2 : Hid (∀ W u, Below w.heap.size w W → Ar W u vs → Calls Try.prog 35 #[.slice A n cap, u] W fun e w' => LAns W [] e w'))
    (C3 : Hid (∀ W, Below w.heap.size w W → Calls Try.prog 15 #[.slice A n cap, .int .i64 a] W fun e w' => e = .returned (.tuple #[.agg #[.int .i64 P, .int .i64 R], .int .i64 0]) ∧ Below W.heap.size W w'))
    (C4 : Hid (∀ W u, Ar W u vs → Calls Try.prog 24 #[u, .int .i64 a, .int .i64 f] W fun e w' => e = .returned (.tuple #[.int .u64 z, .int .i64 0]) ∧ Below W.heap.size W w'))
    (ars bs cs _ds : List Int) (C5 : Hid (∀ W, Below w.heap.size w W → Calls Try.prog 34 #[.slice A n cap, fldV a f' t' z'] W fun e w' => RAns W ars e w'))
    (C6 : Hid (∀ W u, Ar W u vs → Calls Try.prog 34 #[u, fldV a f' t' z'] W fun e w' => RAns W bs e w')) (C7 : Hid (∀ W u, Ar W u ars → Calls Try.prog 34 #[u, fldV a f t z] W fun e w' => RAns W cs e w'))
    (C8 : Hid (∀ W b c, Ar W b bs → Ar W c cs → Calls Try.prog 35 #[b, c] W fun e w' => LAns W [] e w')) (hff : f = f') (hzz : z % 2 ≠ z' % 2) :
    Calls Try.prog 6 #[.slice A n cap, fldV a f t z, fldV a' f' t' z'] w fun e w' => e = .returned (.bool true) ∧ Below w.heap.size w w' := by
  have q : decide ((300 : Int) < (n : Int)) = false := decide_eq_false (by omega)
  have qp : (z % 2 == 1) = true := by simpa using hp
  obtain ⟨u0, u1⟩ := hz
  obtain ⟨u0', u1'⟩ := hz'
  obtain ⟨a0, a1⟩ := ha
  obtain ⟨f0, f1⟩ := hf
  have HAT := Lib.hid hat
  have qf : (f == f') = true := by simpa using hff
  have qz : (z % 2 == z' % 2) = false := by simpa using hzz
  clear hff hzz
  clear hat hp
  unfold fldV at *
  have N0 := Lib.hid (keep_heap (alloc_below (w.alloc (.cells #[.int .i64 a, .int .i64 f, .int .i64 t, .int .u64 z] 49)) (.cells #[.int .i64 a', .int .i64 f', .int .i64 t', .int .u64 z'] 49)) (heap_alloc_new w (.cells #[.int .i64 a, .int .i64 f, .int .i64 t, .int .u64 z] 49)))
  have M0 := Lib.hid (heap_alloc_new (w.alloc (.cells #[.int .i64 a, .int .i64 f, .int .i64 t, .int .u64 z] 49)) (.cells #[.int .i64 a', .int .i64 f', .int .i64 t', .int .u64 z'] 49))
  have B0 := Lib.hid (below_end (alloc_below w (.cells #[.int .i64 a, .int .i64 f, .int .i64 t, .int .u64 z] 49)) (alloc_below (w.alloc (.cells #[.int .i64 a, .int .i64 f, .int .i64 t, .int .u64 z] 49)) (.cells #[.int .i64 a', .int .i64 f', .int .i64 t', .int .u64 z'] 49)))
  rw [World.size_alloc] at M0
  obtain ⟨t0, t1, t2, t3⟩ := four_cells N0.out
  go_enter Try.func6, Try.ntmps6
  go_upto_region 1 with (fail)
  generalize (w.alloc (.cells #[.int .i64 a, .int .i64 f, .int .i64 t, .int .u64 z] 49)).alloc (.cells #[.int .i64 a', .int .i64 f', .int .i64 t', .int .u64 z'] 49) = W0 at *
  go_upto_region 4 with (go_at_call 34; refine (C1.out _ B0.out).mono ?_; rintro e w1 ⟨v1, rfl, X1, hb1⟩)
  have N1 := Lib.hid (keep_heap hb1 N0.out)
  have M1 := Lib.hid (keep_heap hb1 M0.out)
  have B1 := Lib.hid (below_end B0.out hb1)
  clear t0 t1 t2 t3 hb1 N0 M0
  go_upto_region 7 with (go_at_call 35; refine (C2.out _ _ B1.out X1.out).mono ?_; rintro e w2 ⟨l2, rfl, Y2, hb2⟩)
  obtain ⟨lA, lc, rfl⟩ := iat_nil Y2.out
  have N2 := Lib.hid (keep_heap hb2 N1.out)
  have M2 := Lib.hid (keep_heap hb2 M1.out)
  have B2 := Lib.hid (below_end B1.out hb2)
  have X2 := Lib.hid (X1.out.below hb2)
  clear hb2 N1 M1 X1 Y2
  obtain ⟨t0, t1, t2, t3⟩ := four_cells N2.out
  go_upto_region 8 with (go_at_call 15; refine (C3.out _ B2.out).mono ?_; rintro e w3 ⟨rfl, hb3⟩)
  have hb := below_end hb3 (alloc_below w3 (.cells #[.int .i64 P, .int .i64 R] 24))
  have N3 := Lib.hid (keep_heap hb N2.out)
  have M3 := Lib.hid (keep_heap hb M2.out)
  have B3 := Lib.hid (below_end B2.out hb)
  have X3 := Lib.hid (X2.out.below hb)
  obtain ⟨s0, s1, -, -⟩ := two_free (heap_alloc_new w3 (.cells #[.int .i64 P, .int .i64 R] 24))
  clear t0 t1 t2 t3 hb hb3 N2 M2 X2
  generalize w3.heap.size = g3 at *
  generalize w3.alloc (.cells #[.int .i64 P, .int .i64 R] 24) = W3 at *
  obtain ⟨t0, t1, t2, t3⟩ := four_cells N3.out
  go_upto_region 13 with (fail)
  clear s0 s1
  go_upto_region 19 with (go_at_call 24; refine (C4.out _ _ X3.out).mono ?_; rintro e w4 ⟨rfl, hb4⟩; obtain ⟨t0', t1', t2', t3'⟩ := four_cells (keep_heap hb4 N3.out); clear t0 t1 t2 t3)
  have N4 := Lib.hid (keep_heap hb4 N3.out)
  have M4 := Lib.hid (keep_heap hb4 M3.out)
  have B4 := Lib.hid (below_end B3.out hb4)
  have X4 := Lib.hid (X3.out.below hb4)
  clear t0' t1' t2' t3' hb4 N3 M3 X3
  go_upto_region 21 with (fail)
  obtain ⟨t0, t1, t2, t3⟩ := four_cells N4.out
  obtain ⟨m0, m1, m2, m3⟩ := four_cells M4.out
  have mf := frozen_of_row _ _ 0 _ _ M4.out
  go_upto_region 22 with (fail)
  have M5 := Lib.hid (show (w4.setCell ⟨w.heap.size + 1, 0, none⟩ (.int .i64 a)).heap[w.heap.size + 1]? = some (.cells #[.int .i64 a, .int .i64 f', .int .i64 t', .int .u64 z'] 49 (0, 0)) from by
    have := set_row M4.out 0 (.int .i64 a); simpa using this)
  have N5 := Lib.hid (show (w4.setCell ⟨w.heap.size + 1, 0, none⟩ (.int .i64 a)).heap[w.heap.size]? = some (.cells #[.int .i64 a, .int .i64 f, .int .i64 t, .int .u64 z] 49 (0, 0)) from set_far _ (by omega) N4.out)
  have B5 := Lib.hid (B4.out.setCell (p := ⟨w.heap.size + 1, 0, none⟩) (Nat.le_succ _) (.int .i64 a))
  have X5 := Lib.hid (ar_set X4.out m0 (.int .i64 a))
  clear t0 t1 t2 t3 m0 m1 m2 m3 mf N4 M4 X4
  generalize w4.setCell ⟨w.heap.size + 1, 0, none⟩ (.int .i64 a) = W5 at *
  obtain ⟨m0, m1, m2, m3⟩ := four_cells M5.out
  go_upto_region 23 with (go_at_call 34; refine (C5.out _ B5.out).mono ?_; rintro e w6 ⟨v6, rfl, X6, hb6⟩)
  have N6 := Lib.hid (keep_heap hb6 N5.out)
  have M6 := Lib.hid (keep_heap hb6 M5.out)
  have B6 := Lib.hid (below_end B5.out hb6)
  have X1 := Lib.hid (X5.out.below hb6)
  clear m0 m1 m2 m3 hb6 N5 M5 X5
  obtain ⟨m0, m1, m2, m3⟩ := four_cells M6.out
  go_upto_region 26 with (go_at_call 34; refine (C6.out _ _ X1.out).mono ?_; rintro e w7 ⟨v7, rfl, X7, hb7⟩)
  have N7 := Lib.hid (keep_heap hb7 N6.out)
  have M7 := Lib.hid (keep_heap hb7 M6.out)
  have B7 := Lib.hid (below_end B6.out hb7)
  have X6' := Lib.hid (X6.out.below hb7)
  clear m0 m1 m2 m3 hb7 N6 M6 X1 X6
  obtain ⟨t0, t1, t2, t3⟩ := four_cells N7.out
  go_upto_region 27 with (go_at_call 34; refine (C7.out _ _ X6'.out).mono ?_; rintro e w8 ⟨v8, rfl, X8, hb8⟩)
  have N8 := Lib.hid (keep_heap hb8 N7.out)
  have M8 := Lib.hid (keep_heap hb8 M7.out)
  have B8 := Lib.hid (below_end B7.out hb8)
  have X7' := Lib.hid (X7.out.below hb8)
  clear t0 t1 t2 t3 hb8 N7 M7 X7 X6'
  go_upto_region 28 with (go_at_call 35; refine (C8.out _ _ _ X7'.out X8.out).mono ?_; rintro e w9 ⟨l9, rfl, Y9, hb9⟩)
  obtain ⟨dA, dc, rfl⟩ := iat_nil Y9.out
  obtain ⟨t0, t1, t2, t3⟩ := four_cells (keep_heap hb9 N8.out)
  obtain ⟨m0, m1, m2, m3⟩ := four_cells (keep_heap hb9 M8.out)
  have B9 := Lib.hid (below_end B8.out hb9)
  clear hb9 N8 M8 X7' X8 Y9
  go_wp2_with (go_at_call 11; refine (awake11 _).mono ?_; rintro e y1 ⟨rfl, hy1⟩)
  exact bodyPost_ret (v := .bool true) (by simp [results, Try.f6, go_sem]) rfl ⟨rfl, below_end B9.out hy1⟩
set_option maxRecDepth 100000 in
set_option maxHeartbeats 2000000 in
theorem fields6_odd_one_yerr (A : Option Addr) (n cap : Nat) (a f t z a' f' t' z' : Int) (P R : Nat) (at_ : Int) (vs : List Int) (w : World) (hn : n ≤ 300) (hz : 0 ≤ z ∧ z ≤ 18446744073709551615) (hz' : 0 ≤ z' ∧ z' ≤ 18446744073709551615) (hp : z % 2 = 1) (ha : 1 ≤ a ∧ a ≤ 1601) (hf : 0 ≤ f ∧ f ≤ 63) (hP : P ≤ 63) (hat : a + 1 + f + (P : Int) = at_)
    (C1 : Hid (∀ W, Below w.heap.size w W → Calls Try.prog 34 #[.slice A n cap, fldV a f t z] W fun e w' => RAns W vs e w'))
    (C2 : Hid (∀ W u, Below w.heap.size w W → Ar W u vs → Calls Try.prog 35 #[.slice A n cap, u] W fun e w' => LAns W [at_] e w'))
    (C3 : Hid (∀ W, Below w.heap.size w W → Calls Try.prog 15 #[.slice A n cap, .int .i64 a] W fun e w' => e = .returned (.tuple #[.agg #[.int .i64 P, .int .i64 R], .int .i64 0]) ∧ Below W.heap.size W w'))
    (C4 : Hid (∀ W u, Ar W u vs → Calls Try.prog 24 #[u, .int .i64 a, .int .i64 f] W fun e w' => e = .returned (.tuple #[.int .u64 z, .int .i64 0]) ∧ Below W.heap.size W w'))
    (E : Int) (hE : E ≠ 0) (C5 : Hid (∀ W, Below w.heap.size w W → Calls Try.prog 34 #[.slice A n cap, fldV a f' t' z'] W fun e w' => CAns W ([], E) e w')) :
    Calls Try.prog 6 #[.slice A n cap, fldV a f t z, fldV a' f' t' z'] w fun e w' => e = .returned (.bool true) ∧ Below w.heap.size w w' := by
  have q : decide ((300 : Int) < (n : Int)) = false := decide_eq_false (by omega)
  have qp : (z % 2 == 1) = true := by simpa using hp
  obtain ⟨u0, u1⟩ := hz
  obtain ⟨u0', u1'⟩ := hz'
  obtain ⟨a0, a1⟩ := ha
  obtain ⟨f0, f1⟩ := hf
  have HAT := Lib.hid hat
  have qE : (E != 0) = true := by simpa using hE
  clear hE
  clear hat hp
  unfold fldV at *
  have N0 := Lib.hid (keep_heap (alloc_below (w.alloc (.cells #[.int .i64 a, .int .i64 f, .int .i64 t, .int .u64 z] 49)) (.cells #[.int .i64 a', .int .i64 f', .int .i64 t', .int .u64 z'] 49)) (heap_alloc_new w (.cells #[.int .i64 a, .int .i64 f, .int .i64 t, .int .u64 z] 49)))
  have M0 := Lib.hid (heap_alloc_new (w.alloc (.cells #[.int .i64 a, .int .i64 f, .int .i64 t, .int .u64 z] 49)) (.cells #[.int .i64 a', .int .i64 f', .int .i64 t', .int .u64 z'] 49))
  have B0 := Lib.hid (below_end (alloc_below w (.cells #[.int .i64 a, .int .i64 f, .int .i64 t, .int .u64 z] 49)) (alloc_below (w.alloc (.cells #[.int .i64 a, .int .i64 f, .int .i64 t, .int .u64 z] 49)) (.cells #[.int .i64 a', .int .i64 f', .int .i64 t', .int .u64 z'] 49)))
  rw [World.size_alloc] at M0
  obtain ⟨t0, t1, t2, t3⟩ := four_cells N0.out
  go_enter Try.func6, Try.ntmps6
  go_upto_region 1 with (fail)
  generalize (w.alloc (.cells #[.int .i64 a, .int .i64 f, .int .i64 t, .int .u64 z] 49)).alloc (.cells #[.int .i64 a', .int .i64 f', .int .i64 t', .int .u64 z'] 49) = W0 at *
  go_upto_region 4 with (go_at_call 34; refine (C1.out _ B0.out).mono ?_; rintro e w1 ⟨v1, rfl, X1, hb1⟩)
  have N1 := Lib.hid (keep_heap hb1 N0.out)
  have M1 := Lib.hid (keep_heap hb1 M0.out)
  have B1 := Lib.hid (below_end B0.out hb1)
  clear t0 t1 t2 t3 hb1 N0 M0
  go_upto_region 7 with (go_at_call 35; refine (C2.out _ _ B1.out X1.out).mono ?_; rintro e w2 ⟨l2, rfl, Y2, hb2⟩)
  obtain ⟨lb, lo, lc, rfl, ld⟩ := iat_one Y2.out
  have LD := Lib.hid ld
  clear ld
  have N2 := Lib.hid (keep_heap hb2 N1.out)
  have M2 := Lib.hid (keep_heap hb2 M1.out)
  have B2 := Lib.hid (below_end B1.out hb2)
  have X2 := Lib.hid (X1.out.below hb2)
  clear hb2 N1 M1 X1 Y2
  obtain ⟨t0, t1, t2, t3⟩ := four_cells N2.out
  go_upto_region 8 with (go_at_call 15; refine (C3.out _ B2.out).mono ?_; rintro e w3 ⟨rfl, hb3⟩)
  have hb := below_end hb3 (alloc_below w3 (.cells #[.int .i64 P, .int .i64 R] 24))
  have N3 := Lib.hid (keep_heap hb N2.out)
  have M3 := Lib.hid (keep_heap hb M2.out)
  have B3 := Lib.hid (below_end B2.out hb)
  have X3 := Lib.hid (X2.out.below hb)
  have LD3 := Lib.hid (keep_cell hb LD.out)
  obtain ⟨s0, s1, -, -⟩ := two_free (heap_alloc_new w3 (.cells #[.int .i64 P, .int .i64 R] 24))
  clear t0 t1 t2 t3 hb hb3 N2 M2 X2
  generalize w3.heap.size = g3 at *
  generalize w3.alloc (.cells #[.int .i64 P, .int .i64 R] 24) = W3 at *
  obtain ⟨t0, t1, t2, t3⟩ := four_cells N3.out
  go_upto_region 13 with (fail)
  clear s0 s1
  go_upto_region 19 with (go_at_call 24; refine (C4.out _ _ X3.out).mono ?_; rintro e w4 ⟨rfl, hb4⟩; obtain ⟨t0', t1', t2', t3'⟩ := four_cells (keep_heap hb4 N3.out); clear t0 t1 t2 t3)
  have N4 := Lib.hid (keep_heap hb4 N3.out)
  have M4 := Lib.hid (keep_heap hb4 M3.out)
  have B4 := Lib.hid (below_end B3.out hb4)
  have X4 := Lib.hid (X3.out.below hb4)
  have LD4 := keep_cell hb4 LD3.out
  have nat_ : (at_ != at_) = false := by simp
  have ATT := HAT.out
  clear t0' t1' t2' t3' hb4 N3 M3 X3
  rw [← HAT.out] at LD4
  have nat2 : (a + 1 + f + (P : Int) != a + 1 + f + (P : Int)) = false := by simp
  clear ATT nat_
  go_upto_region 21 with (fail)
  clear LD4 nat2
  obtain ⟨t0, t1, t2, t3⟩ := four_cells N4.out
  obtain ⟨m0, m1, m2, m3⟩ := four_cells M4.out
  have mf := frozen_of_row _ _ 0 _ _ M4.out
  go_upto_region 22 with (fail)
  have M5 := Lib.hid (show (w4.setCell ⟨w.heap.size + 1, 0, none⟩ (.int .i64 a)).heap[w.heap.size + 1]? = some (.cells #[.int .i64 a, .int .i64 f', .int .i64 t', .int .u64 z'] 49 (0, 0)) from by
    have := set_row M4.out 0 (.int .i64 a); simpa using this)
  have N5 := Lib.hid (show (w4.setCell ⟨w.heap.size + 1, 0, none⟩ (.int .i64 a)).heap[w.heap.size]? = some (.cells #[.int .i64 a, .int .i64 f, .int .i64 t, .int .u64 z] 49 (0, 0)) from set_far _ (by omega) N4.out)
  have B5 := Lib.hid (B4.out.setCell (p := ⟨w.heap.size + 1, 0, none⟩) (Nat.le_succ _) (.int .i64 a))
  have X5 := Lib.hid (ar_set X4.out m0 (.int .i64 a))
  clear t0 t1 t2 t3 m0 m1 m2 m3 mf N4 M4 X4
  generalize w4.setCell ⟨w.heap.size + 1, 0, none⟩ (.int .i64 a) = W5 at *
  obtain ⟨m0, m1, m2, m3⟩ := four_cells M5.out
  go_wp2_with (first
    | (go_at_call 34; refine (C5.out _ B5.out).mono ?_; rintro e w6 ⟨u6, rfl, ho6, hb6⟩)
    | (go_at_call 11; refine (awake11 _).mono ?_; rintro e w7 ⟨rfl, hb7⟩))
  exact bodyPost_ret (v := .bool true) (by simp [results, Try.f6, go_sem]) rfl ⟨rfl, below_end (below_end B5.out hb6) hb7⟩
set_option maxRecDepth 100000 in
set_option maxHeartbeats 2000000 in
theorem fields6_odd_one_same (A : Option Addr) (n cap : Nat) (a f t z a' f' t' z' : Int) (P R : Nat) (at_ : Int) (vs : List Int) (w : World) (hn : n ≤ 300) (hz : 0 ≤ z ∧ z ≤ 18446744073709551615) (hz' : 0 ≤ z' ∧ z' ≤ 18446744073709551615) (hp : z % 2 = 1) (ha : 1 ≤ a ∧ a ≤ 1601) (hf : 0 ≤ f ∧ f ≤ 63) (hP : P ≤ 63) (hat : a + 1 + f + (P : Int) = at_)
    (C1 : Hid (∀ W, Below w.heap.size w W → Calls Try.prog 34 #[.slice A n cap, fldV a f t z] W fun e w' => RAns W vs e w'))
    (C2 : Hid (∀ W u, Below w.heap.size w W → Ar W u vs → Calls Try.prog 35 #[.slice A n cap, u] W fun e w' => LAns W [at_] e w'))
    (C3 : Hid (∀ W, Below w.heap.size w W → Calls Try.prog 15 #[.slice A n cap, .int .i64 a] W fun e w' => e = .returned (.tuple #[.agg #[.int .i64 P, .int .i64 R], .int .i64 0]) ∧ Below W.heap.size W w'))
    (C4 : Hid (∀ W u, Ar W u vs → Calls Try.prog 24 #[u, .int .i64 a, .int .i64 f] W fun e w' => e = .returned (.tuple #[.int .u64 z, .int .i64 0]) ∧ Below W.heap.size W w'))
    (ars bs cs ds : List Int) (C5 : Hid (∀ W, Below w.heap.size w W → Calls Try.prog 34 #[.slice A n cap, fldV a f' t' z'] W fun e w' => RAns W ars e w'))
    (C6 : Hid (∀ W u, Ar W u vs → Calls Try.prog 34 #[u, fldV a f' t' z'] W fun e w' => RAns W bs e w')) (C7 : Hid (∀ W u, Ar W u ars → Calls Try.prog 34 #[u, fldV a f t z] W fun e w' => RAns W cs e w'))
    (C8 : Hid (∀ W b c, Ar W b bs → Ar W c cs → Calls Try.prog 35 #[b, c] W fun e w' => LAns W ds e w')) (hff : f = f') (hzz : z % 2 = z' % 2) :
    Calls Try.prog 6 #[.slice A n cap, fldV a f t z, fldV a' f' t' z'] w fun e w' => e = .returned (.bool true) ∧ Below w.heap.size w w' := by
  have q : decide ((300 : Int) < (n : Int)) = false := decide_eq_false (by omega)
  have qp : (z % 2 == 1) = true := by simpa using hp
  obtain ⟨u0, u1⟩ := hz
  obtain ⟨u0', u1'⟩ := hz'
  obtain ⟨a0, a1⟩ := ha
  obtain ⟨f0, f1⟩ := hf
  have HAT := Lib.hid hat
  have qf : (f == f') = true := by simpa using hff
  have qz : (z % 2 == z' % 2) = true := by simpa using hzz
  clear hff hzz
  clear hat hp
  unfold fldV at *
  have N0 := Lib.hid (keep_heap (alloc_below (w.alloc (.cells #[.int .i64 a, .int .i64 f, .int .i64 t, .int .u64 z] 49)) (.cells #[.int .i64 a', .int .i64 f', .int .i64 t', .int .u64 z'] 49)) (heap_alloc_new w (.cells #[.int .i64 a, .int .i64 f, .int .i64 t, .int .u64 z] 49)))
  have M0 := Lib.hid (heap_alloc_new (w.alloc (.cells #[.int .i64 a, .int .i64 f, .int .i64 t, .int .u64 z] 49)) (.cells #[.int .i64 a', .int .i64 f', .int .i64 t', .int .u64 z'] 49))
  have B0 := Lib.hid (below_end (alloc_below w (.cells #[.int .i64 a, .int .i64 f, .int .i64 t, .int .u64 z] 49)) (alloc_below (w.alloc (.cells #[.int .i64 a, .int .i64 f, .int .i64 t, .int .u64 z] 49)) (.cells #[.int .i64 a', .int .i64 f', .int .i64 t', .int .u64 z'] 49)))
  rw [World.size_alloc] at M0
  obtain ⟨t0, t1, t2, t3⟩ := four_cells N0.out
  go_enter Try.func6, Try.ntmps6
  go_upto_region 1 with (fail)
  generalize (w.alloc (.cells #[.int .i64 a, .int .i64 f, .int .i64 t, .int .u64 z] 49)).alloc (.cells #[.int .i64 a', .int .i64 f', .int .i64 t', .int .u64 z'] 49) = W0 at *
  go_upto_region 4 with (go_at_call 34; refine (C1.out _ B0.out).mono ?_; rintro e w1 ⟨v1, rfl, X1, hb1⟩)
  have N1 := Lib.hid (keep_heap hb1 N0.out)
  have M1 := Lib.hid (keep_heap hb1 M0.out)
  have B1 := Lib.hid (below_end B0.out hb1)
  clear t0 t1 t2 t3 hb1 N0 M0
  go_upto_region 7 with (go_at_call 35; refine (C2.out _ _ B1.out X1.out).mono ?_; rintro e w2 ⟨l2, rfl, Y2, hb2⟩)
  obtain ⟨lb, lo, lc, rfl, ld⟩ := iat_one Y2.out
  have LD := Lib.hid ld
  clear ld
  have N2 := Lib.hid (keep_heap hb2 N1.out)
  have M2 := Lib.hid (keep_heap hb2 M1.out)
  have B2 := Lib.hid (below_end B1.out hb2)
  have X2 := Lib.hid (X1.out.below hb2)
  clear hb2 N1 M1 X1 Y2
  obtain ⟨t0, t1, t2, t3⟩ := four_cells N2.out
  go_upto_region 8 with (go_at_call 15; refine (C3.out _ B2.out).mono ?_; rintro e w3 ⟨rfl, hb3⟩)
  have hb := below_end hb3 (alloc_below w3 (.cells #[.int .i64 P, .int .i64 R] 24))
  have N3 := Lib.hid (keep_heap hb N2.out)
  have M3 := Lib.hid (keep_heap hb M2.out)
  have B3 := Lib.hid (below_end B2.out hb)
  have X3 := Lib.hid (X2.out.below hb)
  have LD3 := Lib.hid (keep_cell hb LD.out)
  obtain ⟨s0, s1, -, -⟩ := two_free (heap_alloc_new w3 (.cells #[.int .i64 P, .int .i64 R] 24))
  clear t0 t1 t2 t3 hb hb3 N2 M2 X2
  generalize w3.heap.size = g3 at *
  generalize w3.alloc (.cells #[.int .i64 P, .int .i64 R] 24) = W3 at *
  obtain ⟨t0, t1, t2, t3⟩ := four_cells N3.out
  go_upto_region 13 with (fail)
  clear s0 s1
  go_upto_region 19 with (go_at_call 24; refine (C4.out _ _ X3.out).mono ?_; rintro e w4 ⟨rfl, hb4⟩; obtain ⟨t0', t1', t2', t3'⟩ := four_cells (keep_heap hb4 N3.out); clear t0 t1 t2 t3)
  have N4 := Lib.hid (keep_heap hb4 N3.out)
  have M4 := Lib.hid (keep_heap hb4 M3.out)
  have B4 := Lib.hid (below_end B3.out hb4)
  have X4 := Lib.hid (X3.out.below hb4)
  have LD4 := keep_cell hb4 LD3.out
  have nat_ : (at_ != at_) = false := by simp
  have ATT := HAT.out
  clear t0' t1' t2' t3' hb4 N3 M3 X3
  rw [← HAT.out] at LD4
  have nat2 : (a + 1 + f + (P : Int) != a + 1 + f + (P : Int)) = false := by simp
  clear ATT nat_
  go_upto_region 21 with (fail)
  clear LD4 nat2
  obtain ⟨t0, t1, t2, t3⟩ := four_cells N4.out
  obtain ⟨m0, m1, m2, m3⟩ := four_cells M4.out
  have mf := frozen_of_row _ _ 0 _ _ M4.out
  go_upto_region 22 with (fail)
  have M5 := Lib.hid (show (w4.setCell ⟨w.heap.size + 1, 0, none⟩ (.int .i64 a)).heap[w.heap.size + 1]? = some (.cells #[.int .i64 a, .int .i64 f', .int .i64 t', .int .u64 z'] 49 (0, 0)) from by
    have := set_row M4.out 0 (.int .i64 a); simpa using this)
  have N5 := Lib.hid (show (w4.setCell ⟨w.heap.size + 1, 0, none⟩ (.int .i64 a)).heap[w.heap.size]? = some (.cells #[.int .i64 a, .int .i64 f, .int .i64 t, .int .u64 z] 49 (0, 0)) from set_far _ (by omega) N4.out)
  have B5 := Lib.hid (B4.out.setCell (p := ⟨w.heap.size + 1, 0, none⟩) (Nat.le_succ _) (.int .i64 a))
  have X5 := Lib.hid (ar_set X4.out m0 (.int .i64 a))
  clear t0 t1 t2 t3 m0 m1 m2 m3 mf N4 M4 X4
  generalize w4.setCell ⟨w.heap.size + 1, 0, none⟩ (.int .i64 a) = W5 at *
  obtain ⟨m0, m1, m2, m3⟩ := four_cells M5.out
  go_upto_region 23 with (go_at_call 34; refine (C5.out _ B5.out).mono ?_; rintro e w6 ⟨v6, rfl, X6, hb6⟩)
  have N6 := Lib.hid (keep_heap hb6 N5.out)
  have M6 := Lib.hid (keep_heap hb6 M5.out)
  have B6 := Lib.hid (below_end B5.out hb6)
  have X1 := Lib.hid (X5.out.below hb6)
  clear m0 m1 m2 m3 hb6 N5 M5 X5
  obtain ⟨m0, m1, m2, m3⟩ := four_cells M6.out
  go_upto_region 26 with (go_at_call 34; refine (C6.out _ _ X1.out).mono ?_; rintro e w7 ⟨v7, rfl, X7, hb7⟩)
  have N7 := Lib.hid (keep_heap hb7 N6.out)
  have M7 := Lib.hid (keep_heap hb7 M6.out)
  have B7 := Lib.hid (below_end B6.out hb7)
  have X6' := Lib.hid (X6.out.below hb7)
  clear m0 m1 m2 m3 hb7 N6 M6 X1 X6
  obtain ⟨t0, t1, t2, t3⟩ := four_cells N7.out
  go_upto_region 27 with (go_at_call 34; refine (C7.out _ _ X6'.out).mono ?_; rintro e w8 ⟨v8, rfl, X8, hb8⟩)
  have N8 := Lib.hid (keep_heap hb8 N7.out)
  have M8 := Lib.hid (keep_heap hb8 M7.out)
  have B8 := Lib.hid (below_end B7.out hb8)
  have X7' := Lib.hid (X7.out.below hb8)
  clear t0 t1 t2 t3 hb8 N7 M7 X7 X6'
  go_upto_region 28 with (go_at_call 35; refine (C8.out _ _ _ X7'.out X8.out).mono ?_; rintro e w9 ⟨l9, rfl, Y9, hb9⟩)
  obtain ⟨dA, dc, rfl⟩ := iat_any Y9.out
  obtain ⟨t0, t1, t2, t3⟩ := four_cells (keep_heap hb9 N8.out)
  obtain ⟨m0, m1, m2, m3⟩ := four_cells (keep_heap hb9 M8.out)
  have B9 := Lib.hid (below_end B8.out hb9)
  clear hb9 N8 M8 X7' X8 Y9
  go_wp2_with (go_at_call 11; refine (awake11 _).mono ?_; rintro e y1 ⟨rfl, hy1⟩)
  exact bodyPost_ret (v := .bool true) (by simp [results, Try.f6, go_sem]) rfl ⟨rfl, below_end B9.out hy1⟩
set_option maxRecDepth 100000 in
set_option maxHeartbeats 2000000 in
theorem fields6_odd_one_nf (A : Option Addr) (n cap : Nat) (a f t z a' f' t' z' : Int) (P R : Nat) (at_ : Int) (vs : List Int) (w : World) (hn : n ≤ 300) (hz : 0 ≤ z ∧ z ≤ 18446744073709551615) (hz' : 0 ≤ z' ∧ z' ≤ 18446744073709551615) (hp : z % 2 = 1) (ha : 1 ≤ a ∧ a ≤ 1601) (hf : 0 ≤ f ∧ f ≤ 63) (hP : P ≤ 63) (hat : a + 1 + f + (P : Int) = at_)
    (C1 : Hid (∀ W, Below w.heap.size w W → Calls Try.prog 34 #[.slice A n cap, fldV a f t z] W fun e w' => RAns W vs e w'))
    (C2 : Hid (∀ W u, Below w.heap.size w W → Ar W u vs → Calls Try.prog 35 #[.slice A n cap, u] W fun e w' => LAns W [at_] e w'))
    (C3 : Hid (∀ W, Below w.heap.size w W → Calls Try.prog 15 #[.slice A n cap, .int .i64 a] W fun e w' => e = .returned (.tuple #[.agg #[.int .i64 P, .int .i64 R], .int .i64 0]) ∧ Below W.heap.size W w'))
    (C4 : Hid (∀ W u, Ar W u vs → Calls Try.prog 24 #[u, .int .i64 a, .int .i64 f] W fun e w' => e = .returned (.tuple #[.int .u64 z, .int .i64 0]) ∧ Below W.heap.size W w'))
    (ars bs cs _ds : List Int) (C5 : Hid (∀ W, Below w.heap.size w W → Calls Try.prog 34 #[.slice A n cap, fldV a f' t' z'] W fun e w' => RAns W ars e w'))
    (C6 : Hid (∀ W u, Ar W u vs → Calls Try.prog 34 #[u, fldV a f' t' z'] W fun e w' => RAns W bs e w')) (C7 : Hid (∀ W u, Ar W u ars → Calls Try.prog 34 #[u, fldV a f t z] W fun e w' => RAns W cs e w'))
    (C8 : Hid (∀ W b c, Ar W b bs → Ar W c cs → Calls Try.prog 35 #[b, c] W fun e w' => LAns W [] e w')) (hff : f ≠ f') :
    Calls Try.prog 6 #[.slice A n cap, fldV a f t z, fldV a' f' t' z'] w fun e w' => e = .returned (.bool true) ∧ Below w.heap.size w w' := by
  have q : decide ((300 : Int) < (n : Int)) = false := decide_eq_false (by omega)
  have qp : (z % 2 == 1) = true := by simpa using hp
  obtain ⟨u0, u1⟩ := hz
  obtain ⟨u0', u1'⟩ := hz'
  obtain ⟨a0, a1⟩ := ha
  obtain ⟨f0, f1⟩ := hf
  have HAT := Lib.hid hat
  have qf : (f == f') = false := by simpa using hff
  clear hff
  clear hat hp
  unfold fldV at *
  have N0 := Lib.hid (keep_heap (alloc_below (w.alloc (.cells #[.int .i64 a, .int .i64 f, .int .i64 t, .int .u64 z] 49)) (.cells #[.int .i64 a', .int .i64 f', .int .i64 t', .int .u64 z'] 49)) (heap_alloc_new w (.cells #[.int .i64 a, .int .i64 f, .int .i64 t, .int .u64 z] 49)))
  have M0 := Lib.hid (heap_alloc_new (w.alloc (.cells #[.int .i64 a, .int .i64 f, .int .i64 t, .int .u64 z] 49)) (.cells #[.int .i64 a', .int .i64 f', .int .i64 t', .int .u64 z'] 49))
  have B0 := Lib.hid (below_end (alloc_below w (.cells #[.int .i64 a, .int .i64 f, .int .i64 t, .int .u64 z] 49)) (alloc_below (w.alloc (.cells #[.int .i64 a, .int .i64 f, .int .i64 t, .int .u64 z] 49)) (.cells #[.int .i64 a', .int .i64 f', .int .i64 t', .int .u64 z'] 49)))
  rw [World.size_alloc] at M0
  obtain ⟨t0, t1, t2, t3⟩ := four_cells N0.out
  go_enter Try.func6, Try.ntmps6
  go_upto_region 1 with (fail)
  generalize (w.alloc (.cells #[.int .i64 a, .int .i64 f, .int .i64 t, .int .u64 z] 49)).alloc (.cells #[.int .i64 a', .int .i64 f', .int .i64 t', .int .u64 z'] 49) = W0 at *
  go_upto_region 4 with (go_at_call 34; refine (C1.out _ B0.out).mono ?_; rintro e w1 ⟨v1, rfl, X1, hb1⟩)
  have N1 := Lib.hid (keep_heap hb1 N0.out)
  have M1 := Lib.hid (keep_heap hb1 M0.out)
  have B1 := Lib.hid (below_end B0.out hb1)
  clear t0 t1 t2 t3 hb1 N0 M0
  go_upto_region 7 with (go_at_call 35; refine (C2.out _ _ B1.out X1.out).mono ?_; rintro e w2 ⟨l2, rfl, Y2, hb2⟩)
  obtain ⟨lb, lo, lc, rfl, ld⟩ := iat_one Y2.out
  have LD := Lib.hid ld
  clear ld
  have N2 := Lib.hid (keep_heap hb2 N1.out)
  have M2 := Lib.hid (keep_heap hb2 M1.out)
  have B2 := Lib.hid (below_end B1.out hb2)
  have X2 := Lib.hid (X1.out.below hb2)
  clear hb2 N1 M1 X1 Y2
  obtain ⟨t0, t1, t2, t3⟩ := four_cells N2.out
  go_upto_region 8 with (go_at_call 15; refine (C3.out _ B2.out).mono ?_; rintro e w3 ⟨rfl, hb3⟩)
  have hb := below_end hb3 (alloc_below w3 (.cells #[.int .i64 P, .int .i64 R] 24))
  have N3 := Lib.hid (keep_heap hb N2.out)
  have M3 := Lib.hid (keep_heap hb M2.out)
  have B3 := Lib.hid (below_end B2.out hb)
  have X3 := Lib.hid (X2.out.below hb)
  have LD3 := Lib.hid (keep_cell hb LD.out)
  obtain ⟨s0, s1, -, -⟩ := two_free (heap_alloc_new w3 (.cells #[.int .i64 P, .int .i64 R] 24))
  clear t0 t1 t2 t3 hb hb3 N2 M2 X2
  generalize w3.heap.size = g3 at *
  generalize w3.alloc (.cells #[.int .i64 P, .int .i64 R] 24) = W3 at *
  obtain ⟨t0, t1, t2, t3⟩ := four_cells N3.out
  go_upto_region 13 with (fail)
  clear s0 s1
  go_upto_region 19 with (go_at_call 24; refine (C4.out _ _ X3.out).mono ?_; rintro e w4 ⟨rfl, hb4⟩; obtain ⟨t0', t1', t2', t3'⟩ := four_cells (keep_heap hb4 N3.out); clear t0 t1 t2 t3)
  have N4 := Lib.hid (keep_heap hb4 N3.out)
  have M4 := Lib.hid (keep_heap hb4 M3.out)
  have B4 := Lib.hid (below_end B3.out hb4)
  have X4 := Lib.hid (X3.out.below hb4)
  have LD4 := keep_cell hb4 LD3.out
  have nat_ : (at_ != at_) = false := by simp
  have ATT := HAT.out
  clear t0' t1' t2' t3' hb4 N3 M3 X3
  rw [← HAT.out] at LD4
  have nat2 : (a + 1 + f + (P : Int) != a + 1 + f + (P : Int)) = false := by simp
  clear ATT nat_
  go_upto_region 21 with (fail)
  clear LD4 nat2
  obtain ⟨t0, t1, t2, t3⟩ := four_cells N4.out
  obtain ⟨m0, m1, m2, m3⟩ := four_cells M4.out
  have mf := frozen_of_row _ _ 0 _ _ M4.out
  go_upto_region 22 with (fail)
  have M5 := Lib.hid (show (w4.setCell ⟨w.heap.size + 1, 0, none⟩ (.int .i64 a)).heap[w.heap.size + 1]? = some (.cells #[.int .i64 a, .int .i64 f', .int .i64 t', .int .u64 z'] 49 (0, 0)) from by
    have := set_row M4.out 0 (.int .i64 a); simpa using this)
  have N5 := Lib.hid (show (w4.setCell ⟨w.heap.size + 1, 0, none⟩ (.int .i64 a)).heap[w.heap.size]? = some (.cells #[.int .i64 a, .int .i64 f, .int .i64 t, .int .u64 z] 49 (0, 0)) from set_far _ (by omega) N4.out)
  have B5 := Lib.hid (B4.out.setCell (p := ⟨w.heap.size + 1, 0, none⟩) (Nat.le_succ _) (.int .i64 a))
  have X5 := Lib.hid (ar_set X4.out m0 (.int .i64 a))
  clear t0 t1 t2 t3 m0 m1 m2 m3 mf N4 M4 X4
  generalize w4.setCell ⟨w.heap.size + 1, 0, none⟩ (.int .i64 a) = W5 at *
  obtain ⟨m0, m1, m2, m3⟩ := four_cells M5.out
  go_upto_region 23 with (go_at_call 34; refine (C5.out _ B5.out).mono ?_; rintro e w6 ⟨v6, rfl, X6, hb6⟩)
  have N6 := Lib.hid (keep_heap hb6 N5.out)
  have M6 := Lib.hid (keep_heap hb6 M5.out)
  have B6 := Lib.hid (below_end B5.out hb6)
  have X1 := Lib.hid (X5.out.below hb6)
  clear m0 m1 m2 m3 hb6 N5 M5 X5
  obtain ⟨m0, m1, m2, m3⟩ := four_cells M6.out
  go_upto_region 26 with (go_at_call 34; refine (C6.out _ _ X1.out).mono ?_; rintro e w7 ⟨v7, rfl, X7, hb7⟩)
  have N7 := Lib.hid (keep_heap hb7 N6.out)
  have M7 := Lib.hid (keep_heap hb7 M6.out)
  have B7 := Lib.hid (below_end B6.out hb7)
  have X6' := Lib.hid (X6.out.below hb7)
  clear m0 m1 m2 m3 hb7 N6 M6 X1 X6
  obtain ⟨t0, t1, t2, t3⟩ := four_cells N7.out
  go_upto_region 27 with (go_at_call 34; refine (C7.out _ _ X6'.out).mono ?_; rintro e w8 ⟨v8, rfl, X8, hb8⟩)
  have N8 := Lib.hid (keep_heap hb8 N7.out)
  have M8 := Lib.hid (keep_heap hb8 M7.out)
  have B8 := Lib.hid (below_end B7.out hb8)
  have X7' := Lib.hid (X7.out.below hb8)
  clear t0 t1 t2 t3 hb8 N7 M7 X7 X6'
  go_upto_region 28 with (go_at_call 35; refine (C8.out _ _ _ X7'.out X8.out).mono ?_; rintro e w9 ⟨l9, rfl, Y9, hb9⟩)
  obtain ⟨dA, dc, rfl⟩ := iat_nil Y9.out
  obtain ⟨t0, t1, t2, t3⟩ := four_cells (keep_heap hb9 N8.out)
  obtain ⟨m0, m1, m2, m3⟩ := four_cells (keep_heap hb9 M8.out)
  have B9 := Lib.hid (below_end B8.out hb9)
  clear hb9 N8 M8 X7' X8 Y9
  go_wp2_with (go_at_call 11; refine (awake11 _).mono ?_; rintro e y1 ⟨rfl, hy1⟩)
  exact bodyPost_ret (v := .bool true) (by simp [results, Try.f6, go_sem]) rfl ⟨rfl, below_end B9.out hy1⟩
set_option maxRecDepth 100000 in
set_option maxHeartbeats 2000000 in
theorem fields6_odd_one_np (A : Option Addr) (n cap : Nat) (a f t z a' f' t' z' : Int) (P R : Nat) (at_ : Int) (vs : List Int) (w : World) (hn : n ≤ 300) (hz : 0 ≤ z ∧ z ≤ 18446744073709551615) (hz' : 0 ≤ z' ∧ z' ≤ 18446744073709551615) (hp : z % 2 = 1) (ha : 1 ≤ a ∧ a ≤ 1601) (hf : 0 ≤ f ∧ f ≤ 63) (hP : P ≤ 63) (hat : a + 1 + f + (P : Int) = at_)
    (C1 : Hid (∀ W, Below w.heap.size w W → Calls Try.prog 34 #[.slice A n cap, fldV a f t z] W fun e w' => RAns W vs e w'))
    (C2 : Hid (∀ W u, Below w.heap.size w W → Ar W u vs → Calls Try.prog 35 #[.slice A n cap, u] W fun e w' => LAns W [at_] e w'))
    (C3 : Hid (∀ W, Below w.heap.size w W → Calls Try.prog 15 #[.slice A n cap, .int .i64 a] W fun e w' => e = .returned (.tuple #[.agg #[.int .i64 P, .int .i64 R], .int .i64 0]) ∧ Below W.heap.size W w'))
    (C4 : Hid (∀ W u, Ar W u vs → Calls Try.prog 24 #[u, .int .i64 a, .int .i64 f] W fun e w' => e = .returned (.tuple #[.int .u64 z, .int .i64 0]) ∧ Below W.heap.size W w'))
    (ars bs cs _ds : List Int) (C5 : Hid (∀ W, Below w.heap.size w W → Calls Try.prog 34 #[.slice A n cap, fldV a f' t' z'] W fun e w' => RAns W ars e w'))
    (C6 : Hid (∀ W u, Ar W u vs → Calls Try.prog 34 #[u, fldV a f' t' z'] W fun e w' => RAns W bs e w')) (C7 : Hid (∀ W u, Ar W u ars → Calls Try.prog 34 #[u, fldV a f t z] W fun e w' => RAns W cs e w'))
    (C8 : Hid (∀ W b c, Ar W b bs → Ar W c cs → Calls Try.prog 35 #[b, c] W fun e w' => LAns W [] e w')) (hff : f = f') (hzz : z % 2 ≠ z' % 2) :
    Calls Try.prog 6 #[.slice A n cap, fldV a f t z, fldV a' f' t' z'] w fun e w' => e = .returned (.bool true) ∧ Below w.heap.size w w' := by
  have q : decide ((300 : Int) < (n : Int)) = false := decide_eq_false (by omega)
  have qp : (z % 2 == 1) = true := by simpa using hp
  obtain ⟨u0, u1⟩ := hz
  obtain ⟨u0', u1'⟩ := hz'
  obtain ⟨a0, a1⟩ := ha
  obtain ⟨f0, f1⟩ := hf
  have HAT := Lib.hid hat
  have qf : (f == f') = true := by simpa using hff
  have qz : (z % 2 == z' % 2) = false := by simpa using hzz
  clear hff hzz
  clear hat hp
  unfold fldV at *
  have N0 := Lib.hid (keep_heap (alloc_below (w.alloc (.cells #[.int .i64 a, .int .i64 f, .int .i64 t, .int .u64 z] 49)) (.cells #[.int .i64 a', .int .i64 f', .int .i64 t', .int .u64 z'] 49)) (heap_alloc_new w (.cells #[.int .i64 a, .int .i64 f, .int .i64 t, .int .u64 z] 49)))
  have M0 := Lib.hid (heap_alloc_new (w.alloc (.cells #[.int .i64 a, .int .i64 f, .int .i64 t, .int .u64 z] 49)) (.cells #[.int .i64 a', .int .i64 f', .int .i64 t', .int .u64 z'] 49))
  have B0 := Lib.hid (below_end (alloc_below w (.cells #[.int .i64 a, .int .i64 f, .int .i64 t, .int .u64 z] 49)) (alloc_below (w.alloc (.cells #[.int .i64 a, .int .i64 f, .int .i64 t, .int .u64 z] 49)) (.cells #[.int .i64 a', .int .i64 f', .int .i64 t', .int .u64 z'] 49)))
  rw [World.size_alloc] at M0
  obtain ⟨t0, t1, t2, t3⟩ := four_cells N0.out
  go_enter Try.func6, Try.ntmps6
  go_upto_region 1 with (fail)
  generalize (w.alloc (.cells #[.int .i64 a, .int .i64 f, .int .i64 t, .int .u64 z] 49)).alloc (.cells #[.int .i64 a', .int .i64 f', .int .i64 t', .int .u64 z'] 49) = W0 at *
  go_upto_region 4 with (go_at_call 34; refine (C1.out _ B0.out).mono ?_; rintro e w1 ⟨v1, rfl, X1, hb1⟩)
  have N1 := Lib.hid (keep_heap hb1 N0.out)
  have M1 := Lib.hid (keep_heap hb1 M0.out)
  have B1 := Lib.hid (below_end B0.out hb1)
  clear t0 t1 t2 t3 hb1 N0 M0
  go_upto_region 7 with (go_at_call 35; refine (C2.out _ _ B1.out X1.out).mono ?_; rintro e w2 ⟨l2, rfl, Y2, hb2⟩)
  obtain ⟨lb, lo, lc, rfl, ld⟩ := iat_one Y2.out
  have LD := Lib.hid ld
  clear ld
  have N2 := Lib.hid (keep_heap hb2 N1.out)
  have M2 := Lib.hid (keep_heap hb2 M1.out)
  have B2 := Lib.hid (below_end B1.out hb2)
  have X2 := Lib.hid (X1.out.below hb2)
  clear hb2 N1 M1 X1 Y2
  obtain ⟨t0, t1, t2, t3⟩ := four_cells N2.out
  go_upto_region 8 with (go_at_call 15; refine (C3.out _ B2.out).mono ?_; rintro e w3 ⟨rfl, hb3⟩)
  have hb := below_end hb3 (alloc_below w3 (.cells #[.int .i64 P, .int .i64 R] 24))
  have N3 := Lib.hid (keep_heap hb N2.out)
  have M3 := Lib.hid (keep_heap hb M2.out)
  have B3 := Lib.hid (below_end B2.out hb)
  have X3 := Lib.hid (X2.out.below hb)
  have LD3 := Lib.hid (keep_cell hb LD.out)
  obtain ⟨s0, s1, -, -⟩ := two_free (heap_alloc_new w3 (.cells #[.int .i64 P, .int .i64 R] 24))
  clear t0 t1 t2 t3 hb hb3 N2 M2 X2
  generalize w3.heap.size = g3 at *
  generalize w3.alloc (.cells #[.int .i64 P, .int .i64 R] 24) = W3 at *
  obtain ⟨t0, t1, t2, t3⟩ := four_cells N3.out
  go_upto_region 13 with (fail)
  clear s0 s1
  go_upto_region 19 with (go_at_call 24; refine (C4.out _ _ X3.out).mono ?_; rintro e w4 ⟨rfl, hb4⟩; obtain ⟨t0', t1', t2', t3'⟩ := four_cells (keep_heap hb4 N3.out); clear t0 t1 t2 t3)
  have N4 := Lib.hid (keep_heap hb4 N3.out)
  have M4 := Lib.hid (keep_heap hb4 M3.out)
  have B4 := Lib.hid (below_end B3.out hb4)
  have X4 := Lib.hid (X3.out.below hb4)
  have LD4 := keep_cell hb4 LD3.out
  have nat_ : (at_ != at_) = false := by simp
  have ATT := HAT.out
  clear t0' t1' t2' t3' hb4 N3 M3 X3
  rw [← HAT.out] at LD4
  have nat2 : (a + 1 + f + (P : Int) != a + 1 + f + (P : Int)) = false := by simp
  clear ATT nat_
  go_upto_region 21 with (fail)
  clear LD4 nat2
  obtain ⟨t0, t1, t2, t3⟩ := four_cells N4.out
  obtain ⟨m0, m1, m2, m3⟩ := four_cells M4.out
  have mf := frozen_of_row _ _ 0 _ _ M4.out
  go_upto_region 22 with (fail)
  have M5 := Lib.hid (show (w4.setCell ⟨w.heap.size + 1, 0, none⟩ (.int .i64 a)).heap[w.heap.size + 1]? = some (.cells #[.int .i64 a, .int .i64 f', .int .i64 t', .int .u64 z'] 49 (0, 0)) from by
    have := set_row M4.out 0 (.int .i64 a); simpa using this)
  have N5 := Lib.hid (show (w4.setCell ⟨w.heap.size + 1, 0, none⟩ (.int .i64 a)).heap[w.heap.size]? = some (.cells #[.int .i64 a, .int .i64 f, .int .i64 t, .int .u64 z] 49 (0, 0)) from set_far _ (by omega) N4.out)
  have B5 := Lib.hid (B4.out.setCell (p := ⟨w.heap.size + 1, 0, none⟩) (Nat.le_succ _) (.int .i64 a))
  have X5 := Lib.hid (ar_set X4.out m0 (.int .i64 a))
  clear t0 t1 t2 t3 m0 m1 m2 m3 mf N4 M4 X4
  generalize w4.setCell ⟨w.heap.size + 1, 0, none⟩ (.int .i64 a) = W5 at *
  obtain ⟨m0, m1, m2, m3⟩ := four_cells M5.out
  go_upto_region 23 with (go_at_call 34; refine (C5.out _ B5.out).mono ?_; rintro e w6 ⟨v6, rfl, X6, hb6⟩)
  have N6 := Lib.hid (keep_heap hb6 N5.out)
  have M6 := Lib.hid (keep_heap hb6 M5.out)
  have B6 := Lib.hid (below_end B5.out hb6)
  have X1 := Lib.hid (X5.out.below hb6)
  clear m0 m1 m2 m3 hb6 N5 M5 X5
  obtain ⟨m0, m1, m2, m3⟩ := four_cells M6.out
  go_upto_region 26 with (go_at_call 34; refine (C6.out _ _ X1.out).mono ?_; rintro e w7 ⟨v7, rfl, X7, hb7⟩)
  have N7 := Lib.hid (keep_heap hb7 N6.out)
  have M7 := Lib.hid (keep_heap hb7 M6.out)
  have B7 := Lib.hid (below_end B6.out hb7)
  have X6' := Lib.hid (X6.out.below hb7)
  clear m0 m1 m2 m3 hb7 N6 M6 X1 X6
  obtain ⟨t0, t1, t2, t3⟩ := four_cells N7.out
  go_upto_region 27 with (go_at_call 34; refine (C7.out _ _ X6'.out).mono ?_; rintro e w8 ⟨v8, rfl, X8, hb8⟩)
  have N8 := Lib.hid (keep_heap hb8 N7.out)
  have M8 := Lib.hid (keep_heap hb8 M7.out)
  have B8 := Lib.hid (below_end B7.out hb8)
  have X7' := Lib.hid (X7.out.below hb8)
  clear t0 t1 t2 t3 hb8 N7 M7 X7 X6'
  go_upto_region 28 with (go_at_call 35; refine (C8.out _ _ _ X7'.out X8.out).mono ?_; rintro e w9 ⟨l9, rfl, Y9, hb9⟩)
  obtain ⟨dA, dc, rfl⟩ := iat_nil Y9.out
  obtain ⟨t0, t1, t2, t3⟩ := four_cells (keep_heap hb9 N8.out)
  obtain ⟨m0, m1, m2, m3⟩ := four_cells (keep_heap hb9 M8.out)
  have B9 := Lib.hid (below_end B8.out hb9)
  clear hb9 N8 M8 X7' X8 Y9
  go_wp2_with (go_at_call 11; refine (awake11 _).mono ?_; rintro e y1 ⟨rfl, hy1⟩)
  exact bodyPost_ret (v := .bool true) (by simp [results, Try.f6, go_sem]) rfl ⟨rfl, below_end B9.out hy1⟩
set_option maxRecDepth 100000 in
set_option maxHeartbeats 2000000 in
theorem fields6_even_nil_yerr (A : Option Addr) (n cap : Nat) (a f t z a' f' t' z' : Int) (P R : Nat) (at_ : Int) (vs : List Int) (w : World) (hn : n ≤ 300) (hz : 0 ≤ z ∧ z ≤ 18446744073709551615) (hz' : 0 ≤ z' ∧ z' ≤ 18446744073709551615) (hp : ¬ z % 2 = 1) (ha : 1 ≤ a ∧ a ≤ 1601) (hf : 0 ≤ f ∧ f ≤ 63) (_hP : P ≤ 63) (hat : a + 1 + f = at_)
    (C1 : Hid (∀ W, Below w.heap.size w W → Calls Try.prog 34 #[.slice A n cap, fldV a f t z] W fun e w' => RAns W vs e w'))
    (C2 : Hid (∀ W u, Below w.heap.size w W → Ar W u vs → Calls Try.prog 35 #[.slice A n cap, u] W fun e w' => LAns W [] e w'))
    (C3 : Hid (∀ W, Below w.heap.size w W → Calls Try.prog 15 #[.slice A n cap, .int .i64 a] W fun e w' => e = .returned (.tuple #[.agg #[.int .i64 P, .int .i64 R], .int .i64 0]) ∧ Below W.heap.size W w'))
    (C4 : Hid (∀ W u, Ar W u vs → Calls Try.prog 22 #[u, .int .i64 a, .int .i64 f] W fun e w' => e = .returned (.tuple #[.int .i64 t, .int .i64 0]) ∧ Below W.heap.size W w'))
    (E : Int) (hE : E ≠ 0) (C5 : Hid (∀ W, Below w.heap.size w W → Calls Try.prog 34 #[.slice A n cap, fldV a f' t' z'] W fun e w' => CAns W ([], E) e w')) :
    Calls Try.prog 6 #[.slice A n cap, fldV a f t z, fldV a' f' t' z'] w fun e w' => e = .returned (.bool true) ∧ Below w.heap.size w w' := by
  have q : decide ((300 : Int) < (n : Int)) = false := decide_eq_false (by omega)
  have qp : (z % 2 == 1) = false := by simpa using hp
  obtain ⟨u0, u1⟩ := hz
  obtain ⟨u0', u1'⟩ := hz'
  obtain ⟨a0, a1⟩ := ha
  obtain ⟨f0, f1⟩ := hf
  have HAT := Lib.hid hat
  have qE : (E != 0) = true := by simpa using hE
  clear hE
  clear hat hp
  unfold fldV at *
  have N0 := Lib.hid (keep_heap (alloc_below (w.alloc (.cells #[.int .i64 a, .int .i64 f, .int .i64 t, .int .u64 z] 49)) (.cells #[.int .i64 a', .int .i64 f', .int .i64 t', .int .u64 z'] 49)) (heap_alloc_new w (.cells #[.int .i64 a, .int .i64 f, .int .i64 t, .int .u64 z] 49)))
  have M0 := Lib.hid (heap_alloc_new (w.alloc (.cells #[.int .i64 a, .int .i64 f, .int .i64 t, .int .u64 z] 49)) (.cells #[.int .i64 a', .int .i64 f', .int .i64 t', .int .u64 z'] 49))
  have B0 := Lib.hid (below_end (alloc_below w (.cells #[.int .i64 a, .int .i64 f, .int .i64 t, .int .u64 z] 49)) (alloc_below (w.alloc (.cells #[.int .i64 a, .int .i64 f, .int .i64 t, .int .u64 z] 49)) (.cells #[.int .i64 a', .int .i64 f', .int .i64 t', .int .u64 z'] 49)))
  rw [World.size_alloc] at M0
  obtain ⟨t0, t1, t2, t3⟩ := four_cells N0.out
  go_enter Try.func6, Try.ntmps6
  go_upto_region 1 with (fail)
  generalize (w.alloc (.cells #[.int .i64 a, .int .i64 f, .int .i64 t, .int .u64 z] 49)).alloc (.cells #[.int .i64 a', .int .i64 f', .int .i64 t', .int .u64 z'] 49) = W0 at *
  go_upto_region 4 with (go_at_call 34; refine (C1.out _ B0.out).mono ?_; rintro e w1 ⟨v1, rfl, X1, hb1⟩)
  have N1 := Lib.hid (keep_heap hb1 N0.out)
  have M1 := Lib.hid (keep_heap hb1 M0.out)
  have B1 := Lib.hid (below_end B0.out hb1)
  clear t0 t1 t2 t3 hb1 N0 M0
  go_upto_region 7 with (go_at_call 35; refine (C2.out _ _ B1.out X1.out).mono ?_; rintro e w2 ⟨l2, rfl, Y2, hb2⟩)
  obtain ⟨lA, lc, rfl⟩ := iat_nil Y2.out
  have N2 := Lib.hid (keep_heap hb2 N1.out)
  have M2 := Lib.hid (keep_heap hb2 M1.out)
  have B2 := Lib.hid (below_end B1.out hb2)
  have X2 := Lib.hid (X1.out.below hb2)
  clear hb2 N1 M1 X1 Y2
  obtain ⟨t0, t1, t2, t3⟩ := four_cells N2.out
  go_upto_region 8 with (go_at_call 15; refine (C3.out _ B2.out).mono ?_; rintro e w3 ⟨rfl, hb3⟩)
  have hb := below_end hb3 (alloc_below w3 (.cells #[.int .i64 P, .int .i64 R] 24))
  have N3 := Lib.hid (keep_heap hb N2.out)
  have M3 := Lib.hid (keep_heap hb M2.out)
  have B3 := Lib.hid (below_end B2.out hb)
  have X3 := Lib.hid (X2.out.below hb)
  obtain ⟨s0, s1, -, -⟩ := two_free (heap_alloc_new w3 (.cells #[.int .i64 P, .int .i64 R] 24))
  clear t0 t1 t2 t3 hb hb3 N2 M2 X2
  generalize w3.heap.size = g3 at *
  generalize w3.alloc (.cells #[.int .i64 P, .int .i64 R] 24) = W3 at *
  obtain ⟨t0, t1, t2, t3⟩ := four_cells N3.out
  go_upto_region 16 with (fail)
  clear s0 s1
  go_upto_region 19 with (go_at_call 22; refine (C4.out _ _ X3.out).mono ?_; rintro e w4 ⟨rfl, hb4⟩; obtain ⟨t0', t1', t2', t3'⟩ := four_cells (keep_heap hb4 N3.out); clear t0 t1 t2 t3)
  have N4 := Lib.hid (keep_heap hb4 N3.out)
  have M4 := Lib.hid (keep_heap hb4 M3.out)
  have B4 := Lib.hid (below_end B3.out hb4)
  have X4 := Lib.hid (X3.out.below hb4)
  clear t0' t1' t2' t3' hb4 N3 M3 X3
  go_upto_region 21 with (fail)
  obtain ⟨t0, t1, t2, t3⟩ := four_cells N4.out
  obtain ⟨m0, m1, m2, m3⟩ := four_cells M4.out
  have mf := frozen_of_row _ _ 0 _ _ M4.out
  go_upto_region 22 with (fail)
  have M5 := Lib.hid (show (w4.setCell ⟨w.heap.size + 1, 0, none⟩ (.int .i64 a)).heap[w.heap.size + 1]? = some (.cells #[.int .i64 a, .int .i64 f', .int .i64 t', .int .u64 z'] 49 (0, 0)) from by
    have := set_row M4.out 0 (.int .i64 a); simpa using this)
  have N5 := Lib.hid (show (w4.setCell ⟨w.heap.size + 1, 0, none⟩ (.int .i64 a)).heap[w.heap.size]? = some (.cells #[.int .i64 a, .int .i64 f, .int .i64 t, .int .u64 z] 49 (0, 0)) from set_far _ (by omega) N4.out)
  have B5 := Lib.hid (B4.out.setCell (p := ⟨w.heap.size + 1, 0, none⟩) (Nat.le_succ _) (.int .i64 a))
  have X5 := Lib.hid (ar_set X4.out m0 (.int .i64 a))
  clear t0 t1 t2 t3 m0 m1 m2 m3 mf N4 M4 X4
  generalize w4.setCell ⟨w.heap.size + 1, 0, none⟩ (.int .i64 a) = W5 at *
  obtain ⟨m0, m1, m2, m3⟩ := four_cells M5.out
  go_wp2_with (first
    | (go_at_call 34; refine (C5.out _ B5.out).mono ?_; rintro e w6 ⟨u6, rfl, ho6, hb6⟩)
    | (go_at_call 11; refine (awake11 _).mono ?_; rintro e w7 ⟨rfl, hb7⟩))
  exact bodyPost_ret (v := .bool true) (by simp [results, Try.f6, go_sem]) rfl ⟨rfl, below_end (below_end B5.out hb6) hb7⟩
set_option maxRecDepth 100000 in
set_option maxHeartbeats 2000000 in
theorem fields6_even_nil_same (A : Option Addr) (n cap : Nat) (a f t z a' f' t' z' : Int) (P R : Nat) (at_ : Int) (vs : List Int) (w : World) (hn : n ≤ 300) (hz : 0 ≤ z ∧ z ≤ 18446744073709551615) (hz' : 0 ≤ z' ∧ z' ≤ 18446744073709551615) (hp : ¬ z % 2 = 1) (ha : 1 ≤ a ∧ a ≤ 1601) (hf : 0 ≤ f ∧ f ≤ 63) (_hP : P ≤ 63) (hat : a + 1 + f = at_)
    (C1 : Hid (∀ W, Below w.heap.size w W → Calls Try.prog 34 #[.slice A n cap, fldV a f t z] W fun e w' => RAns W vs e w'))
    (C2 : Hid (∀ W u, Below w.heap.size w W → Ar W u vs → Calls Try.prog 35 #[.slice A n cap, u] W fun e w' => LAns W [] e w'))
    (C3 : Hid (∀ W, Below w.heap.size w W → Calls Try.prog 15 #[.slice A n cap, .int .i64 a] W fun e w' => e = .returned (.tuple #[.agg #[.int .i64 P, .int .i64 R], .int .i64 0]) ∧ Below W.heap.size W w'))
    (C4 : Hid (∀ W u, Ar W u vs → Calls Try.prog 22 #[u, .int .i64 a, .int .i64 f] W fun e w' => e = .returned (.tuple #[.int .i64 t, .int .i64 0]) ∧ Below W.heap.size W w'))
    (ars bs cs ds : List Int) (C5 : Hid (∀ W, Below w.heap.size w W → Calls Try.prog 34 #[.slice A n cap, fldV a f' t' z'] W fun e w' => RAns W ars e w'))
    (C6 : Hid (∀ W u, Ar W u vs → Calls Try.prog 34 #[u, fldV a f' t' z'] W fun e w' => RAns W bs e w')) (C7 : Hid (∀ W u, Ar W u ars → Calls Try.prog 34 #[u, fldV a f t z] W fun e w' => RAns W cs e w'))
    (C8 : Hid (∀ W b c, Ar W b bs → Ar W c cs → Calls Try.prog 35 #[b, c] W fun e w' => LAns W ds e w')) (hff : f = f') (hzz : z % 2 = z' % 2) :
    Calls Try.prog 6 #[.slice A n cap, fldV a f t z, fldV a' f' t' z'] w fun e w' => e = .returned (.bool true) ∧ Below w.heap.size w w' := by
  have q : decide ((300 : Int) < (n : Int)) = false := decide_eq_false (by omega)
  have qp : (z % 2 == 1) = false := by simpa using hp
  obtain ⟨u0, u1⟩ := hz
  obtain ⟨u0', u1'⟩ := hz'
  obtain ⟨a0, a1⟩ := ha
  obtain ⟨f0, f1⟩ := hf
  have HAT := Lib.hid hat
  have qf : (f == f') = true := by simpa using hff
  have qz : (z % 2 == z' % 2) = true := by simpa using hzz
  clear hff hzz
  clear hat hp
  unfold fldV at *
  have N0 := Lib.hid (keep_heap (alloc_below (w.alloc (.cells #[.int .i64 a, .int .i64 f, .int .i64 t, .int .u64 z] 49)) (.cells #[.int .i64 a', .int .i64 f', .int .i64 t', .int .u64 z'] 49)) (heap_alloc_new w (.cells #[.int .i64 a, .int .i64 f, .int .i64 t, .int .u64 z] 49)))
  have M0 := Lib.hid (heap_alloc_new (w.alloc (.cells #[.int .i64 a, .int .i64 f, .int .i64 t, .int .u64 z] 49)) (.cells #[.int .i64 a', .int .i64 f', .int .i64 t', .int .u64 z'] 49))
  have B0 := Lib.hid (below_end (alloc_below w (.cells #[.int .i64 a, .int .i64 f, .int .i64 t, .int .u64 z] 49)) (alloc_below (w.alloc (.cells #[.int .i64 a, .int .i64 f, .int .i64 t, .int .u64 z] 49)) (.cells #[.int .i64 a', .int .i64 f', .int .i64 t', .int .u64 z'] 49)))
  rw [World.size_alloc] at M0
  obtain ⟨t0, t1, t2, t3⟩ := four_cells N0.out
  go_enter Try.func6, Try.ntmps6
  go_upto_region 1 with (fail)
  generalize (w.alloc (.cells #[.int .i64 a, .int .i64 f, .int .i64 t, .int .u64 z] 49)).alloc (.cells #[.int .i64 a', .int .i64 f', .int .i64 t', .int .u64 z'] 49) = W0 at *
  go_upto_region 4 with (go_at_call 34; refine (C1.out _ B0.out).mono ?_; rintro e w1 ⟨v1, rfl, X1, hb1⟩)
  have N1 := Lib.hid (keep_heap hb1 N0.out)
  have M1 := Lib.hid (keep_heap hb1 M0.out)
  have B1 := Lib.hid (below_end B0.out hb1)
  clear t0 t1 t2 t3 hb1 N0 M0
  go_upto_region 7 with (go_at_call 35; refine (C2.out _ _ B1.out X1.out).mono ?_; rintro e w2 ⟨l2, rfl, Y2, hb2⟩)
  obtain ⟨lA, lc, rfl⟩ := iat_nil Y2.out
  have N2 := Lib.hid (keep_heap hb2 N1.out)
  have M2 := Lib.hid (keep_heap hb2 M1.out)
  have B2 := Lib.hid (below_end B1.out hb2)
  have X2 := Lib.hid (X1.out.below hb2)
  clear hb2 N1 M1 X1 Y2
  obtain ⟨t0, t1, t2, t3⟩ := four_cells N2.out
  go_upto_region 8 with (go_at_call 15; refine (C3.out _ B2.out).mono ?_; rintro e w3 ⟨rfl, hb3⟩)
  have hb := below_end hb3 (alloc_below w3 (.cells #[.int .i64 P, .int .i64 R] 24))
  have N3 := Lib.hid (keep_heap hb N2.out)
  have M3 := Lib.hid (keep_heap hb M2.out)
  have B3 := Lib.hid (below_end B2.out hb)
  have X3 := Lib.hid (X2.out.below hb)
  obtain ⟨s0, s1, -, -⟩ := two_free (heap_alloc_new w3 (.cells #[.int .i64 P, .int .i64 R] 24))
  clear t0 t1 t2 t3 hb hb3 N2 M2 X2
  generalize w3.heap.size = g3 at *
  generalize w3.alloc (.cells #[.int .i64 P, .int .i64 R] 24) = W3 at *
  obtain ⟨t0, t1, t2, t3⟩ := four_cells N3.out
  go_upto_region 16 with (fail)
  clear s0 s1
  go_upto_region 19 with (go_at_call 22; refine (C4.out _ _ X3.out).mono ?_; rintro e w4 ⟨rfl, hb4⟩; obtain ⟨t0', t1', t2', t3'⟩ := four_cells (keep_heap hb4 N3.out); clear t0 t1 t2 t3)
  have N4 := Lib.hid (keep_heap hb4 N3.out)
  have M4 := Lib.hid (keep_heap hb4 M3.out)
  have B4 := Lib.hid (below_end B3.out hb4)
  have X4 := Lib.hid (X3.out.below hb4)
  clear t0' t1' t2' t3' hb4 N3 M3 X3
  go_upto_region 21 with (fail)
  obtain ⟨t0, t1, t2, t3⟩ := four_cells N4.out
  obtain ⟨m0, m1, m2, m3⟩ := four_cells M4.out
  have mf := frozen_of_row _ _ 0 _ _ M4.out
  go_upto_region 22 with (fail)
  have M5 := Lib.hid (show (w4.setCell ⟨w.heap.size + 1, 0, none⟩ (.int .i64 a)).heap[w.heap.size + 1]? = some (.cells #[.int .i64 a, .int .i64 f', .int .i64 t', .int .u64 z'] 49 (0, 0)) from by
    have := set_row M4.out 0 (.int .i64 a); simpa using this)
  have N5 := Lib.hid (show (w4.setCell ⟨w.heap.size + 1, 0, none⟩ (.int .i64 a)).heap[w.heap.size]? = some (.cells #[.int .i64 a, .int .i64 f, .int .i64 t, .int .u64 z] 49 (0, 0)) from set_far _ (by omega) N4.out)
  have B5 := Lib.hid (B4.out.setCell (p := ⟨w.heap.size + 1, 0, none⟩) (Nat.le_succ _) (.int .i64 a))
  have X5 := Lib.hid (ar_set X4.out m0 (.int .i64 a))
  clear t0 t1 t2 t3 m0 m1 m2 m3 mf N4 M4 X4
  generalize w4.setCell ⟨w.heap.size + 1, 0, none⟩ (.int .i64 a) = W5 at *
  obtain ⟨m0, m1, m2, m3⟩ := four_cells M5.out
  go_upto_region 23 with (go_at_call 34; refine (C5.out _ B5.out).mono ?_; rintro e w6 ⟨v6, rfl, X6, hb6⟩)
  have N6 := Lib.hid (keep_heap hb6 N5.out)
  have M6 := Lib.hid (keep_heap hb6 M5.out)
  have B6 := Lib.hid (below_end B5.out hb6)
  have X1 := Lib.hid (X5.out.below hb6)
  clear m0 m1 m2 m3 hb6 N5 M5 X5
  obtain ⟨m0, m1, m2, m3⟩ := four_cells M6.out
  go_upto_region 26 with (go_at_call 34; refine (C6.out _ _ X1.out).mono ?_; rintro e w7 ⟨v7, rfl, X7, hb7⟩)
  have N7 := Lib.hid (keep_heap hb7 N6.out)
  have M7 := Lib.hid (keep_heap hb7 M6.out)
  have B7 := Lib.hid (below_end B6.out hb7)
  have X6' := Lib.hid (X6.out.below hb7)
  clear m0 m1 m2 m3 hb7 N6 M6 X1 X6
  obtain ⟨t0, t1, t2, t3⟩ := four_cells N7.out
  go_upto_region 27 with (go_at_call 34; refine (C7.out _ _ X6'.out).mono ?_; rintro e w8 ⟨v8, rfl, X8, hb8⟩)
  have N8 := Lib.hid (keep_heap hb8 N7.out)
  have M8 := Lib.hid (keep_heap hb8 M7.out)
  have B8 := Lib.hid (below_end B7.out hb8)
  have X7' := Lib.hid (X7.out.below hb8)
  clear t0 t1 t2 t3 hb8 N7 M7 X7 X6'
  go_upto_region 28 with (go_at_call 35; refine (C8.out _ _ _ X7'.out X8.out).mono ?_; rintro e w9 ⟨l9, rfl, Y9, hb9⟩)
  obtain ⟨dA, dc, rfl⟩ := iat_any Y9.out
  obtain ⟨t0, t1, t2, t3⟩ := four_cells (keep_heap hb9 N8.out)
  obtain ⟨m0, m1, m2, m3⟩ := four_cells (keep_heap hb9 M8.out)
  have B9 := Lib.hid (below_end B8.out hb9)
  clear hb9 N8 M8 X7' X8 Y9
  go_wp2_with (go_at_call 11; refine (awake11 _).mono ?_; rintro e y1 ⟨rfl, hy1⟩)
  exact bodyPost_ret (v := .bool true) (by simp [results, Try.f6, go_sem]) rfl ⟨rfl, below_end B9.out hy1⟩
set_option maxRecDepth 100000 in
set_option maxHeartbeats 2000000 in
theorem fields6_even_nil_nf (A : Option Addr) (n cap : Nat) (a f t z a' f' t' z' : Int) (P R : Nat) (at_ : Int) (vs : List Int) (w : World) (hn : n ≤ 300) (hz : 0 ≤ z ∧ z ≤ 18446744073709551615) (hz' : 0 ≤ z' ∧ z' ≤ 18446744073709551615) (hp : ¬ z % 2 = 1) (ha : 1 ≤ a ∧ a ≤ 1601) (hf : 0 ≤ f ∧ f ≤ 63) (_hP : P ≤ 63) (hat : a + 1 + f = at_)
    (C1 : Hid (∀ W, Below w.heap.size w W → Calls Try.prog 34 #[.slice A n cap, fldV a f t z] W fun e w' => RAns W vs e w'))
    (C2 : Hid (∀ W u, Below w.heap.size w W → Ar W u vs → Calls Try.prog 35 #[.slice A n cap, u] W fun e w' => LAns W [] e w'))
    (C3 : Hid (∀ W, Below w.heap.size w W → Calls Try.prog 15 #[.slice A n cap, .int .i64 a] W fun e w' => e = .returned (.tuple #[.agg #[.int .i64 P, .int .i64 R], .int .i64 0]) ∧ Below W.heap.size W w'))
    (C4 : Hid (∀ W u, Ar W u vs → Calls Try.prog 22 #[u, .int .i64 a, .int .i64 f] W fun e w' => e = .returned (.tuple #[.int .i64 t, .int .i64 0]) ∧ Below W.heap.size W w'))
    (ars bs cs _ds : List Int) (C5 : Hid (∀ W, Below w.heap.size w W → Calls Try.prog 34 #[.slice A n cap, fldV a f' t' z'] W fun e w' => RAns W ars e w'))
    (C6 : Hid (∀ W u, Ar W u vs → Calls Try.prog 34 #[u, fldV a f' t' z'] W fun e w' => RAns W bs e w')) (C7 : Hid (∀ W u, Ar W u ars → Calls Try.prog 34 #[u, fldV a f t z] W fun e w' => RAns W cs e w'))
    (C8 : Hid (∀ W b c, Ar W b bs → Ar W c cs → Calls Try.prog 35 #[b, c] W fun e w' => LAns W [] e w')) (hff : f ≠ f') :
    Calls Try.prog 6 #[.slice A n cap, fldV a f t z, fldV a' f' t' z'] w fun e w' => e = .returned (.bool true) ∧ Below w.heap.size w w' := by
  have q : decide ((300 : Int) < (n : Int)) = false := decide_eq_false (by omega)
  have qp : (z % 2 == 1) = false := by simpa using hp
  obtain ⟨u0, u1⟩ := hz
  obtain ⟨u0', u1'⟩ := hz'
  obtain ⟨a0, a1⟩ := ha
  obtain ⟨f0, f1⟩ := hf
  have HAT := Lib.hid hat
  have qf : (f == f') = false := by simpa using hff
  clear hff
  clear hat hp
  unfold fldV at *
  have N0 := Lib.hid (keep_heap (alloc_below (w.alloc (.cells #[.int .i64 a, .int .i64 f, .int .i64 t, .int .u64 z] 49)) (.cells #[.int .i64 a', .int .i64 f', .int .i64 t', .int .u64 z'] 49)) (heap_alloc_new w (.cells #[.int .i64 a, .int .i64 f, .int .i64 t, .int .u64 z] 49)))
  have M0 := Lib.hid (heap_alloc_new (w.alloc (.cells #[.int .i64 a, .int .i64 f, .int .i64 t, .int .u64 z] 49)) (.cells #[.int .i64 a', .int .i64 f', .int .i64 t', .int .u64 z'] 49))
  have B0 := Lib.hid (below_end (alloc_below w (.cells #[.int .i64 a, .int .i64 f, .int .i64 t, .int .u64 z] 49)) (alloc_below (w.alloc (.cells #[.int .i64 a, .int .i64 f, .int .i64 t, .int .u64 z] 49)) (.cells #[.int .i64 a', .int .i64 f', .int .i64 t', .int .u64 z'] 49)))
  rw [World.size_alloc] at M0
  obtain ⟨t0, t1, t2, t3⟩ := four_cells N0.out
  go_enter Try.func6, Try.ntmps6
  go_upto_region 1 with (fail)
  generalize (w.alloc (.cells #[.int .i64 a, .int .i64 f, .int .i64 t, .int .u64 z] 49)).alloc (.cells #[.int .i64 a', .int .i64 f', .int .i64 t', .int .u64 z'] 49) = W0 at *
  go_upto_region 4 with (go_at_call 34; refine (C1.out _ B0.out).mono ?_; rintro e w1 ⟨v1, rfl, X1, hb1⟩)
  have N1 := Lib.hid (keep_heap hb1 N0.out)
  have M1 := Lib.hid (keep_heap hb1 M0.out)
  have B1 := Lib.hid (below_end B0.out hb1)
  clear t0 t1 t2 t3 hb1 N0 M0
  go_upto_region 7 with (go_at_call 35; refine (C2.out _ _ B1.out X1.out).mono ?_; rintro e w2 ⟨l2, rfl, Y2, hb2⟩)
  obtain ⟨lA, lc, rfl⟩ := iat_nil Y2.out
  have N2 := Lib.hid (keep_heap hb2 N1.out)
  have M2 := Lib.hid (keep_heap hb2 M1.out)
  have B2 := Lib.hid (below_end B1.out hb2)
  have X2 := Lib.hid (X1.out.below hb2)
  clear hb2 N1 M1 X1 Y2
  obtain ⟨t0, t1, t2, t3⟩ := four_cells N2.out
  go_upto_region 8 with (go_at_call 15; refine (C3.out _ B2.out).mono ?_; rintro e w3 ⟨rfl, hb3⟩)
  have hb := below_end hb3 (alloc_below w3 (.cells #[.int .i64 P, .int .i64 R] 24))
  have N3 := Lib.hid (keep_heap hb N2.out)
  have M3 := Lib.hid (keep_heap hb M2.out)
  have B3 := Lib.hid (below_end B2.out hb)
  have X3 := Lib.hid (X2.out.below hb)
  obtain ⟨s0, s1, -, -⟩ := two_free (heap_alloc_new w3 (.cells #[.int .i64 P, .int .i64 R] 24))
  clear t0 t1 t2 t3 hb hb3 N2 M2 X2
  generalize w3.heap.size = g3 at *
  generalize w3.alloc (.cells #[.int .i64 P, .int .i64 R] 24) = W3 at *
  obtain ⟨t0, t1, t2, t3⟩ := four_cells N3.out
  go_upto_region 16 with (fail)
  clear s0 s1
  go_upto_region 19 with (go_at_call 22; refine (C4.out _ _ X3.out).mono ?_; rintro e w4 ⟨rfl, hb4⟩; obtain ⟨t0', t1', t2', t3'⟩ := four_cells (keep_heap hb4 N3.out); clear t0 t1 t2 t3)
  have N4 := Lib.hid (keep_heap hb4 N3.out)
  have M4 := Lib.hid (keep_heap hb4 M3.out)
  have B4 := Lib.hid (below_end B3.out hb4)
  have X4 := Lib.hid (X3.out.below hb4)
  clear t0' t1' t2' t3' hb4 N3 M3 X3
  go_upto_region 21 with (fail)
  obtain ⟨t0, t1, t2, t3⟩ := four_cells N4.out
  obtain ⟨m0, m1, m2, m3⟩ := four_cells M4.out
  have mf := frozen_of_row _ _ 0 _ _ M4.out
  go_upto_region 22 with (fail)
  have M5 := Lib.hid (show (w4.setCell ⟨w.heap.size + 1, 0, none⟩ (.int .i64 a)).heap[w.heap.size + 1]? = some (.cells #[.int .i64 a, .int .i64 f', .int .i64 t', .int .u64 z'] 49 (0, 0)) from by
    have := set_row M4.out 0 (.int .i64 a); simpa using this)
  have N5 := Lib.hid (show (w4.setCell ⟨w.heap.size + 1, 0, none⟩ (.int .i64 a)).heap[w.heap.size]? = some (.cells #[.int .i64 a, .int .i64 f, .int .i64 t, .int .u64 z] 49 (0, 0)) from set_far _ (by omega) N4.out)
  have B5 := Lib.hid (B4.out.setCell (p := ⟨w.heap.size + 1, 0, none⟩) (Nat.le_succ _) (.int .i64 a))
  have X5 := Lib.hid (ar_set X4.out m0 (.int .i64 a))
  clear t0 t1 t2 t3 m0 m1 m2 m3 mf N4 M4 X4
  generalize w4.setCell ⟨w.heap.size + 1, 0, none⟩ (.int .i64 a) = W5 at *
  obtain ⟨m0, m1, m2, m3⟩ := four_cells M5.out
  go_upto_region 23 with (go_at_call 34; refine (C5.out _ B5.out).mono ?_; rintro e w6 ⟨v6, rfl, X6, hb6⟩)
  have N6 := Lib.hid (keep_heap hb6 N5.out)
  have M6 := Lib.hid (keep_heap hb6 M5.out)
  have B6 := Lib.hid (below_end B5.out hb6)
  have X1 := Lib.hid (X5.out.below hb6)
  clear m0 m1 m2 m3 hb6 N5 M5 X5
  obtain ⟨m0, m1, m2, m3⟩ := four_cells M6.out
  go_upto_region 26 with (go_at_call 34; refine (C6.out _ _ X1.out).mono ?_; rintro e w7 ⟨v7, rfl, X7, hb7⟩)
  have N7 := Lib.hid (keep_heap hb7 N6.out)
  have M7 := Lib.hid (keep_heap hb7 M6.out)
  have B7 := Lib.hid (below_end B6.out hb7)
  have X6' := Lib.hid (X6.out.below hb7)
  clear m0 m1 m2 m3 hb7 N6 M6 X1 X6
  obtain ⟨t0, t1, t2, t3⟩ := four_cells N7.out
  go_upto_region 27 with (go_at_call 34; refine (C7.out _ _ X6'.out).mono ?_; rintro e w8 ⟨v8, rfl, X8, hb8⟩)
  have N8 := Lib.hid (keep_heap hb8 N7.out)
  have M8 := Lib.hid (keep_heap hb8 M7.out)
  have B8 := Lib.hid (below_end B7.out hb8)
  have X7' := Lib.hid (X7.out.below hb8)
  clear t0 t1 t2 t3 hb8 N7 M7 X7 X6'
  go_upto_region 28 with (go_at_call 35; refine (C8.out _ _ _ X7'.out X8.out).mono ?_; rintro e w9 ⟨l9, rfl, Y9, hb9⟩)
  obtain ⟨dA, dc, rfl⟩ := iat_nil Y9.out
  obtain ⟨t0, t1, t2, t3⟩ := four_cells (keep_heap hb9 N8.out)
  obtain ⟨m0, m1, m2, m3⟩ := four_cells (keep_heap hb9 M8.out)
  have B9 := Lib.hid (below_end B8.out hb9)
  clear hb9 N8 M8 X7' X8 Y9
  go_wp2_with (go_at_call 11; refine (awake11 _).mono ?_; rintro e y1 ⟨rfl, hy1⟩)
  exact bodyPost_ret (v := .bool true) (by simp [results, Try.f6, go_sem]) rfl ⟨rfl, below_end B9.out hy1⟩
set_option maxRecDepth 100000 in
set_option maxHeartbeats 2000000 in
theorem fields6_even_nil_np (A : Option Addr) (n cap : Nat) (a f t z a' f' t' z' : Int) (P R : Nat) (at_ : Int) (vs : List Int) (w : World) (hn : n ≤ 300) (hz : 0 ≤ z ∧ z ≤ 18446744073709551615) (hz' : 0 ≤ z' ∧ z' ≤ 18446744073709551615) (hp : ¬ z % 2 = 1) (ha : 1 ≤ a ∧ a ≤ 1601) (hf : 0 ≤ f ∧ f ≤ 63) (_hP : P ≤ 63) (hat : a + 1 + f = at_)
    (C1 : Hid (∀ W, Below w.heap.size w W → Calls Try.prog 34 #[.slice A n cap, fldV a f t z] W fun e w' => RAns W vs e w'))
    (C2 : Hid (∀ W u, Below w.heap.size w W → Ar W u vs → Calls Try.prog 35 #[.slice A n cap, u] W fun e w' => LAns W [] e w'))
    (C3 : Hid (∀ W, Below w.heap.size w W → Calls Try.prog 15 #[.slice A n cap, .int .i64 a] W fun e w' => e = .returned (.tuple #[.agg #[.int .i64 P, .int .i64 R], .int .i64 0]) ∧ Below W.heap.size W w'))
    (C4 : Hid (∀ W u, Ar W u vs → Calls Try.prog 22 #[u, .int .i64 a, .int .i64 f] W fun e w' => e = .returned (.tuple #[.int .i64 t, .int .i64 0]) ∧ Below W.heap.size W w'))
    (ars bs cs _ds : List Int) (C5 : Hid (∀ W, Below w.heap.size w W → Calls Try.prog 34 #[.slice A n cap, fldV a f' t' z'] W fun e w' => RAns W ars e w'))
    (C6 : Hid (∀ W u, Ar W u vs → Calls Try.prog 34 #[u, fldV a f' t' z'] W fun e w' => RAns W bs e w')) (C7 : Hid (∀ W u, Ar W u ars → Calls Try.prog 34 #[u, fldV a f t z] W fun e w' => RAns W cs e w'))
    (C8 : Hid (∀ W b c, Ar W b bs → Ar W c cs → Calls Try.prog 35 #[b, c] W fun e w' => LAns W [] e w')) (hff : f = f') (hzz : z % 2 ≠ z' % 2) :
    Calls Try.prog 6 #[.slice A n cap, fldV a f t z, fldV a' f' t' z'] w fun e w' => e = .returned (.bool true) ∧ Below w.heap.size w w' := by
  have q : decide ((300 : Int) < (n : Int)) = false := decide_eq_false (by omega)
  have qp : (z % 2 == 1) = false := by simpa using hp
  obtain ⟨u0, u1⟩ := hz
  obtain ⟨u0', u1'⟩ := hz'
  obtain ⟨a0, a1⟩ := ha
  obtain ⟨f0, f1⟩ := hf
  have HAT := Lib.hid hat
  have qf : (f == f') = true := by simpa using hff
  have qz : (z % 2 == z' % 2) = false := by simpa using hzz
  clear hff hzz
  clear hat hp
  unfold fldV at *
  have N0 := Lib.hid (keep_heap (alloc_below (w.alloc (.cells #[.int .i64 a, .int .i64 f, .int .i64 t, .int .u64 z] 49)) (.cells #[.int .i64 a', .int .i64 f', .int .i64 t', .int .u64 z'] 49)) (heap_alloc_new w (.cells #[.int .i64 a, .int .i64 f, .int .i64 t, .int .u64 z] 49)))
  have M0 := Lib.hid (heap_alloc_new (w.alloc (.cells #[.int .i64 a, .int .i64 f, .int .i64 t, .int .u64 z] 49)) (.cells #[.int .i64 a', .int .i64 f', .int .i64 t', .int .u64 z'] 49))
  have B0 := Lib.hid (below_end (alloc_below w (.cells #[.int .i64 a, .int .i64 f, .int .i64 t, .int .u64 z] 49)) (alloc_below (w.alloc (.cells #[.int .i64 a, .int .i64 f, .int .i64 t, .int .u64 z] 49)) (.cells #[.int .i64 a', .int .i64 f', .int .i64 t', .int .u64 z'] 49)))
  rw [World.size_alloc] at M0
  obtain ⟨t0, t1, t2, t3⟩ := four_cells N0.out
  go_enter Try.func6, Try.ntmps6
  go_upto_region 1 with (fail)
  generalize (w.alloc (.cells #[.int .i64 a, .int .i64 f, .int .i64 t, .int .u64 z] 49)).alloc (.cells #[.int .i64 a', .int .i64 f', .int .i64 t', .int .u64 z'] 49) = W0 at *
  go_upto_region 4 with (go_at_call 34; refine (C1.out _ B0.out).mono ?_; rintro e w1 ⟨v1, rfl, X1, hb1⟩)
  have N1 := Lib.hid (keep_heap hb1 N0.out)
  have M1 := Lib.hid (keep_heap hb1 M0.out)
  have B1 := Lib.hid (below_end B0.out hb1)
  clear t0 t1 t2 t3 hb1 N0 M0
  go_upto_region 7 with (go_at_call 35; refine (C2.out _ _ B1.out X1.out).mono ?_; rintro e w2 ⟨l2, rfl, Y2, hb2⟩)
  obtain ⟨lA, lc, rfl⟩ := iat_nil Y2.out
  have N2 := Lib.hid (keep_heap hb2 N1.out)
  have M2 := Lib.hid (keep_heap hb2 M1.out)
  have B2 := Lib.hid (below_end B1.out hb2)
  have X2 := Lib.hid (X1.out.below hb2)
  clear hb2 N1 M1 X1 Y2
  obtain ⟨t0, t1, t2, t3⟩ := four_cells N2.out
  go_upto_region 8 with (go_at_call 15; refine (C3.out _ B2.out).mono ?_; rintro e w3 ⟨rfl, hb3⟩)
  have hb := below_end hb3 (alloc_below w3 (.cells #[.int .i64 P, .int .i64 R] 24))
  have N3 := Lib.hid (keep_heap hb N2.out)
  have M3 := Lib.hid (keep_heap hb M2.out)
  have B3 := Lib.hid (below_end B2.out hb)
  have X3 := Lib.hid (X2.out.below hb)
  obtain ⟨s0, s1, -, -⟩ := two_free (heap_alloc_new w3 (.cells #[.int .i64 P, .int .i64 R] 24))
  clear t0 t1 t2 t3 hb hb3 N2 M2 X2
  generalize w3.heap.size = g3 at *
  generalize w3.alloc (.cells #[.int .i64 P, .int .i64 R] 24) = W3 at *
  obtain ⟨t0, t1, t2, t3⟩ := four_cells N3.out
  go_upto_region 16 with (fail)
  clear s0 s1
  go_upto_region 19 with (go_at_call 22; refine (C4.out _ _ X3.out).mono ?_; rintro e w4 ⟨rfl, hb4⟩; obtain ⟨t0', t1', t2', t3'⟩ := four_cells (keep_heap hb4 N3.out); clear t0 t1 t2 t3)
  have N4 := Lib.hid (keep_heap hb4 N3.out)
  have M4 := Lib.hid (keep_heap hb4 M3.out)
  have B4 := Lib.hid (below_end B3.out hb4)
  have X4 := Lib.hid (X3.out.below hb4)
  clear t0' t1' t2' t3' hb4 N3 M3 X3
  go_upto_region 21 with (fail)
  obtain ⟨t0, t1, t2, t3⟩ := four_cells N4.out
  obtain ⟨m0, m1, m2, m3⟩ := four_cells M4.out
  have mf := frozen_of_row _ _ 0 _ _ M4.out
  go_upto_region 22 with (fail)
  have M5 := Lib.hid (show (w4.setCell ⟨w.heap.size + 1, 0, none⟩ (.int .i64 a)).heap[w.heap.size + 1]? = some (.cells #[.int .i64 a, .int .i64 f', .int .i64 t', .int .u64 z'] 49 (0, 0)) from by
    have := set_row M4.out 0 (.int .i64 a); simpa using this)
  have N5 := Lib.hid (show (w4.setCell ⟨w.heap.size + 1, 0, none⟩ (.int .i64 a)).heap[w.heap.size]? = some (.cells #[.int .i64 a, .int .i64 f, .int .i64 t, .int .u64 z] 49 (0, 0)) from set_far _ (by omega) N4.out)
  have B5 := Lib.hid (B4.out.setCell (p := ⟨w.heap.size + 1, 0, none⟩) (Nat.le_succ _) (.int .i64 a))
  have X5 := Lib.hid (ar_set X4.out m0 (.int .i64 a))
  clear t0 t1 t2 t3 m0 m1 m2 m3 mf N4 M4 X4
  generalize w4.setCell ⟨w.heap.size + 1, 0, none⟩ (.int .i64 a) = W5 at *
  obtain ⟨m0, m1, m2, m3⟩ := four_cells M5.out
  go_upto_region 23 with (go_at_call 34; refine (C5.out _ B5.out).mono ?_; rintro e w6 ⟨v6, rfl, X6, hb6⟩)
  have N6 := Lib.hid (keep_heap hb6 N5.out)
  have M6 := Lib.hid (keep_heap hb6 M5.out)
  have B6 := Lib.hid (below_end B5.out hb6)
  have X1 := Lib.hid (X5.out.below hb6)
  clear m0 m1 m2 m3 hb6 N5 M5 X5
  obtain ⟨m0, m1, m2, m3⟩ := four_cells M6.out
  go_upto_region 26 with (go_at_call 34; refine (C6.out _ _ X1.out).mono ?_; rintro e w7 ⟨v7, rfl, X7, hb7⟩)
  have N7 := Lib.hid (keep_heap hb7 N6.out)
  have M7 := Lib.hid (keep_heap hb7 M6.out)
  have B7 := Lib.hid (below_end B6.out hb7)
  have X6' := Lib.hid (X6.out.below hb7)
  clear m0 m1 m2 m3 hb7 N6 M6 X1 X6
  obtain ⟨t0, t1, t2, t3⟩ := four_cells N7.out
  go_upto_region 27 with (go_at_call 34; refine (C7.out _ _ X6'.out).mono ?_; rintro e w8 ⟨v8, rfl, X8, hb8⟩)
  have N8 := Lib.hid (keep_heap hb8 N7.out)
  have M8 := Lib.hid (keep_heap hb8 M7.out)
  have B8 := Lib.hid (below_end B7.out hb8)
  have X7' := Lib.hid (X7.out.below hb8)
  clear t0 t1 t2 t3 hb8 N7 M7 X7 X6'
  go_upto_region 28 with (go_at_call 35; refine (C8.out _ _ _ X7'.out X8.out).mono ?_; rintro e w9 ⟨l9, rfl, Y9, hb9⟩)
  obtain ⟨dA, dc, rfl⟩ := iat_nil Y9.out
  obtain ⟨t0, t1, t2, t3⟩ := four_cells (keep_heap hb9 N8.out)
  obtain ⟨m0, m1, m2, m3⟩ := four_cells (keep_heap hb9 M8.out)
  have B9 := Lib.hid (below_end B8.out hb9)
  clear hb9 N8 M8 X7' X8 Y9
  go_wp2_with (go_at_call 11; refine (awake11 _).mono ?_; rintro e y1 ⟨rfl, hy1⟩)
  exact bodyPost_ret (v := .bool true) (by simp [results, Try.f6, go_sem]) rfl ⟨rfl, below_end B9.out hy1⟩
set_option maxRecDepth 100000 in
set_option maxHeartbeats 2000000 in
theorem fields6_even_one_yerr (A : Option Addr) (n cap : Nat) (a f t z a' f' t' z' : Int) (P R : Nat) (at_ : Int) (vs : List Int) (w : World) (hn : n ≤ 300) (hz : 0 ≤ z ∧ z ≤ 18446744073709551615) (hz' : 0 ≤ z' ∧ z' ≤ 18446744073709551615) (hp : ¬ z % 2 = 1) (ha : 1 ≤ a ∧ a ≤ 1601) (hf : 0 ≤ f ∧ f ≤ 63) (_hP : P ≤ 63) (hat : a + 1 + f = at_)
    (C1 : Hid (∀ W, Below w.heap.size w W → Calls Try.prog 34 #[.slice A n cap, fldV a f t z] W fun e w' => RAns W vs e w'))
    (C2 : Hid (∀ W u, Below w.heap.size w W → Ar W u vs → Calls Try.prog 35 #[.slice A n cap, u] W fun e w' => LAns W [at_] e w'))
    (C3 : Hid (∀ W, Below w.heap.size w W → Calls Try.prog 15 #[.slice A n cap, .int .i64 a] W fun e w' => e = .returned (.tuple #[.agg #[.int .i64 P, .int .i64 R], .int .i64 0]) ∧ Below W.heap.size W w'))
    (C4 : Hid (∀ W u, Ar W u vs → Calls Try.prog 22 #[u, .int .i64 a, .int .i64 f] W fun e w' => e = .returned (.tuple #[.int .i64 t, .int .i64 0]) ∧ Below W.heap.size W w'))
    (E : Int) (hE : E ≠ 0) (C5 : Hid (∀ W, Below w.heap.size w W → Calls Try.prog 34 #[.slice A n cap, fldV a f' t' z'] W fun e w' => CAns W ([], E) e w')) :
    Calls Try.prog 6 #[.slice A n cap, fldV a f t z, fldV a' f' t' z'] w fun e w' => e = .returned (.bool true) ∧ Below w.heap.size w w' := by
  have q : decide ((300 : Int) < (n : Int)) = false := decide_eq_false (by omega)
  have qp : (z % 2 == 1) = false := by simpa using hp
  obtain ⟨u0, u1⟩ := hz
  obtain ⟨u0', u1'⟩ := hz'
  obtain ⟨a0, a1⟩ := ha
  obtain ⟨f0, f1⟩ := hf
  have HAT := Lib.hid hat
  have qE : (E != 0) = true := by simpa using hE
  clear hE
  clear hat hp
  unfold fldV at *
  have N0 := Lib.hid (keep_heap (alloc_below (w.alloc (.cells #[.int .i64 a, .int .i64 f, .int .i64 t, .int .u64 z] 49)) (.cells #[.int .i64 a', .int .i64 f', .int .i64 t', .int .u64 z'] 49)) (heap_alloc_new w (.cells #[.int .i64 a, .int .i64 f, .int .i64 t, .int .u64 z] 49)))
  have M0 := Lib.hid (heap_alloc_new (w.alloc (.cells #[.int .i64 a, .int .i64 f, .int .i64 t, .int .u64 z] 49)) (.cells #[.int .i64 a', .int .i64 f', .int .i64 t', .int .u64 z'] 49))
  have B0 := Lib.hid (below_end (alloc_below w (.cells #[.int .i64 a, .int .i64 f, .int .i64 t, .int .u64 z] 49)) (alloc_below (w.alloc (.cells #[.int .i64 a, .int .i64 f, .int .i64 t, .int .u64 z] 49)) (.cells #[.int .i64 a', .int .i64 f', .int .i64 t', .int .u64 z'] 49)))
  rw [World.size_alloc] at M0
  obtain ⟨t0, t1, t2, t3⟩ := four_cells N0.out
  go_enter Try.func6, Try.ntmps6
  go_upto_region 1 with (fail)
  generalize (w.alloc (.cells #[.int .i64 a, .int .i64 f, .int .i64 t, .int .u64 z] 49)).alloc (.cells #[.int .i64 a', .int .i64 f', .int .i64 t', .int .u64 z'] 49) = W0 at *
  go_upto_region 4 with (go_at_call 34; refine (C1.out _ B0.out).mono ?_; rintro e w1 ⟨v1, rfl, X1, hb1⟩)
  have N1 := Lib.hid (keep_heap hb1 N0.out)
  have M1 := Lib.hid (keep_heap hb1 M0.out)
  have B1 := Lib.hid (below_end B0.out hb1)
  clear t0 t1 t2 t3 hb1 N0 M0
  go_upto_region 7 with (go_at_call 35; refine (C2.out _ _ B1.out X1.out).mono ?_; rintro e w2 ⟨l2, rfl, Y2, hb2⟩)
  obtain ⟨lb, lo, lc, rfl, ld⟩ := iat_one Y2.out
  have LD := Lib.hid ld
  clear ld
  have N2 := Lib.hid (keep_heap hb2 N1.out)
  have M2 := Lib.hid (keep_heap hb2 M1.out)
  have B2 := Lib.hid (below_end B1.out hb2)
  have X2 := Lib.hid (X1.out.below hb2)
  clear hb2 N1 M1 X1 Y2
  obtain ⟨t0, t1, t2, t3⟩ := four_cells N2.out
  go_upto_region 8 with (go_at_call 15; refine (C3.out _ B2.out).mono ?_; rintro e w3 ⟨rfl, hb3⟩)
  have hb := below_end hb3 (alloc_below w3 (.cells #[.int .i64 P, .int .i64 R] 24))
  have N3 := Lib.hid (keep_heap hb N2.out)
  have M3 := Lib.hid (keep_heap hb M2.out)
  have B3 := Lib.hid (below_end B2.out hb)
  have X3 := Lib.hid (X2.out.below hb)
  have LD3 := Lib.hid (keep_cell hb LD.out)
  obtain ⟨s0, s1, -, -⟩ := two_free (heap_alloc_new w3 (.cells #[.int .i64 P, .int .i64 R] 24))
  clear t0 t1 t2 t3 hb hb3 N2 M2 X2
  generalize w3.heap.size = g3 at *
  generalize w3.alloc (.cells #[.int .i64 P, .int .i64 R] 24) = W3 at *
  obtain ⟨t0, t1, t2, t3⟩ := four_cells N3.out
  go_upto_region 16 with (fail)
  clear s0 s1
  go_upto_region 19 with (go_at_call 22; refine (C4.out _ _ X3.out).mono ?_; rintro e w4 ⟨rfl, hb4⟩; obtain ⟨t0', t1', t2', t3'⟩ := four_cells (keep_heap hb4 N3.out); clear t0 t1 t2 t3)
  have N4 := Lib.hid (keep_heap hb4 N3.out)
  have M4 := Lib.hid (keep_heap hb4 M3.out)
  have B4 := Lib.hid (below_end B3.out hb4)
  have X4 := Lib.hid (X3.out.below hb4)
  have LD4 := keep_cell hb4 LD3.out
  have nat_ : (at_ != at_) = false := by simp
  have ATT := HAT.out
  clear t0' t1' t2' t3' hb4 N3 M3 X3
  rw [← HAT.out] at LD4
  have nat2 : (a + 1 + f != a + 1 + f) = false := by simp
  clear ATT nat_
  go_upto_region 21 with (fail)
  clear LD4 nat2
  obtain ⟨t0, t1, t2, t3⟩ := four_cells N4.out
  obtain ⟨m0, m1, m2, m3⟩ := four_cells M4.out
  have mf := frozen_of_row _ _ 0 _ _ M4.out
  go_upto_region 22 with (fail)
  have M5 := Lib.hid (show (w4.setCell ⟨w.heap.size + 1, 0, none⟩ (.int .i64 a)).heap[w.heap.size + 1]? = some (.cells #[.int .i64 a, .int .i64 f', .int .i64 t', .int .u64 z'] 49 (0, 0)) from by
    have := set_row M4.out 0 (.int .i64 a); simpa using this)
  have N5 := Lib.hid (show (w4.setCell ⟨w.heap.size + 1, 0, none⟩ (.int .i64 a)).heap[w.heap.size]? = some (.cells #[.int .i64 a, .int .i64 f, .int .i64 t, .int .u64 z] 49 (0, 0)) from set_far _ (by omega) N4.out)
  have B5 := Lib.hid (B4.out.setCell (p := ⟨w.heap.size + 1, 0, none⟩) (Nat.le_succ _) (.int .i64 a))
  have X5 := Lib.hid (ar_set X4.out m0 (.int .i64 a))
  clear t0 t1 t2 t3 m0 m1 m2 m3 mf N4 M4 X4
  generalize w4.setCell ⟨w.heap.size + 1, 0, none⟩ (.int .i64 a) = W5 at *
  obtain ⟨m0, m1, m2, m3⟩ := four_cells M5.out
  go_wp2_with (first
    | (go_at_call 34; refine (C5.out _ B5.out).mono ?_; rintro e w6 ⟨u6, rfl, ho6, hb6⟩)
    | (go_at_call 11; refine (awake11 _).mono ?_; rintro e w7 ⟨rfl, hb7⟩))
  exact bodyPost_ret (v := .bool true) (by simp [results, Try.f6, go_sem]) rfl ⟨rfl, below_end (below_end B5.out hb6) hb7⟩
set_option maxRecDepth 100000 in
set_option maxHeartbeats 2000000 in
theorem fields6_even_one_same (A : Option Addr) (n cap : Nat) (a f t z a' f' t' z' : Int) (P R : Nat) (at_ : Int) (vs : List Int) (w : World) (hn : n ≤ 300) (hz : 0 ≤ z ∧ z ≤ 18446744073709551615) (hz' : 0 ≤ z' ∧ z' ≤ 18446744073709551615) (hp : ¬ z % 2 = 1) (ha : 1 ≤ a ∧ a ≤ 1601) (hf : 0 ≤ f ∧ f ≤ 63) (_hP : P ≤ 63) (hat : a + 1 + f = at_)
    (C1 : Hid (∀ W, Below w.heap.size w W → Calls Try.prog 34 #[.slice A n cap, fldV a f t z] W fun e w' => RAns W vs e w'))
    (C2 : Hid (∀ W u, Below w.heap.size w W → Ar W u vs → Calls Try.prog 35 #[.slice A n cap, u] W fun e w' => LAns W [at_] e w'))
    (C3 : Hid (∀ W, Below w.heap.size w W → Calls Try.prog 15 #[.slice A n cap, .int .i64 a] W fun e w' => e = .returned (.tuple #[.agg #[.int .i64 P, .int .i64 R], .int .i64 0]) ∧ Below W.heap.size W w'))
    (C4 : Hid (∀ W u, Ar W u vs → Calls Try.prog 22 #[u, .int .i64 a, .int .i64 f] W fun e w' => e = .returned (.tuple #[.int .i64 t, .int .i64 0]) ∧ Below W.heap.size W w'))
    (ars bs cs ds : List Int) (C5 : Hid (∀ W, Below w.heap.size w W → Calls Try.prog 34 #[.slice A n cap, fldV a f' t' z'] W fun e w' => RAns W ars e w'))
    (C6 : Hid (∀ W u, Ar W u vs → Calls Try.prog 34 #[u, fldV a f' t' z'] W fun e w' => RAns W bs e w')) (C7 : Hid (∀ W u, Ar W u ars → Calls Try.prog 34 #[u, fldV a f t z] W fun e w' => RAns W cs e w'))
    (C8 : Hid (∀ W b c, Ar W b bs → Ar W c cs → Calls Try.prog 35 #[b, c] W fun e w' => LAns W ds e w')) (hff : f = f') (hzz : z % 2 = z' % 2) :
    Calls Try.prog 6 #[.slice A n cap, fldV a f t z, fldV a' f' t' z'] w fun e w' => e = .returned (.bool true) ∧ Below w.heap.size w w' := by
  have q : decide ((300 : Int) < (n : Int)) = false := decide_eq_false (by omega)
  have qp : (z % 2 == 1) = false := by simpa using hp
  obtain ⟨u0, u1⟩ := hz
  obtain ⟨u0', u1'⟩ := hz'
  obtain ⟨a0, a1⟩ := ha
  obtain ⟨f0, f1⟩ := hf
  have HAT := Lib.hid hat
  have qf : (f == f') = true := by simpa using hff
  have qz : (z % 2 == z' % 2) = true := by simpa using hzz
  clear hff hzz
  clear hat hp
  unfold fldV at *
  have N0 := Lib.hid (keep_heap (alloc_below (w.alloc (.cells #[.int .i64 a, .int .i64 f, .int .i64 t, .int .u64 z] 49)) (.cells #[.int .i64 a', .int .i64 f', .int .i64 t', .int .u64 z'] 49)) (heap_alloc_new w (.cells #[.int .i64 a, .int .i64 f, .int .i64 t, .int .u64 z] 49)))
  have M0 := Lib.hid (heap_alloc_new (w.alloc (.cells #[.int .i64 a, .int .i64 f, .int .i64 t, .int .u64 z] 49)) (.cells #[.int .i64 a', .int .i64 f', .int .i64 t', .int .u64 z'] 49))
  have B0 := Lib.hid (below_end (alloc_below w (.cells #[.int .i64 a, .int .i64 f, .int .i64 t, .int .u64 z] 49)) (alloc_below (w.alloc (.cells #[.int .i64 a, .int .i64 f, .int .i64 t, .int .u64 z] 49)) (.cells #[.int .i64 a', .int .i64 f', .int .i64 t', .int .u64 z'] 49)))
  rw [World.size_alloc] at M0
  obtain ⟨t0, t1, t2, t3⟩ := four_cells N0.out
  go_enter Try.func6, Try.ntmps6
  go_upto_region 1 with (fail)
  generalize (w.alloc (.cells #[.int .i64 a, .int .i64 f, .int .i64 t, .int .u64 z] 49)).alloc (.cells #[.int .i64 a', .int .i64 f', .int .i64 t', .int .u64 z'] 49) = W0 at *
  go_upto_region 4 with (go_at_call 34; refine (C1.out _ B0.out).mono ?_; rintro e w1 ⟨v1, rfl, X1, hb1⟩)
  have N1 := Lib.hid (keep_heap hb1 N0.out)
  have M1 := Lib.hid (keep_heap hb1 M0.out)
  have B1 := Lib.hid (below_end B0.out hb1)
  clear t0 t1 t2 t3 hb1 N0 M0
  go_upto_region 7 with (go_at_call 35; refine (C2.out _ _ B1.out X1.out).mono ?_; rintro e w2 ⟨l2, rfl, Y2, hb2⟩)
  obtain ⟨lb, lo, lc, rfl, ld⟩ := iat_one Y2.out
  have LD := Lib.hid ld
  clear ld
  have N2 := Lib.hid (keep_heap hb2 N1.out)
  have M2 := Lib.hid (keep_heap hb2 M1.out)
  have B2 := Lib.hid (below_end B1.out hb2)
  have X2 := Lib.hid (X1.out.below hb2)
  clear hb2 N1 M1 X1 Y2
  obtain ⟨t0, t1, t2, t3⟩ := four_cells N2.out
  go_upto_region 8 with (go_at_call 15; refine (C3.out _ B2.out).mono ?_; rintro e w3 ⟨rfl, hb3⟩)
  have hb := below_end hb3 (alloc_below w3 (.cells #[.int .i64 P, .int .i64 R] 24))
  have N3 := Lib.hid (keep_heap hb N2.out)
  have M3 := Lib.hid (keep_heap hb M2.out)
  have B3 := Lib.hid (below_end B2.out hb)
  have X3 := Lib.hid (X2.out.below hb)
  have LD3 := Lib.hid (keep_cell hb LD.out)
  obtain ⟨s0, s1, -, -⟩ := two_free (heap_alloc_new w3 (.cells #[.int .i64 P, .int .i64 R] 24))
  clear t0 t1 t2 t3 hb hb3 N2 M2 X2
  generalize w3.heap.size = g3 at *
  generalize w3.alloc (.cells #[.int .i64 P, .int .i64 R] 24) = W3 at *
  obtain ⟨t0, t1, t2, t3⟩ := four_cells N3.out
  go_upto_region 16 with (fail)
  clear s0 s1
  go_upto_region 19 with (go_at_call 22; refine (C4.out _ _ X3.out).mono ?_; rintro e w4 ⟨rfl, hb4⟩; obtain ⟨t0', t1', t2', t3'⟩ := four_cells (keep_heap hb4 N3.out); clear t0 t1 t2 t3)
  have N4 := Lib.hid (keep_heap hb4 N3.out)
  have M4 := Lib.hid (keep_heap hb4 M3.out)
  have B4 := Lib.hid (below_end B3.out hb4)
  have X4 := Lib.hid (X3.out.below hb4)
  have LD4 := keep_cell hb4 LD3.out
  have nat_ : (at_ != at_) = false := by simp
  have ATT := HAT.out
  clear t0' t1' t2' t3' hb4 N3 M3 X3
  rw [← HAT.out] at LD4
  have nat2 : (a + 1 + f != a + 1 + f) = false := by simp
  clear ATT nat_
  go_upto_region 21 with (fail)
  clear LD4 nat2
  obtain ⟨t0, t1, t2, t3⟩ := four_cells N4.out
  obtain ⟨m0, m1, m2, m3⟩ := four_cells M4.out
  have mf := frozen_of_row _ _ 0 _ _ M4.out
  go_upto_region 22 with (fail)
  have M5 := Lib.hid (show (w4.setCell ⟨w.heap.size + 1, 0, none⟩ (.int .i64 a)).heap[w.heap.size + 1]? = some (.cells #[.int .i64 a, .int .i64 f', .int .i64 t', .int .u64 z'] 49 (0, 0)) from by
    have := set_row M4.out 0 (.int .i64 a); simpa using this)
  have N5 := Lib.hid (show (w4.setCell ⟨w.heap.size + 1, 0, none⟩ (.int .i64 a)).heap[w.heap.size]? = some (.cells #[.int .i64 a, .int .i64 f, .int .i64 t, .int .u64 z] 49 (0, 0)) from set_far _ (by omega) N4.out)
  have B5 := Lib.hid (B4.out.setCell (p := ⟨w.heap.size + 1, 0, none⟩) (Nat.le_succ _) (.int .i64 a))
  have X5 := Lib.hid (ar_set X4.out m0 (.int .i64 a))
  clear t0 t1 t2 t3 m0 m1 m2 m3 mf N4 M4 X4
  generalize w4.setCell ⟨w.heap.size + 1, 0, none⟩ (.int .i64 a) = W5 at *
  obtain ⟨m0, m1, m2, m3⟩ := four_cells M5.out
  go_upto_region 23 with (go_at_call 34; refine (C5.out _ B5.out).mono ?_; rintro e w6 ⟨v6, rfl, X6, hb6⟩)
  have N6 := Lib.hid (keep_heap hb6 N5.out)
  have M6 := Lib.hid (keep_heap hb6 M5.out)
  have B6 := Lib.hid (below_end B5.out hb6)
  have X1 := Lib.hid (X5.out.below hb6)
  clear m0 m1 m2 m3 hb6 N5 M5 X5
  obtain ⟨m0, m1, m2, m3⟩ := four_cells M6.out
  go_upto_region 26 with (go_at_call 34; refine (C6.out _ _ X1.out).mono ?_; rintro e w7 ⟨v7, rfl, X7, hb7⟩)
  have N7 := Lib.hid (keep_heap hb7 N6.out)
  have M7 := Lib.hid (keep_heap hb7 M6.out)
  have B7 := Lib.hid (below_end B6.out hb7)
  have X6' := Lib.hid (X6.out.below hb7)
  clear m0 m1 m2 m3 hb7 N6 M6 X1 X6
  obtain ⟨t0, t1, t2, t3⟩ := four_cells N7.out
  go_upto_region 27 with (go_at_call 34; refine (C7.out _ _ X6'.out).mono ?_; rintro e w8 ⟨v8, rfl, X8, hb8⟩)
  have N8 := Lib.hid (keep_heap hb8 N7.out)
  have M8 := Lib.hid (keep_heap hb8 M7.out)
  have B8 := Lib.hid (below_end B7.out hb8)
  have X7' := Lib.hid (X7.out.below hb8)
  clear t0 t1 t2 t3 hb8 N7 M7 X7 X6'
  go_upto_region 28 with (go_at_call 35; refine (C8.out _ _ _ X7'.out X8.out).mono ?_; rintro e w9 ⟨l9, rfl, Y9, hb9⟩)
  obtain ⟨dA, dc, rfl⟩ := iat_any Y9.out
  obtain ⟨t0, t1, t2, t3⟩ := four_cells (keep_heap hb9 N8.out)
  obtain ⟨m0, m1, m2, m3⟩ := four_cells (keep_heap hb9 M8.out)
  have B9 := Lib.hid (below_end B8.out hb9)
  clear hb9 N8 M8 X7' X8 Y9
  go_wp2_with (go_at_call 11; refine (awake11 _).mono ?_; rintro e y1 ⟨rfl, hy1⟩)
  exact bodyPost_ret (v := .bool true) (by simp [results, Try.f6, go_sem]) rfl ⟨rfl, below_end B9.out hy1⟩
set_option maxRecDepth 100000 in
set_option maxHeartbeats 2000000 in
theorem fields6_even_one_nf (A : Option Addr) (n cap : Nat) (a f t z a' f' t' z' : Int) (P R : Nat) (at_ : Int) (vs : List Int) (w : World) (hn : n ≤ 300) (hz : 0 ≤ z ∧ z ≤ 18446744073709551615) (hz' : 0 ≤ z' ∧ z' ≤ 18446744073709551615) (hp : ¬ z % 2 = 1) (ha : 1 ≤ a ∧ a ≤ 1601) (hf : 0 ≤ f ∧ f ≤ 63) (_hP : P ≤ 63) (hat : a + 1 + f = at_)
    (C1 : Hid (∀ W, Below w.heap.size w W → Calls Try.prog 34 #[.slice A n cap, fldV a f t z] W fun e w' => RAns W vs e w'))
    (C2 : Hid (∀ W u, Below w.heap.size w W → Ar W u vs → Calls Try.prog 35 #[.slice A n cap, u] W fun e w' => LAns W [at_] e w'))
    (C3 : Hid (∀ W, Below w.heap.size w W → Calls Try.prog 15 #[.slice A n cap, .int .i64 a] W fun e w' => e = .returned (.tuple #[.agg #[.int .i64 P, .int .i64 R], .int .i64 0]) ∧ Below W.heap.size W w'))
    (C4 : Hid (∀ W u, Ar W u vs → Calls Try.prog 22 #[u, .int .i64 a, .int .i64 f] W fun e w' => e = .returned (.tuple #[.int .i64 t, .int .i64 0]) ∧ Below W.heap.size W w'))
    (ars bs cs _ds : List Int) (C5 : Hid (∀ W, Below w.heap.size w W → Calls Try.prog 34 #[.slice A n cap, fldV a f' t' z'] W fun e w' => RAns W ars e w'))
    (C6 : Hid (∀ W u, Ar W u vs → Calls Try.prog 34 #[u, fldV a f' t' z'] W fun e w' => RAns W bs e w')) (C7 : Hid (∀ W u, Ar W u ars → Calls Try.prog 34 #[u, fldV a f t z] W fun e w' => RAns W cs e w'))
    (C8 : Hid (∀ W b c, Ar W b bs → Ar W c cs → Calls Try.prog 35 #[b, c] W fun e w' => LAns W [] e w')) (hff : f ≠ f') :
    Calls Try.prog 6 #[.slice A n cap, fldV a f t z, fldV a' f' t' z'] w fun e w' => e = .returned (.bool true) ∧ Below w.heap.size w w' := by
  have q : decide ((300 : Int) < (n : Int)) = false := decide_eq_false (by omega)
  have qp : (z % 2 == 1) = false := by simpa using hp
  obtain ⟨u0, u1⟩ := hz
  obtain ⟨u0', u1'⟩ := hz'
  obtain ⟨a0, a1⟩ := ha
  obtain ⟨f0, f1⟩ := hf
  have HAT := Lib.hid hat
  have qf : (f == f') = false := by simpa using hff
  clear hff
  clear hat hp
  unfold fldV at *
  have N0 := Lib.hid (keep_heap (alloc_below (w.alloc (.cells #[.int .i64 a, .int .i64 f, .int .i64 t, .int .u64 z] 49)) (.cells #[.int .i64 a', .int .i64 f', .int .i64 t', .int .u64 z'] 49)) (heap_alloc_new w (.cells #[.int .i64 a, .int .i64 f, .int .i64 t, .int .u64 z] 49)))
  have M0 := Lib.hid (heap_alloc_new (w.alloc (.cells #[.int .i64 a, .int .i64 f, .int .i64 t, .int .u64 z] 49)) (.cells #[.int .i64 a', .int .i64 f', .int .i64 t', .int .u64 z'] 49))
  have B0 := Lib.hid (below_end (alloc_below w (.cells #[.int .i64 a, .int .i64 f, .int .i64 t, .int .u64 z] 49)) (alloc_below (w.alloc (.cells #[.int .i64 a, .int .i64 f, .int .i64 t, .int .u64 z] 49)) (.cells #[.int .i64 a', .int .i64 f', .int .i64 t', .int .u64 z'] 49)))
  rw [World.size_alloc] at M0
  obtain ⟨t0, t1, t2, t3⟩ := four_cells N0.out
  go_enter Try.func6, Try.ntmps6
  go_upto_region 1 with (fail)
  generalize (w.alloc (.cells #[.int .i64 a, .int .i64 f, .int .i64 t, .int .u64 z] 49)).alloc (.cells #[.int .i64 a', .int .i64 f', .int .i64 t', .int .u64 z'] 49) = W0 at *
  go_upto_region 4 with (go_at_call 34; refine (C1.out _ B0.out).mono ?_; rintro e w1 ⟨v1, rfl, X1, hb1⟩)
  have N1 := Lib.hid (keep_heap hb1 N0.out)
  have M1 := Lib.hid (keep_heap hb1 M0.out)
  have B1 := Lib.hid (below_end B0.out hb1)
  clear t0 t1 t2 t3 hb1 N0 M0
  go_upto_region 7 with (go_at_call 35; refine (C2.out _ _ B1.out X1.out).mono ?_; rintro e w2 ⟨l2, rfl, Y2, hb2⟩)
  obtain ⟨lb, lo, lc, rfl, ld⟩ := iat_one Y2.out
  have LD := Lib.hid ld
  clear ld
  have N2 := Lib.hid (keep_heap hb2 N1.out)
  have M2 := Lib.hid (keep_heap hb2 M1.out)
  have B2 := Lib.hid (below_end B1.out hb2)
  have X2 := Lib.hid (X1.out.below hb2)
  clear hb2 N1 M1 X1 Y2
  obtain ⟨t0, t1, t2, t3⟩ := four_cells N2.out
  go_upto_region 8 with (go_at_call 15; refine (C3.out _ B2.out).mono ?_; rintro e w3 ⟨rfl, hb3⟩)
  have hb := below_end hb3 (alloc_below w3 (.cells #[.int .i64 P, .int .i64 R] 24))
  have N3 := Lib.hid (keep_heap hb N2.out)
  have M3 := Lib.hid (keep_heap hb M2.out)
  have B3 := Lib.hid (below_end B2.out hb)
  have X3 := Lib.hid (X2.out.below hb)
  have LD3 := Lib.hid (keep_cell hb LD.out)
  obtain ⟨s0, s1, -, -⟩ := two_free (heap_alloc_new w3 (.cells #[.int .i64 P, .int .i64 R] 24))
  clear t0 t1 t2 t3 hb hb3 N2 M2 X2
  generalize w3.heap.size = g3 at *
  generalize w3.alloc (.cells #[.int .i64 P, .int .i64 R] 24) = W3 at *
  obtain ⟨t0, t1, t2, t3⟩ := four_cells N3.out
  go_upto_region 16 with (fail)
  clear s0 s1
  go_upto_region 19 with (go_at_call 22; refine (C4.out _ _ X3.out).mono ?_; rintro e w4 ⟨rfl, hb4⟩; obtain ⟨t0', t1', t2', t3'⟩ := four_cells (keep_heap hb4 N3.out); clear t0 t1 t2 t3)
  have N4 := Lib.hid (keep_heap hb4 N3.out)
  have M4 := Lib.hid (keep_heap hb4 M3.out)
  have B4 := Lib.hid (below_end B3.out hb4)
  have X4 := Lib.hid (X3.out.below hb4)
  have LD4 := keep_cell hb4 LD3.out
  have nat_ : (at_ != at_) = false := by simp
  have ATT := HAT.out
  clear t0' t1' t2' t3' hb4 N3 M3 X3
  rw [← HAT.out] at LD4
  have nat2 : (a + 1 + f != a + 1 + f) = false := by simp
  clear ATT nat_
  go_upto_region 21 with (fail)
  clear LD4 nat2
  obtain ⟨t0, t1, t2, t3⟩ := four_cells N4.out
  obtain ⟨m0, m1, m2, m3⟩ := four_cells M4.out
  have mf := frozen_of_row _ _ 0 _ _ M4.out
  go_upto_region 22 with (fail)
  have M5 := Lib.hid (show (w4.setCell ⟨w.heap.size + 1, 0, none⟩ (.int .i64 a)).heap[w.heap.size + 1]? = some (.cells #[.int .i64 a, .int .i64 f', .int .i64 t', .int .u64 z'] 49 (0, 0)) from by
    have := set_row M4.out 0 (.int .i64 a); simpa using this)
  have N5 := Lib.hid (show (w4.setCell ⟨w.heap.size + 1, 0, none⟩ (.int .i64 a)).heap[w.heap.size]? = some (.cells #[.int .i64 a, .int .i64 f, .int .i64 t, .int .u64 z] 49 (0, 0)) from set_far _ (by omega) N4.out)
  have B5 := Lib.hid (B4.out.setCell (p := ⟨w.heap.size + 1, 0, none⟩) (Nat.le_succ _) (.int .i64 a))
  have X5 := Lib.hid (ar_set X4.out m0 (.int .i64 a))
  clear t0 t1 t2 t3 m0 m1 m2 m3 mf N4 M4 X4
  generalize w4.setCell ⟨w.heap.size + 1, 0, none⟩ (.int .i64 a) = W5 at *
  obtain ⟨m0, m1, m2, m3⟩ := four_cells M5.out
  go_upto_region 23 with (go_at_call 34; refine (C5.out _ B5.out).mono ?_; rintro e w6 ⟨v6, rfl, X6, hb6⟩)
  have N6 := Lib.hid (keep_heap hb6 N5.out)
  have M6 := Lib.hid (keep_heap hb6 M5.out)
  have B6 := Lib.hid (below_end B5.out hb6)
  have X1 := Lib.hid (X5.out.below hb6)
  clear m0 m1 m2 m3 hb6 N5 M5 X5
  obtain ⟨m0, m1, m2, m3⟩ := four_cells M6.out
  go_upto_region 26 with (go_at_call 34; refine (C6.out _ _ X1.out).mono ?_; rintro e w7 ⟨v7, rfl, X7, hb7⟩)
  have N7 := Lib.hid (keep_heap hb7 N6.out)
  have M7 := Lib.hid (keep_heap hb7 M6.out)
  have B7 := Lib.hid (below_end B6.out hb7)
  have X6' := Lib.hid (X6.out.below hb7)
  clear m0 m1 m2 m3 hb7 N6 M6 X1 X6
  obtain ⟨t0, t1, t2, t3⟩ := four_cells N7.out
  go_upto_region 27 with (go_at_call 34; refine (C7.out _ _ X6'.out).mono ?_; rintro e w8 ⟨v8, rfl, X8, hb8⟩)
  have N8 := Lib.hid (keep_heap hb8 N7.out)
  have M8 := Lib.hid (keep_heap hb8 M7.out)
  have B8 := Lib.hid (below_end B7.out hb8)
  have X7' := Lib.hid (X7.out.below hb8)
  clear t0 t1 t2 t3 hb8 N7 M7 X7 X6'
  go_upto_region 28 with (go_at_call 35; refine (C8.out _ _ _ X7'.out X8.out).mono ?_; rintro e w9 ⟨l9, rfl, Y9, hb9⟩)
  obtain ⟨dA, dc, rfl⟩ := iat_nil Y9.out
  obtain ⟨t0, t1, t2, t3⟩ := four_cells (keep_heap hb9 N8.out)
  obtain ⟨m0, m1, m2, m3⟩ := four_cells (keep_heap hb9 M8.out)
  have B9 := Lib.hid (below_end B8.out hb9)
  clear hb9 N8 M8 X7' X8 Y9
  go_wp2_with (go_at_call 11; refine (awake11 _).mono ?_; rintro e y1 ⟨rfl, hy1⟩)
  exact bodyPost_ret (v := .bool true) (by simp [results, Try.f6, go_sem]) rfl ⟨rfl, below_end B9.out hy1⟩
set_option maxRecDepth 100000 in
set_option maxHeartbeats 2000000 in
theorem fields6_even_one_np (A : Option Addr) (n cap : Nat) (a f t z a' f' t' z' : Int) (P R : Nat) (at_ : Int) (vs : List Int) (w : World) (hn : n ≤ 300) (hz : 0 ≤ z ∧ z ≤ 18446744073709551615) (hz' : 0 ≤ z' ∧ z' ≤ 18446744073709551615) (hp : ¬ z % 2 = 1) (ha : 1 ≤ a ∧ a ≤ 1601) (hf : 0 ≤ f ∧ f ≤ 63) (_hP : P ≤ 63) (hat : a + 1 + f = at_)
    (C1 : Hid (∀ W, Below w.heap.size w W → Calls Try.prog 34 #[.slice A n cap, fldV a f t z] W fun e w' => RAns W vs e w'))
    (C2 : Hid (∀ W u, Below w.heap.size w W → Ar W u vs → Calls Try.prog 35 #[.slice A n cap, u] W fun e w' => LAns W [at_] e w'))
    (C3 : Hid (∀ W, Below w.heap.size w W → Calls Try.prog 15 #[.slice A n cap, .int .i64 a] W fun e w' => e = .returned (.tuple #[.agg #[.int .i64 P, .int .i64 R], .int .i64 0]) ∧ Below W.heap.size W w'))
    (C4 : Hid (∀ W u, Ar W u vs → Calls Try.prog 22 #[u, .int .i64 a, .int .i64 f] W fun e w' => e = .returned (.tuple #[.int .i64 t, .int .i64 0]) ∧ Below W.heap.size W w'))
    (ars bs cs _ds : List Int) (C5 : Hid (∀ W, Below w.heap.size w W → Calls Try.prog 34 #[.slice A n cap, fldV a f' t' z'] W fun e w' => RAns W ars e w'))
    (C6 : Hid (∀ W u, Ar W u vs → Calls Try.prog 34 #[u, fldV a f' t' z'] W fun e w' => RAns W bs e w')) (C7 : Hid (∀ W u, Ar W u ars → Calls Try.prog 34 #[u, fldV a f t z] W fun e w' => RAns W cs e w'))
    (C8 : Hid (∀ W b c, Ar W b bs → Ar W c cs → Calls Try.prog 35 #[b, c] W fun e w' => LAns W [] e w')) (hff : f = f') (hzz : z % 2 ≠ z' % 2) :
    Calls Try.prog 6 #[.slice A n cap, fldV a f t z, fldV a' f' t' z'] w fun e w' => e = .returned (.bool true) ∧ Below w.heap.size w w' := by
  have q : decide ((300 : Int) < (n : Int)) = false := decide_eq_false (by omega)
  have qp : (z % 2 == 1) = false := by simpa using hp
  obtain ⟨u0, u1⟩ := hz
  obtain ⟨u0', u1'⟩ := hz'
  obtain ⟨a0, a1⟩ := ha
  obtain ⟨f0, f1⟩ := hf
  have HAT := Lib.hid hat
  have qf : (f == f') = true := by simpa using hff
  have qz : (z % 2 == z' % 2) = false := by simpa using hzz
  clear hff hzz
  clear hat hp
  unfold fldV at *
  have N0 := Lib.hid (keep_heap (alloc_below (w.alloc (.cells #[.int .i64 a, .int .i64 f, .int .i64 t, .int .u64 z] 49)) (.cells #[.int .i64 a', .int .i64 f', .int .i64 t', .int .u64 z'] 49)) (heap_alloc_new w (.cells #[.int .i64 a, .int .i64 f, .int .i64 t, .int .u64 z] 49)))
  have M0 := Lib.hid (heap_alloc_new (w.alloc (.cells #[.int .i64 a, .int .i64 f, .int .i64 t, .int .u64 z] 49)) (.cells #[.int .i64 a', .int .i64 f', .int .i64 t', .int .u64 z'] 49))
  have B0 := Lib.hid (below_end (alloc_below w (.cells #[.int .i64 a, .int .i64 f, .int .i64 t, .int .u64 z] 49)) (alloc_below (w.alloc (.cells #[.int .i64 a, .int .i64 f, .int .i64 t, .int .u64 z] 49)) (.cells #[.int .i64 a', .int .i64 f', .int .i64 t', .int .u64 z'] 49)))
  rw [World.size_alloc] at M0
  obtain ⟨t0, t1, t2, t3⟩ := four_cells N0.out
  go_enter Try.func6, Try.ntmps6
  go_upto_region 1 with (fail)
  generalize (w.alloc (.cells #[.int .i64 a, .int .i64 f, .int .i64 t, .int .u64 z] 49)).alloc (.cells #[.int .i64 a', .int .i64 f', .int .i64 t', .int .u64 z'] 49) = W0 at *
  go_upto_region 4 with (go_at_call 34; refine (C1.out _ B0.out).mono ?_; rintro e w1 ⟨v1, rfl, X1, hb1⟩)
  have N1 := Lib.hid (keep_heap hb1 N0.out)
  have M1 := Lib.hid (keep_heap hb1 M0.out)
  have B1 := Lib.hid (below_end B0.out hb1)
  clear t0 t1 t2 t3 hb1 N0 M0
  go_upto_region 7 with (go_at_call 35; refine (C2.out _ _ B1.out X1.out).mono ?_; rintro e w2 ⟨l2, rfl, Y2, hb2⟩)
  obtain ⟨lb, lo, lc, rfl, ld⟩ := iat_one Y2.out
  have LD := Lib.hid ld
  clear ld
  have N2 := Lib.hid (keep_heap hb2 N1.out)
  have M2 := Lib.hid (keep_heap hb2 M1.out)
  have B2 := Lib.hid (below_end B1.out hb2)
  have X2 := Lib.hid (X1.out.below hb2)
  clear hb2 N1 M1 X1 Y2
  obtain ⟨t0, t1, t2, t3⟩ := four_cells N2.out
  go_upto_region 8 with (go_at_call 15; refine (C3.out _ B2.out).mono ?_; rintro e w3 ⟨rfl, hb3⟩)
  have hb := below_end hb3 (alloc_below w3 (.cells #[.int .i64 P, .int .i64 R] 24))
  have N3 := Lib.hid (keep_heap hb N2.out)
  have M3 := Lib.hid (keep_heap hb M2.out)
  have B3 := Lib.hid (below_end B2.out hb)
  have X3 := Lib.hid (X2.out.below hb)
  have LD3 := Lib.hid (keep_cell hb LD.out)
  obtain ⟨s0, s1, -, -⟩ := two_free (heap_alloc_new w3 (.cells #[.int .i64 P, .int .i64 R] 24))
  clear t0 t1 t2 t3 hb hb3 N2 M2 X2
  generalize w3.heap.size = g3 at *
  generalize w3.alloc (.cells #[.int .i64 P, .int .i64 R] 24) = W3 at *
  obtain ⟨t0, t1, t2, t3⟩ := four_cells N3.out
  go_upto_region 16 with (fail)
  clear s0 s1
  go_upto_region 19 with (go_at_call 22; refine (C4.out _ _ X3.out).mono ?_; rintro e w4 ⟨rfl, hb4⟩; obtain ⟨t0', t1', t2', t3'⟩ := four_cells (keep_heap hb4 N3.out); clear t0 t1 t2 t3)
  have N4 := Lib.hid (keep_heap hb4 N3.out)
  have M4 := Lib.hid (keep_heap hb4 M3.out)
  have B4 := Lib.hid (below_end B3.out hb4)
  have X4 := Lib.hid (X3.out.below hb4)
  have LD4 := keep_cell hb4 LD3.out
  have nat_ : (at_ != at_) = false := by simp
  have ATT := HAT.out
  clear t0' t1' t2' t3' hb4 N3 M3 X3
  rw [← HAT.out] at LD4
  have nat2 : (a + 1 + f != a + 1 + f) = false := by simp
  clear ATT nat_
  go_upto_region 21 with (fail)
  clear LD4 nat2
  obtain ⟨t0, t1, t2, t3⟩ := four_cells N4.out
  obtain ⟨m0, m1, m2, m3⟩ := four_cells M4.out
  have mf := frozen_of_row _ _ 0 _ _ M4.out
  go_upto_region 22 with (fail)
  have M5 := Lib.hid (show (w4.setCell ⟨w.heap.size + 1, 0, none⟩ (.int .i64 a)).heap[w.heap.size + 1]? = some (.cells #[.int .i64 a, .int .i64 f', .int .i64 t', .int .u64 z'] 49 (0, 0)) from by
    have := set_row M4.out 0 (.int .i64 a); simpa using this)
  have N5 := Lib.hid (show (w4.setCell ⟨w.heap.size + 1, 0, none⟩ (.int .i64 a)).heap[w.heap.size]? = some (.cells #[.int .i64 a, .int .i64 f, .int .i64 t, .int .u64 z] 49 (0, 0)) from set_far _ (by omega) N4.out)
  have B5 := Lib.hid (B4.out.setCell (p := ⟨w.heap.size + 1, 0, none⟩) (Nat.le_succ _) (.int .i64 a))
  have X5 := Lib.hid (ar_set X4.out m0 (.int .i64 a))
  clear t0 t1 t2 t3 m0 m1 m2 m3 mf N4 M4 X4
  generalize w4.setCell ⟨w.heap.size + 1, 0, none⟩ (.int .i64 a) = W5 at *
  obtain ⟨m0, m1, m2, m3⟩ := four_cells M5.out
  go_upto_region 23 with (go_at_call 34; refine (C5.out _ B5.out).mono ?_; rintro e w6 ⟨v6, rfl, X6, hb6⟩)
  have N6 := Lib.hid (keep_heap hb6 N5.out)
  have M6 := Lib.hid (keep_heap hb6 M5.out)
  have B6 := Lib.hid (below_end B5.out hb6)
  have X1 := Lib.hid (X5.out.below hb6)
  clear m0 m1 m2 m3 hb6 N5 M5 X5
  obtain ⟨m0, m1, m2, m3⟩ := four_cells M6.out
  go_upto_region 26 with (go_at_call 34; refine (C6.out _ _ X1.out).mono ?_; rintro e w7 ⟨v7, rfl, X7, hb7⟩)
  have N7 := Lib.hid (keep_heap hb7 N6.out)
  have M7 := Lib.hid (keep_heap hb7 M6.out)
  have B7 := Lib.hid (below_end B6.out hb7)
  have X6' := Lib.hid (X6.out.below hb7)
  clear m0 m1 m2 m3 hb7 N6 M6 X1 X6
  obtain ⟨t0, t1, t2, t3⟩ := four_cells N7.out
  go_upto_region 27 with (go_at_call 34; refine (C7.out _ _ X6'.out).mono ?_; rintro e w8 ⟨v8, rfl, X8, hb8⟩)
  have N8 := Lib.hid (keep_heap hb8 N7.out)
  have M8 := Lib.hid (keep_heap hb8 M7.out)
  have B8 := Lib.hid (below_end B7.out hb8)
  have X7' := Lib.hid (X7.out.below hb8)
  clear t0 t1 t2 t3 hb8 N7 M7 X7 X6'
  go_upto_region 28 with (go_at_call 35; refine (C8.out _ _ _ X7'.out X8.out).mono ?_; rintro e w9 ⟨l9, rfl, Y9, hb9⟩)
  obtain ⟨dA, dc, rfl⟩ := iat_nil Y9.out
  obtain ⟨t0, t1, t2, t3⟩ := four_cells (keep_heap hb9 N8.out)
  obtain ⟨m0, m1, m2, m3⟩ := four_cells (keep_heap hb9 M8.out)
  have B9 := Lib.hid (below_end B8.out hb9)
  clear hb9 N8 M8 X7' X8 Y9
  go_wp2_with (go_at_call 11; refine (awake11 _).mono ?_; rintro e y1 ⟨rfl, hy1⟩)
  exact bodyPost_ret (v := .bool true) (by simp [results, Try.f6, go_sem]) rfl ⟨rfl, below_end B9.out hy1⟩
end Ytmgoonahpndfoaa
end Go.Proofs
