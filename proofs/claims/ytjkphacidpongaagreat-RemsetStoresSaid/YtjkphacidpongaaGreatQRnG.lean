/- The law of Record, Forget and Store. -/
import Derived.Test.YtjkphacidpongaaGreatQRnF
import Derived.Test.YtjkphacidpongaaGreatQRmY
namespace Go.Proofs
namespace YtjkphacidpongaaGreat
open Go.RowKit
open Cf (good plC plE chkE)

theorem good_add {n : Nat} {T : Nat → List Int} {slot l : Int} (hG : ∀ j, j ≤ n → Good (T j)) (hs : 1 ≤ slot ∧ slot ≤ 1600) : ∀ j, j ≤ n → Good (onT n T l (fun cs => addF cs slot) j) := by
  unfold onT
  cases h : atI n l with
  | none => exact hG
  | some i =>
    have hi : i ≤ n := by
      unfold atI at h
      split at h
      · injection h with h; omega
      · split at h
        · injection h with h; omega
        · cases h
    exact good_upd hG (add_good1 (hG i hi) hs)
theorem change_len {n : Nat} {T : Nat → List Int} {slot k l : Int} (hG : ∀ j, j ≤ n → Good (T j)) (hs : 1 ≤ slot ∧ slot ≤ 1600) : ∀ j, j ≤ n → (changeF n T slot k l j).length ≤ 100000 := by
  rw [← two_changes]
  exact good_small (by unfold changeF; rw [on_none]; have h := good_drop (k := k) hG hs; unfold changeF at h; exact good_add h hs)
/-- few tables, and no long ones -/
def Few (R : Nat × (Nat → List Int) × Int) : Prop := R.1 ≤ 100000 ∧ ∀ j, j ≤ R.1 → (R.2.1 j).length ≤ 100000
theorem or_few {c : Int} {n : Nat} {T : Nat → List Int} (hn : n ≤ 100000) (h : c = 0 → ∀ j, j ≤ n → (T j).length ≤ 100000) : Few (orS c n T) := by
  unfold orS Few
  by_cases hc : c ≠ 0
  · rw [if_pos hc]; exact ⟨by simp, fun j _ => by simp⟩
  · rw [if_neg hc]; exact ⟨hn, h (Classical.byContradiction hc)⟩
theorem rec_parts {C N S K Q : Int} {n : Nat} {T : Nat → List Int} {slot target : Int} (h : recE C N S K Q n T slot target = 0) : (∀ j, j ≤ n → Good (T j)) ∧ 1 ≤ slot ∧ slot ≤ 1600 := by
  obtain ⟨hok, h2⟩ := rec_zero h
  exact ⟨fun j hj => wrong_good (hok.sets j hj), (set_range h2).1⟩
theorem rec_few {C N S K Q : Int} {n : Nat} {T : Nat → List Int} {slot target : Int} (hn : n ≤ 100000) : Few (recF C N S K Q n T slot target) := or_few hn fun h => by obtain ⟨hG, hs⟩ := rec_parts h; exact change_len hG hs
theorem for_few {C N S K Q : Int} {n : Nat} {T : Nat → List Int} {slot target : Int} (hn : n ≤ 100000) : Few (forF C N S K Q n T slot target) := or_few hn fun h => by obtain ⟨hG, hs⟩ := rec_parts h; exact change_len hG hs
theorem sto_few {C N S K Q : Int} {n : Nat} {T : Nat → List Int} {slot old now : Int} (hn : n ≤ 100000) (hm : ∀ j, j ≤ n → (T j).length ≤ 100000) : Few (stoF C N S K Q n T slot old now) := or_few hn fun h => by
  split
  · exact hm
  · by_cases h1 : recE C N S K Q n T slot old = 0
    · obtain ⟨hG, hs⟩ := rec_parts h1; exact change_len hG hs
    · rw [sto_1 h1] at h; exact absurd h h1
theorem RsAns.out3 {w w' : World} {n : Nat} {T : Nat → List Int} {c : Int} {e : Ending} (h : RsAns w n T c e w') : ∃ (a : Option Addr) (p : Nat) (b : Option Addr) (q : Nat) (U : Nat → Value), e = .returned (.tuple #[.agg #[.slice a n p, .slice b (T n).length q], .int .i64 c]) ∧ RS w' (.slice a n p) (.slice b (T n).length q) n U T ∧ Below w.heap.size w w' ∧ NewA w (.slice a n p) := by
  obtain ⟨A, nv, U, rfl, hr, hb, hn⟩ := h
  have hr2 := hr
  obtain ⟨a, p, rfl, -⟩ := hr.form
  have hat := hr.at_ n (Nat.le_refl _)
  rw [hr.nur] at hat
  obtain ⟨b, q, rfl, -⟩ := hat
  exact ⟨a, p, b, q, U, rfl, hr2, hb, hn⟩
/-- two cells of a box written -/
theorem put_two {W : World} {x : Nat} {A B A2 B2 : Value} {t : TypeId} (hx : W.heap[x]? = some (.cells #[A, B] t (0, 0))) : ((W.setCell ⟨x, 0, none⟩ A2).setCell ⟨x, 1, none⟩ B2).heap[x]? = some (.cells #[A2, B2] t (0, 0)) := set_row (set_row hx 0 _) 1 _
theorem put_far {W : World} {x y : Nat} {o : Obj} (hy : W.heap[y]? = some o) (hne : y ≠ x) (A2 B2 : Value) : ((W.setCell ⟨x, 0, none⟩ A2).setCell ⟨x, 1, none⟩ B2).heap[y]? = some o := set_far _ hne (set_far _ hne hy)
theorem put_rs {W : World} {x n : Nat} {A B A2 B2 A3 B3 : Value} {U : Nat → Value} {T : Nat → List Int} {t : TypeId} (h : RS W A3 B3 n U T) (hx : W.heap[x]? = some (.cells #[A, B] t (0, 0))) (h1 : isSl A) (h2 : isSl B) (h3 : isSl A2) (hne : ∀ c off m cp, A3 = .slice (some ⟨c, off, none⟩) m cp → c ≠ x) : RS ((W.setCell ⟨x, 0, none⟩ A2).setCell ⟨x, 1, none⟩ B2) A3 B3 n U T :=
  (h.set hx (sl_pair h1 h2) (i := 0) hne A2).set (set_row hx 0 _) (sl_pair h3 h2) (i := 1) hne B2
set_option maxRecDepth 100000 in
set_option maxHeartbeats 1000000 in
theorem stores4_far (C N S K Q : Int) (A nv : Value) (n : Nat) (U : Nat → Value) (T : Nat → List Int) (slot l0 l1 : Int) (w : World) (hR : RS w A nv n U T) (hf : farS n T = true) :
    Calls Tryz.prog 4 #[.agg #[.int .i64 C, .int .i64 N, .int .i64 S, .int .i64 K, .int .i64 Q, A, nv], .int .i64 slot, .agg #[.int .i64 l0, .int .i64 l1]] w fun e w' => e = .returned (.bool true) ∧ Below w.heap.size w w' := by
  obtain ⟨a0, p0, rfl, -⟩ := hR.form
  have hat := hR.at_ n (Nat.le_refl _)
  rw [hR.nur] at hat
  obtain ⟨b0, q0, rfl, -⟩ := hat
  obtain ⟨ln, hln⟩ : ∃ ln, (T n).length = ln := ⟨_, rfl⟩
  rw [hln] at hR ⊢
  obtain ⟨k0, k1, k2, k3⟩ := two_boxes w (.cells #[.int .i64 C, .int .i64 N, .int .i64 S, .int .i64 K, .int .i64 Q, .slice a0 n p0, .slice b0 ln q0] 31) (.cells #[.int .i64 l0, .int .i64 l1] 42)
  obtain ⟨c0, c1, c2, c3, c4, c5, c6⟩ := seven_cells k0
  obtain ⟨m0, m1, -, -⟩ := two_cells k1
  have FA := Lib.hid (far15 _ _ n U T _ (hR.below k3))
  rw [hf] at FA
  have B := Lib.hid k3
  have KX := Lib.hid k0
  have KL := Lib.hid k1
  have KS := Lib.hid k2
  clear k0 k1 k2 k3 hR hf hln
  go_enter Tryz.func4, Tryz.ntmps4
  go_wp2_with (first
    | (go_at_call 8; refine FA.out.mono ?_; rintro e w1 ⟨rfl, hb1⟩; have B1 := Lib.hid (below_end B.out hb1); clear hb1)
    | (go_at_call 9; refine (awake16 _).mono ?_; rintro e w2 ⟨rfl, hb2⟩; have B2 := Lib.hid (below_end B1.out hb2); clear hb2))
  refine bodyPost_ret (v := .bool true) (by simp [results, Tryz.f4, go_sem]) rfl ⟨rfl, B2.out⟩
set_option maxRecDepth 100000 in
set_option maxHeartbeats 4000000 in
theorem stores4_near (C N S K Q : Int) (A nv : Value) (n : Nat) (U : Nat → Value) (T : Nat → List Int) (slot l0 l1 : Int) (w : World) (hR : RS w A nv n U T) (hf : farS n T = false) :
    Calls Tryz.prog 4 #[.agg #[.int .i64 C, .int .i64 N, .int .i64 S, .int .i64 K, .int .i64 Q, A, nv], .int .i64 slot, .agg #[.int .i64 l0, .int .i64 l1]] w fun e w' => e = .returned (.bool true) ∧ Below w.heap.size w w' := by
  obtain ⟨hn26, hm⟩ := farS_no hf
  have hm2 : ∀ j, j ≤ n → (T j).length ≤ 100000 := fun j hj => by have := hm j hj; omega
  obtain ⟨a0, p0, rfl, -⟩ := hR.form
  have hat := hR.at_ n (Nat.le_refl _)
  rw [hR.nur] at hat
  obtain ⟨b0, q0, rfl, -⟩ := hat
  obtain ⟨ln, hln⟩ : ∃ ln, (T n).length = ln := ⟨_, rfl⟩
  rw [hln] at hR ⊢
  obtain ⟨k0, k1, k2, k3⟩ := two_boxes w (.cells #[.int .i64 C, .int .i64 N, .int .i64 S, .int .i64 K, .int .i64 Q, .slice a0 n p0, .slice b0 ln q0] 31) (.cells #[.int .i64 l0, .int .i64 l1] 42)
  obtain ⟨c0, c1, c2, c3, c4, c5, c6⟩ := seven_cells k0
  obtain ⟨m0, m1, -, -⟩ := two_cells k1
  have FA := Lib.hid (far15 _ _ n U T _ (hR.below k3))
  rw [hf] at FA
  have B := Lib.hid k3
  have KX := Lib.hid k0
  have KL := Lib.hid k1
  have KS := Lib.hid k2
  have P1 := Lib.hid (fun W (hW : Below w.heap.size w W) => record19 C N S K Q _ _ n U T slot l0 W (hR.below hW) hm2)
  have P2 := Lib.hid (fun W (hW : Below w.heap.size w W) => rrecord18 C N S K Q _ _ n U T slot l0 W (hR.below hW) hm2)
  have P3 := Lib.hid (fun W (hW : Below w.heap.size w W) => forget20 C N S K Q _ _ n U T slot l0 W (hR.below hW) hm2)
  have P4 := Lib.hid (fun W (hW : Below w.heap.size w W) => rforget20 C N S K Q _ _ n U T slot l0 W (hR.below hW) hm2)
  have P5 := Lib.hid (fun W (hW : Below w.heap.size w W) => store22 C N S K Q _ _ n U T slot l0 l1 W (hR.below hW) hm2)
  have P6 := Lib.hid (fun W (hW : Below w.heap.size w W) => rstore22 C N S K Q _ _ n U T slot l0 l1 W (hR.below hW) hm2)
  have E1 := rec_few (C := C) (N := N) (S := S) (K := K) (Q := Q) (T := T) (slot := slot) (target := l0) (show n ≤ 100000 by omega)
  have E2 := for_few (C := C) (N := N) (S := S) (K := K) (Q := Q) (T := T) (slot := slot) (target := l0) (show n ≤ 100000 by omega)
  have E3 := sto_few (C := C) (N := N) (S := S) (K := K) (Q := Q) (T := T) (slot := slot) (old := l0) (now := l1) (show n ≤ 100000 by omega) hm2
  generalize recF C N S K Q n T slot l0 = R1 at *
  generalize forF C N S K Q n T slot l0 = R2 at *
  generalize stoF C N S K Q n T slot l0 l1 = R3 at *
  obtain ⟨n1, T1, g1⟩ := R1
  obtain ⟨n2, T2, g2⟩ := R2
  obtain ⟨n3, T3, g3⟩ := R3
  dsimp only at P1 P2 P3 P4 P5 P6
  have Q1 := Lib.hid (fun W A1 v1 A2 v2 U1 U2 h1 h2 => requal14 A1 v1 A2 v2 n1 U1 U2 T1 W h1 h2 E1.2 E1.1)
  have Q2 := Lib.hid (fun W A1 v1 A2 v2 U1 U2 h1 h2 => requal14 A1 v1 A2 v2 n2 U1 U2 T2 W h1 h2 E2.2 E2.1)
  have Q3 := Lib.hid (fun W A1 v1 A2 v2 U1 U2 h1 h2 => requal14 A1 v1 A2 v2 n3 U1 U2 T3 W h1 h2 E3.2 E3.1)
  have z1 : (g1 != g1) = false := by simp
  have z2 : (g2 != g2) = false := by simp
  have z3 : (g3 == g3) = true := by simp
  clear k0 k1 k2 k3 hR hf hln hm hm2 hn26 E1 E2 E3
  go_enter Tryz.func4, Tryz.ntmps4
  go_upto_region 3 with (go_at_call 8; refine FA.out.mono ?_; rintro e w1 ⟨rfl, hb1⟩; have B := Lib.hid (below_end B.out hb1); have ZX := Lib.hid (show w.heap.size + 2 ≤ w1.heap.size by have := hb1.size; have := KS.out; omega); have KX := Lib.hid (keep_heap hb1 KX.out); have KL := Lib.hid (keep_heap hb1 KL.out); obtain ⟨c0, c1, c2, c3, c4, c5, c6⟩ := seven_cells KX.out; obtain ⟨m0, m1, -, -⟩ := two_cells KL.out; clear hb1 KS FA)
  go_upto_region 4 with (go_at_call 17; refine (P1.out _ B.out).mono ?_; intro e w2 h; obtain ⟨a1, p1, b1, q1, U1, rfl, hr1, hb2, -⟩ := h.out3; have B := Lib.hid (below_end B.out hb2); have ZX := Lib.hid (show w.heap.size + 2 ≤ w2.heap.size by have := hb2.size; have := ZX.out; omega); have KX := Lib.hid (keep_heap hb2 KX.out); have KL := Lib.hid (keep_heap hb2 KL.out); have R1 := Lib.hid hr1; clear hb2 h hr1)
  have hq := heap_alloc_new w2 (.cells #[.slice a1 n1 p1, .slice b1 (T1 n1).length q1] 29)
  have ba := alloc_below w2 (.cells #[.slice a1 n1 p1, .slice b1 (T1 n1).length q1] 29)
  have hsz : w2.heap.size < (w2.alloc (.cells #[.slice a1 n1 p1, .slice b1 (T1 n1).length q1] 29)).heap.size := by simp
  obtain ⟨x1, hx1⟩ : ∃ x1, w2.heap.size = x1 := ⟨_, rfl⟩
  have B := Lib.hid (below_end B.out ba)
  have KX := Lib.hid (keep_heap ba KX.out)
  have KL := Lib.hid (keep_heap ba KL.out)
  have R1 := Lib.hid (R1.out.below ba)
  rw [hx1] at hq hsz ZX ⊢
  have X1 := Lib.hid hq
  have HS := Lib.hid hsz
  generalize w2.alloc (.cells #[.slice a1 n1 p1, .slice b1 (T1 n1).length q1] 29) = w3 at *
  obtain ⟨c0, c1, c2, c3, c4, c5, c6⟩ := seven_cells KX.out
  obtain ⟨m0, m1, -, -⟩ := two_cells KL.out
  clear hq ba hsz hx1
  go_upto_region 5 with (go_at_call 18; refine (P2.out _ B.out).mono ?_; intro e w4 h; obtain ⟨a2, p2, b2, q2, U2, rfl, hr2, hb4, -⟩ := h.out3; have B := Lib.hid (below_end B.out hb4); have HS := Lib.hid (show x1 < w4.heap.size by have := hb4.size; have := HS.out; omega); have KX := Lib.hid (keep_heap hb4 KX.out); have KL := Lib.hid (keep_heap hb4 KL.out); have X1 := Lib.hid (keep_heap hb4 X1.out); have R1 := Lib.hid (R1.out.below hb4); have R2 := Lib.hid hr2; clear hb4 h hr2)
  have hq := heap_alloc_new w4 (.cells #[.slice a2 n1 p2, .slice b2 (T1 n1).length q2] 29)
  have ba := alloc_below w4 (.cells #[.slice a2 n1 p2, .slice b2 (T1 n1).length q2] 29)
  have hsz : w4.heap.size < (w4.alloc (.cells #[.slice a2 n1 p2, .slice b2 (T1 n1).length q2] 29)).heap.size := by simp
  obtain ⟨x2, hx2⟩ : ∃ x2, w4.heap.size = x2 := ⟨_, rfl⟩
  have B := Lib.hid (below_end B.out ba)
  have KX := Lib.hid (keep_heap ba KX.out)
  have KL := Lib.hid (keep_heap ba KL.out)
  have X1 := Lib.hid (keep_heap ba X1.out)
  have R1 := Lib.hid (R1.out.below ba)
  have R2 := Lib.hid (R2.out.below ba)
  rw [hx2] at hq hsz HS ⊢
  have X2 := Lib.hid hq
  have LT := HS
  have HS := Lib.hid hsz
  generalize w4.alloc (.cells #[.slice a2 n1 p2, .slice b2 (T1 n1).length q2] 29) = w5 at *
  obtain ⟨y0, y1, -, -⟩ := two_cells X1.out
  obtain ⟨v0, v1, -, -⟩ := two_cells X2.out
  clear hq ba hsz hx2
  go_upto_region 7 with (go_at_call 14; refine (Q1.out _ _ _ _ _ _ _ R1.out R2.out).mono ?_; rintro e w6 ⟨rfl, hb⟩; have B := Lib.hid (below_end B.out hb); have HS := Lib.hid (show x2 < w6.heap.size by have := hb.size; have := HS.out; omega); have KX := Lib.hid (keep_heap hb KX.out); have KL := Lib.hid (keep_heap hb KL.out); have X1 := Lib.hid (keep_heap hb X1.out); have X2 := Lib.hid (keep_heap hb X2.out); obtain ⟨c0, c1, c2, c3, c4, c5, c6⟩ := seven_cells KX.out; obtain ⟨m0, m1, -, -⟩ := two_cells KL.out; clear hb)
  go_upto_region 8 with (go_at_call 19; refine (P3.out _ B.out).mono ?_; intro e w7 h; obtain ⟨a6, p6, b6, q6, U6, rfl, hr, hb, hna⟩ := h.out3; have B := Lib.hid (below_end B.out hb); have NA := Lib.hid (show ∀ c off m cp, Value.slice a6 n2 p6 = .slice (some ⟨c, off, none⟩) m cp → x2 < c from fun c off m cp e => by have := hna c off m cp e; have := HS.out; omega); have HS := Lib.hid (show x2 < w7.heap.size by have := hb.size; have := HS.out; omega); have KX := Lib.hid (keep_heap hb KX.out); have KL := Lib.hid (keep_heap hb KL.out); have X1 := Lib.hid (keep_heap hb X1.out); have X2 := Lib.hid (keep_heap hb X2.out); have R1 := Lib.hid hr; obtain ⟨y0, y1, yf0, yf1⟩ := two_cells X1.out; clear h hr hb hna)
  have B := Lib.hid ((B.out.setCell (p := ⟨x1, 0, none⟩) (show w.heap.size ≤ x1 by have := ZX.out; omega) (.slice a6 n2 p6)).setCell (p := ⟨x1, 1, none⟩) (show w.heap.size ≤ x1 by have := ZX.out; omega) (.slice b6 (T2 n2).length q6))
  have HS := Lib.hid (show x2 < ((w7.setCell ⟨x1, 0, none⟩ (.slice a6 n2 p6)).setCell ⟨x1, 1, none⟩ (.slice b6 (T2 n2).length q6)).heap.size by simpa using HS.out)
  have KX := Lib.hid (put_far (x := x1) KX.out (by have := ZX.out; omega) (.slice a6 n2 p6) (.slice b6 (T2 n2).length q6))
  have KL := Lib.hid (put_far (x := x1) KL.out (by have := ZX.out; omega) (.slice a6 n2 p6) (.slice b6 (T2 n2).length q6))
  have X2 := Lib.hid (put_far (x := x1) X2.out (by have := LT.out; omega) (.slice a6 n2 p6) (.slice b6 (T2 n2).length q6))
  have R1 := Lib.hid (put_rs (x := x1) (A2 := .slice a6 n2 p6) (B2 := .slice b6 (T2 n2).length q6) R1.out X1.out ⟨_, _, _, rfl⟩ ⟨_, _, _, rfl⟩ ⟨_, _, _, rfl⟩ (fun c off m cp e => by have := NA.out c off m cp e; have := LT.out; omega))
  have X1 := Lib.hid (put_two (A2 := .slice a6 n2 p6) (B2 := .slice b6 (T2 n2).length q6) X1.out)
  generalize (w7.setCell ⟨x1, 0, none⟩ (.slice a6 n2 p6)).setCell ⟨x1, 1, none⟩ (.slice b6 (T2 n2).length q6) = y6 at *
  obtain ⟨c0, c1, c2, c3, c4, c5, c6⟩ := seven_cells KX.out
  obtain ⟨m0, m1, -, -⟩ := two_cells KL.out
  clear y0 y1 yf0 yf1
  go_upto_region 9 with (go_at_call 20; refine (P4.out _ B.out).mono ?_; intro e w8 h; obtain ⟨d6, e6, f6, h6, V6, rfl, hr, hb, hna⟩ := h.out3; have B := Lib.hid (below_end B.out hb); have NB := Lib.hid (show ∀ c off m cp, Value.slice d6 n2 e6 = .slice (some ⟨c, off, none⟩) m cp → x2 < c from fun c off m cp e => by have := hna c off m cp e; have := HS.out; omega); have HS := Lib.hid (show x2 < w8.heap.size by have := hb.size; have := HS.out; omega); have KX := Lib.hid (keep_heap hb KX.out); have KL := Lib.hid (keep_heap hb KL.out); have X1 := Lib.hid (keep_heap hb X1.out); have X2 := Lib.hid (keep_heap hb X2.out); have R1 := Lib.hid (R1.out.below hb); have R2 := Lib.hid hr; obtain ⟨y0, y1, yf0, yf1⟩ := two_cells X2.out; clear h hr hb hna)
  have B := Lib.hid ((B.out.setCell (p := ⟨x2, 0, none⟩) (show w.heap.size ≤ x2 by have := ZX.out; have := LT.out; omega) (.slice d6 n2 e6)).setCell (p := ⟨x2, 1, none⟩) (show w.heap.size ≤ x2 by have := ZX.out; have := LT.out; omega) (.slice f6 (T2 n2).length h6))
  have HS := Lib.hid (show x2 < ((w8.setCell ⟨x2, 0, none⟩ (.slice d6 n2 e6)).setCell ⟨x2, 1, none⟩ (.slice f6 (T2 n2).length h6)).heap.size by simpa using HS.out)
  have KX := Lib.hid (put_far (x := x2) KX.out (by have := ZX.out; have := LT.out; omega) (.slice d6 n2 e6) (.slice f6 (T2 n2).length h6))
  have KL := Lib.hid (put_far (x := x2) KL.out (by have := ZX.out; have := LT.out; omega) (.slice d6 n2 e6) (.slice f6 (T2 n2).length h6))
  have X1 := Lib.hid (put_far (x := x2) X1.out (by have := LT.out; omega) (.slice d6 n2 e6) (.slice f6 (T2 n2).length h6))
  have R1 := Lib.hid (put_rs (x := x2) (A2 := .slice d6 n2 e6) (B2 := .slice f6 (T2 n2).length h6) R1.out X2.out ⟨_, _, _, rfl⟩ ⟨_, _, _, rfl⟩ ⟨_, _, _, rfl⟩ (fun c off m cp e => by have := NA.out c off m cp e; omega))
  have R2 := Lib.hid (put_rs (x := x2) (A2 := .slice d6 n2 e6) (B2 := .slice f6 (T2 n2).length h6) R2.out X2.out ⟨_, _, _, rfl⟩ ⟨_, _, _, rfl⟩ ⟨_, _, _, rfl⟩ (fun c off m cp e => by have := NB.out c off m cp e; omega))
  have X2 := Lib.hid (put_two (A2 := .slice d6 n2 e6) (B2 := .slice f6 (T2 n2).length h6) X2.out)
  generalize (w8.setCell ⟨x2, 0, none⟩ (.slice d6 n2 e6)).setCell ⟨x2, 1, none⟩ (.slice f6 (T2 n2).length h6) = u6 at *
  clear y0 y1 yf0 yf1 c0 c1 c2 c3 c4 c5 c6 m0 m1
  obtain ⟨y0, y1, -, -⟩ := two_cells X1.out
  obtain ⟨v0, v1, -, -⟩ := two_cells X2.out
  go_upto_region 11 with (go_at_call 14; refine (Q2.out _ _ _ _ _ _ _ R1.out R2.out).mono ?_; rintro e w10 ⟨rfl, hb⟩; have B := Lib.hid (below_end B.out hb); have HS := Lib.hid (show x2 < w10.heap.size by have := hb.size; have := HS.out; omega); have KX := Lib.hid (keep_heap hb KX.out); have KL := Lib.hid (keep_heap hb KL.out); have X1 := Lib.hid (keep_heap hb X1.out); have X2 := Lib.hid (keep_heap hb X2.out); obtain ⟨c0, c1, c2, c3, c4, c5, c6⟩ := seven_cells KX.out; obtain ⟨m0, m1, -, -⟩ := two_cells KL.out; clear hb y0 y1 v0 v1)
  go_upto_region 12 with (go_at_call 21; refine (P5.out _ B.out).mono ?_; intro e w12 h; obtain ⟨a11, p11, b11, q11, U11, rfl, hr, hb, hna⟩ := h.out3; have B := Lib.hid (below_end B.out hb); have NA := Lib.hid (show ∀ c off m cp, Value.slice a11 n3 p11 = .slice (some ⟨c, off, none⟩) m cp → x2 < c from fun c off m cp e => by have := hna c off m cp e; have := HS.out; omega); have HS := Lib.hid (show x2 < w12.heap.size by have := hb.size; have := HS.out; omega); have KX := Lib.hid (keep_heap hb KX.out); have KL := Lib.hid (keep_heap hb KL.out); have X1 := Lib.hid (keep_heap hb X1.out); have X2 := Lib.hid (keep_heap hb X2.out); have R1 := Lib.hid hr; obtain ⟨y0, y1, yf0, yf1⟩ := two_cells X1.out; clear h hr hb hna)
  have B := Lib.hid ((B.out.setCell (p := ⟨x1, 0, none⟩) (show w.heap.size ≤ x1 by have := ZX.out; omega) (.slice a11 n3 p11)).setCell (p := ⟨x1, 1, none⟩) (show w.heap.size ≤ x1 by have := ZX.out; omega) (.slice b11 (T3 n3).length q11))
  have HS := Lib.hid (show x2 < ((w12.setCell ⟨x1, 0, none⟩ (.slice a11 n3 p11)).setCell ⟨x1, 1, none⟩ (.slice b11 (T3 n3).length q11)).heap.size by simpa using HS.out)
  have KX := Lib.hid (put_far (x := x1) KX.out (by have := ZX.out; omega) (.slice a11 n3 p11) (.slice b11 (T3 n3).length q11))
  have KL := Lib.hid (put_far (x := x1) KL.out (by have := ZX.out; omega) (.slice a11 n3 p11) (.slice b11 (T3 n3).length q11))
  have X2 := Lib.hid (put_far (x := x1) X2.out (by have := LT.out; omega) (.slice a11 n3 p11) (.slice b11 (T3 n3).length q11))
  have R1 := Lib.hid (put_rs (x := x1) (A2 := .slice a11 n3 p11) (B2 := .slice b11 (T3 n3).length q11) R1.out X1.out ⟨_, _, _, rfl⟩ ⟨_, _, _, rfl⟩ ⟨_, _, _, rfl⟩ (fun c off m cp e => by have := NA.out c off m cp e; have := LT.out; omega))
  have X1 := Lib.hid (put_two (A2 := .slice a11 n3 p11) (B2 := .slice b11 (T3 n3).length q11) X1.out)
  generalize (w12.setCell ⟨x1, 0, none⟩ (.slice a11 n3 p11)).setCell ⟨x1, 1, none⟩ (.slice b11 (T3 n3).length q11) = y11 at *
  obtain ⟨c0, c1, c2, c3, c4, c5, c6⟩ := seven_cells KX.out
  obtain ⟨m0, m1, -, -⟩ := two_cells KL.out
  clear y0 y1 yf0 yf1
  go_upto_region 13 with (go_at_call 22; refine (P6.out _ B.out).mono ?_; intro e w13 h; obtain ⟨d11, e11, f11, h11, V11, rfl, hr, hb, hna⟩ := h.out3; have B := Lib.hid (below_end B.out hb); have NB := Lib.hid (show ∀ c off m cp, Value.slice d11 n3 e11 = .slice (some ⟨c, off, none⟩) m cp → x2 < c from fun c off m cp e => by have := hna c off m cp e; have := HS.out; omega); have HS := Lib.hid (show x2 < w13.heap.size by have := hb.size; have := HS.out; omega); have KX := Lib.hid (keep_heap hb KX.out); have KL := Lib.hid (keep_heap hb KL.out); have X1 := Lib.hid (keep_heap hb X1.out); have X2 := Lib.hid (keep_heap hb X2.out); have R1 := Lib.hid (R1.out.below hb); have R2 := Lib.hid hr; obtain ⟨y0, y1, yf0, yf1⟩ := two_cells X2.out; clear h hr hb hna)
  have B := Lib.hid ((B.out.setCell (p := ⟨x2, 0, none⟩) (show w.heap.size ≤ x2 by have := ZX.out; have := LT.out; omega) (.slice d11 n3 e11)).setCell (p := ⟨x2, 1, none⟩) (show w.heap.size ≤ x2 by have := ZX.out; have := LT.out; omega) (.slice f11 (T3 n3).length h11))
  have HS := Lib.hid (show x2 < ((w13.setCell ⟨x2, 0, none⟩ (.slice d11 n3 e11)).setCell ⟨x2, 1, none⟩ (.slice f11 (T3 n3).length h11)).heap.size by simpa using HS.out)
  have KX := Lib.hid (put_far (x := x2) KX.out (by have := ZX.out; have := LT.out; omega) (.slice d11 n3 e11) (.slice f11 (T3 n3).length h11))
  have KL := Lib.hid (put_far (x := x2) KL.out (by have := ZX.out; have := LT.out; omega) (.slice d11 n3 e11) (.slice f11 (T3 n3).length h11))
  have X1 := Lib.hid (put_far (x := x2) X1.out (by have := LT.out; omega) (.slice d11 n3 e11) (.slice f11 (T3 n3).length h11))
  have R1 := Lib.hid (put_rs (x := x2) (A2 := .slice d11 n3 e11) (B2 := .slice f11 (T3 n3).length h11) R1.out X2.out ⟨_, _, _, rfl⟩ ⟨_, _, _, rfl⟩ ⟨_, _, _, rfl⟩ (fun c off m cp e => by have := NA.out c off m cp e; omega))
  have R2 := Lib.hid (put_rs (x := x2) (A2 := .slice d11 n3 e11) (B2 := .slice f11 (T3 n3).length h11) R2.out X2.out ⟨_, _, _, rfl⟩ ⟨_, _, _, rfl⟩ ⟨_, _, _, rfl⟩ (fun c off m cp e => by have := NB.out c off m cp e; omega))
  have X2 := Lib.hid (put_two (A2 := .slice d11 n3 e11) (B2 := .slice f11 (T3 n3).length h11) X2.out)
  generalize (w13.setCell ⟨x2, 0, none⟩ (.slice d11 n3 e11)).setCell ⟨x2, 1, none⟩ (.slice f11 (T3 n3).length h11) = u11 at *
  clear y0 y1 yf0 yf1 c0 c1 c2 c3 c4 c5 c6 m0 m1
  obtain ⟨y0, y1, -, -⟩ := two_cells X1.out
  obtain ⟨v0, v1, -, -⟩ := two_cells X2.out
  go_wp2_with (first
    | (go_at_call 14; refine (Q3.out _ _ _ _ _ _ _ R1.out R2.out).mono ?_; rintro e w20 ⟨rfl, hb⟩; have B := Lib.hid (below_end B.out hb); clear hb)
    | (go_at_call 9; refine (awake16 _).mono ?_; rintro e w21 ⟨rfl, hb⟩; have BZ := Lib.hid (below_end B.out hb); clear hb))
  refine bodyPost_ret (v := .bool true) (by simp [results, Tryz.f4, go_sem]) rfl ⟨rfl, BZ.out⟩
theorem stores4 (C N S K Q : Int) (A nv : Value) (n : Nat) (U : Nat → Value) (T : Nat → List Int) (slot l0 l1 : Int) (w : World) (hR : RS w A nv n U T) :
    Calls Tryz.prog 4 #[.agg #[.int .i64 C, .int .i64 N, .int .i64 S, .int .i64 K, .int .i64 Q, A, nv], .int .i64 slot, .agg #[.int .i64 l0, .int .i64 l1]] w fun e w' => e = .returned (.bool true) ∧ Below w.heap.size w w' := by
  cases hf : farS n T with
  | true => exact stores4_far C N S K Q A nv n U T slot l0 l1 w hR hf
  | false => exact stores4_near C N S K Q A nv n U T slot l0 l1 w hR hf
end YtjkphacidpongaaGreat
end Go.Proofs
