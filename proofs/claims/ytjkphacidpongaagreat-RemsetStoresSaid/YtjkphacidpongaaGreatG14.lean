/- Count, the program's. -/
import Derived.Test.YtjkphacidpongaaGreatQRmF
namespace Go.Proofs
namespace YtjkphacidpongaaGreat
open Go.RowKit
attribute [local go_sem] Oper.semAt_some

theorem len_range2 (cs : List Int) : 0 ≤ (lenA cs).1 ∧ (lenA cs).1 ≤ 1600 := by
  rw [len_range]; have := range_len cs 1 1601; dsimp only; omega
/-- how many slots the first k sets have -/
def cntU (T : Nat → List Int) : Nat → Int
  | 0 => 0
  | k + 1 => cntU T k + (lenA (T k)).1
theorem cntU_le (T : Nat → List Int) : ∀ k, 0 ≤ cntU T k ∧ cntU T k ≤ 1600 * k
  | 0 => ⟨by simp [cntU], by simp [cntU]⟩
  | k + 1 => by
    have h1 := cntU_le T k
    have h2 := len_range2 (T k)
    simp only [cntU]
    omega
def cntI (n : Nat) (T : Nat → List Int) : Nat := least (fun j => (lenA (T j)).2 != 0) (n + 1) 0
/-- what Count answers -/
def cntF (n : Nat) (T : Nat → List Int) : Int × Int := if cntI n T = n + 1 then (cntU T (n + 1), 0) else (0, (lenA (T (cntI n T))).2)
theorem cnt_at {n : Nat} {T : Nat → List Int} {i : Nat} (hi : i ≤ n) (h : (lenA (T i)).2 ≠ 0) (hb : ∀ j, j < i → (lenA (T j)).2 = 0) : cntF n T = (0, (lenA (T i)).2) := by
  have e : cntI n T = i := least_eq _ (Nat.zero_le _) (by omega) (by simpa using h) (fun m _ hm => by simp [hb m hm])
  unfold cntF; rw [e, if_neg (by omega)]
theorem cnt_ok {n : Nat} {T : Nat → List Int} (hb : ∀ j, j ≤ n → (lenA (T j)).2 = 0) : cntF n T = (cntU T (n + 1), 0) := by
  have e : cntI n T = n + 1 := by
    have := least_none (fun j => (lenA (T j)).2 != 0) (k := n + 1) (i := 0) (fun m _ hm => by simp [hb m (by omega)])
    unfold cntI; omega
  unfold cntF; rw [if_pos e]
def cnB (w : World) (A nv : Value) (r1 r2 c : Int) : List (Nat × Obj) :=
  [(w.heap.size + 1, .cells #[.int .i64 r1] 3 (0, 0)), (w.heap.size + 2, .cells #[.int .i64 r2] 34 (0, 0)), (w.heap.size + 3, .cells #[.int .i64 c] 3 (0, 0)), (w.heap.size + 1 + 1 + 1 + 1, .cells #[A, nv] 29 (0, 0))]
theorem cn_get {w W : World} {A nv : Value} {r1 r2 c : Int} (h : Kp w (cnB w A nv r1 r2 c) W) : W.heap[w.heap.size + 1]? = some (.cells #[.int .i64 r1] 3 (0, 0)) ∧ W.heap[w.heap.size + 2]? = some (.cells #[.int .i64 r2] 34 (0, 0)) ∧
    W.heap[w.heap.size + 3]? = some (.cells #[.int .i64 c] 3 (0, 0)) ∧ W.heap[w.heap.size + 1 + 1 + 1 + 1]? = some (.cells #[A, nv] 29 (0, 0)) :=
  ⟨h.at _ _ (by simp [cnB]), h.at _ _ (by simp [cnB]), h.at _ _ (by simp [cnB]), h.at _ _ (by simp [cnB])⟩
theorem cn_mk {w W : World} {A nv : Value} {r1 r2 c : Int} (h1 : W.heap[w.heap.size + 1]? = some (.cells #[.int .i64 r1] 3 (0, 0))) (h2 : W.heap[w.heap.size + 2]? = some (.cells #[.int .i64 r2] 34 (0, 0)))
    (h3 : W.heap[w.heap.size + 3]? = some (.cells #[.int .i64 c] 3 (0, 0))) (h4 : W.heap[w.heap.size + 1 + 1 + 1 + 1]? = some (.cells #[A, nv] 29 (0, 0))) (hb : Below w.heap.size w W) : Kp w (cnB w A nv r1 r2 c) W := ⟨fun p hp => by
  simp only [cnB, List.mem_cons, List.not_mem_nil, or_false] at hp
  rcases hp with rfl | rfl | rfl | rfl
  · exact h1
  · exact h2
  · exact h3
  · exact h4, hb⟩
theorem cn_lt {w : World} {A nv : Value} {r1 r2 c : Int} {B : Nat} (hB : w.heap.size + 5 ≤ B) : ∀ p, p ∈ cnB w A nv r1 r2 c → p.1 < B := fun p hp => by
  simp only [cnB, List.mem_cons, List.not_mem_nil, or_false] at hp
  rcases hp with rfl | rfl | rfl | rfl <;> dsimp only <;> omega
theorem set_two1 {B : Nat} {W : World} {x0 y0 : Value} {t u : TypeId} (h2 : W.heap[B + 1]? = some (.cells #[x0] t (0, 0))) (h3 : W.heap[B + 2]? = some (.cells #[y0] u (0, 0))) (x y : Value) :
    ((W.setCell ⟨B + 1, 0, none⟩ x).setCell ⟨B + 1 + 1, 0, none⟩ y).heap[B + 1]? = some (.cells #[x] t (0, 0)) ∧
    ((W.setCell ⟨B + 1, 0, none⟩ x).setCell ⟨B + 1 + 1, 0, none⟩ y).heap[B + 2]? = some (.cells #[y] u (0, 0)) ∧
    ∀ w : World, w.heap.size = B → Below B w W → Below B w ((W.setCell ⟨B + 1, 0, none⟩ x).setCell ⟨B + 1 + 1, 0, none⟩ y) := by
  refine ⟨?_, ?_, fun w _ hB => (hB.setCell (p := ⟨B + 1, 0, none⟩) (show B ≤ B + 1 by omega) x).setCell (p := ⟨B + 1 + 1, 0, none⟩) (show B ≤ B + 1 + 1 by omega) y⟩
  · exact set_far _ (by omega) (set_row h2 0 x)
  · exact set_row (set_far _ (by omega) h3) 0 y
theorem cn_end {w W : World} {n : Nat} {A nv : Value} {r1 r2 c : Int} (h : Kp w (cnB w A nv r1 r2 c) W) (hK : W.heap[n]? = some (.deferred (some []))) (hn : w.heap.size + 5 ≤ n) (x y : Value) :
    ((W.setCell ⟨w.heap.size + 1, 0, none⟩ x).setCell ⟨w.heap.size + 1 + 1, 0, none⟩ y).heap[n]? = some (.deferred (some [])) ∧
    (((W.setCell ⟨w.heap.size + 1, 0, none⟩ x).setCell ⟨w.heap.size + 1 + 1, 0, none⟩ y).putObj n (.deferred none)).cell? ⟨w.heap.size + 1, 0, none⟩ = some x ∧
    (((W.setCell ⟨w.heap.size + 1, 0, none⟩ x).setCell ⟨w.heap.size + 1 + 1, 0, none⟩ y).putObj n (.deferred none)).cell? ⟨w.heap.size + 1 + 1, 0, none⟩ = some y ∧
    Below w.heap.size w (((W.setCell ⟨w.heap.size + 1, 0, none⟩ x).setCell ⟨w.heap.size + 1 + 1, 0, none⟩ y).putObj n (.deferred none)) := by
  obtain ⟨h2, h3, -, -⟩ := cn_get h
  obtain ⟨t2, t3, hx⟩ := set_two1 h2 h3 x y
  refine ⟨set_far _ (by omega) (set_far _ (by omega) hK), put_cell _ _ (by simp; omega) (one_cell t2).1, put_cell _ _ (by simp; omega) (one_cell t3).1, put_below (hx w rfl h.2) (by omega) _⟩
set_option maxRecDepth 100000 in
set_option maxHeartbeats 2000000 in
theorem count18 (A nv : Value) (n : Nat) (U : Nat → Value) (T : Nat → List Int) (w : World) (hR : RS w A nv n U T) (hm : ∀ j, j ≤ n → (T j).length ≤ 100000) (hn : n ≤ 1000000) :
    Calls Tryz.prog 15 #[.agg #[A, nv]] w fun e w' => e = .returned (.tuple #[.int .i64 (cntF n T).1, .int .i64 (cntF n T).2]) ∧ Below w.heap.size w w' := by
  obtain ⟨a, cap, hA, -⟩ := hR.form
  subst hA
  obtain ⟨k0, k1, k2, k3, k4, k5⟩ := four_boxes w (.cells #[.slice a n cap, nv] 29) (.cells #[.int .i64 0] 3) (.cells #[.int .i64 0] 34) (.cells #[.int .i64 0] 3)
  obtain ⟨c0, c1, -, -⟩ := two_cells k0
  have HR := Lib.hid hR
  have HM := Lib.hid hm
  clear hR hm
  refine callsIn_wide.1 (callsIn_of_wp_marks (n := 9) Tryz.func15 rfl trivial ?_ rfl)
  simp only [Tryz.ntmps15, List.size_toArray, List.length_cons, List.length_nil, Nat.reduceAdd, Nat.reduceSub, Array.replicate_succ, Array.replicate_zero, List.push_toArray, List.append_toArray, List.nil_append, List.cons_append]
  have K1 := Lib.hid k1
  have K2 := Lib.hid k2
  have K3 := Lib.hid k3
  have K4 := Lib.hid k4
  have K5 := Lib.hid k5
  clear k0 k1 k2 k3 k4 k5
  gi_wp2_with (refine ⟨trivial, ?_⟩; gi_at_call 44; refine (callsIn_wide.2 (all48 _ _ _)).mono ?_; rintro e w2 ⟨rfl, rfl⟩)
  generalize (((w.alloc (.cells #[.slice a n cap, nv] 29)).alloc (.cells #[.int .i64 0] 3)).alloc (.cells #[.int .i64 0] 34)).alloc (.cells #[.int .i64 0] 3) = X at *
  have hBx := World.alloc_heap_new X (.cells #[.slice a n cap, nv] 29)
  have hB2 := alloc_below X (.cells #[.slice a n cap, nv] 29)
  have hz : (X.alloc (.cells #[.slice a n cap, nv] 29)).heap.size = w.heap.size + 5 := by simp [K4.out]
  rw [K4.out] at hBx
  generalize X.alloc (.cells #[.slice a n cap, nv] 29) = W0 at *
  have KP := Lib.hid (show Kp w (cnB w (.slice a n cap) nv 0 0 0) W0 from cn_mk (keep_heap hB2 K1.out) (keep_heap hB2 K2.out) (keep_heap hB2 K3.out) hBx (below_end K5.out hB2))
  clear K1 K2 K3 K4 K5 hBx hB2 c0 c1
  refine range_ret (w := W0) (n := 9) (by omega) (gf := 80) (lb := #[.pointer (some ⟨w.heap.size + 1 + 1 + 1 + 1, 0, none⟩)]) rfl (enters_of Tryz.func80 (by kernel_rfl) rfl) (enc := encS n U) (E := fun i => i = n + 1) (S := fun i => i ≤ n) (G := fun W => SetsAt W (w.heap.size + 1 + 1 + 1 + 1) (.slice a n cap) nv n U T)
    (fun W1 hb hsz l J K hG hJ hK hY h0' => callsIn_wide.2 (iter73 8 (by omega) _ nv n U T hn (w.heap.size + 1 + 1 + 1 + 1) l J K W1 hG hJ hY h0')) (fun _ => rfl)
    (fun i W => Kp w (cnB w (.slice a n cap) nv 0 0 (cntU T i)) W ∧ (∀ j, j < i → (lenA (T j)).2 = 0))
    (fun W => ∃ i : Nat, (i ≤ n ∧ (lenA (T i)).2 ≠ 0 ∧ ∀ j, j < i → (lenA (T j)).2 = 0) ∧ Kp w (cnB w (.slice a n cap) nv 0 (lenA (T i)).2 (cntU T i)) W)
    (fun i W h => ⟨(cn_get h.1).2.2.2, HR.out.below h.1.2⟩)
    (fun i a' W => ∃ p, W.heap[p]? = some (.cells #[U i] 27 (0, 0)) ∧ W0.heap.size + 2 ≤ p ∧ a' = { tmps := #[.agg #[.slice a n cap, nv], .pointer (some ⟨w.heap.size, 0, none⟩), .pointer (some ⟨w.heap.size + 1, 0, none⟩), .pointer (some ⟨w.heap.size + 1 + 1, 0, none⟩), .pointer (some ⟨w.heap.size + 1 + 1 + 1, 0, none⟩), undef, .pointer (some ⟨p, 0, none⟩), undef, undef, .agg #[.slice a n cap, nv],
      .func (.func 80) #[] #[.pointer (some ⟨w.heap.size + 1 + 1 + 1 + 1, 0, none⟩)], .int .i64 (numS n i), .agg #[U i], undef, undef, undef, undef, undef, undef, undef, undef, undef, undef, undef, undef], defers := [] })
    (fun i a' W W' h hg => by
      obtain ⟨p, h1, h2, h3⟩ := h
      exact ⟨p, (hg.block _ (Array.getElem?_eq_some_iff.1 h1).1 (fun e => by injection e with e; omega)).trans h1, h2, h3⟩)
    (Kp.minds w _ _ _ _ (by omega) (fun _ => cn_lt (by omega)))
    (fun _ W W' r h1 h2 h hg => by
      obtain ⟨i, h3, h4⟩ := h
      exact ⟨i, h3, h4.grown hg (by omega) (fun p hp => by have := cn_lt (B := W0.heap.size) (by omega) p hp; omega)⟩)
    (fun W1 hb hsz => ⟨KP.out.below hb, fun j hj => by omega⟩) ?assign ?body ?done ?stop
  case assign =>
    intro l i W hi hS hsz
    obtain ⟨Ak, ck, hu, -⟩ := HR.out.at_ i hS
    dsimp only [encS]
    rw [hu]
    have hh := heap_alloc_new W (.cells #[.slice Ak (T i).length ck] 27)
    have hb := alloc_below W (.cells #[.slice Ak (T i).length ck] 27)
    generalize (T i).length = nk at *
    clear hi hu
    gi_wp2
    exact ⟨hb, W.heap.size, hh, hsz, rfl⟩
  case body =>
    rintro l i a' W ⟨hk, hno⟩ ⟨p, hp, hps, rfl⟩ hS hsz
    obtain ⟨Ak, ck, hu, -⟩ := HR.out.at_ i hS
    have CS := Lib.hid (len15 (U i) (T i) W ((HR.out.at_ i hS).below hk.2) (HM.out i hS))
    unfold sv at CS
    rw [hu] at CS hp ⊢
    obtain ⟨cp, -⟩ := one_cell hp
    have HK := Lib.hid hk
    have HNO := Lib.hid hno
    have hcl := cntU_le T i
    have hll := len_range2 (T i)
    have CU := Lib.hid (show cntU T (i + 1) = cntU T i + (lenA (T i)).1 from rfl)
    obtain ⟨z, hz2⟩ : ∃ z, lenA (T i) = z := ⟨_, rfl⟩
    obtain ⟨c, hc2⟩ : ∃ c, cntU T i = c := ⟨_, rfl⟩
    have HZ2 := Lib.hid hz2
    have HC2 := Lib.hid hc2
    rw [hz2] at CS CU hll
    rw [hc2] at CU hcl
    have HZ := Lib.hid hz
    have hwr : IntKind.i64.wrap (c + z.1) = c + z.1 := IntWalk.i64_in _ (by omega)
    generalize (T i).length = nk at *
    have P3 := Lib.hid (show ∀ w2, Below W.heap.size W w2 → w2.cell? ⟨w.heap.size + 1 + 1 + 1, 0, none⟩ = some (.int .i64 c) ∧ w2.frozen? ⟨w.heap.size + 1 + 1 + 1, 0, none⟩ = false from fun w2 hb => by
      have := one_cell (cn_get (hk.below hb)).2.2.1
      rw [hc2] at this
      exact this)
    clear hk hno hz2 hu hp hz hc2
    by_cases hr : z.2 = 0
    · have q0 : (z.2 != 0) = false := by simpa using hr
      have HR0 := Lib.hid hr
      clear hr
      gi_wp2_with (refine ⟨trivial, ?_⟩; gi_at_call 48; refine (CallsIn.inRound l (callsIn_wide.2 CS.out)).mono ?_; rintro e w2 ⟨rfl, hb2⟩; obtain ⟨d3, f3⟩ := P3.out w2 hb2)
      have hz := HZ.out
      obtain ⟨g1, g2, g3, g4⟩ := cn_get (HK.out.below hb2)
      refine ⟨(KeptR.of_below hb2).set _ _ _ (by omega), cn_mk (set_far _ (by omega) g1) (set_far _ (by omega) g2) (by rw [CU.out]; exact set_row g3 0 _) (set_far _ (by omega) g4) ((HK.out.below hb2).2.setCell (p := ⟨w.heap.size + 1 + 1 + 1, 0, none⟩) (show w.heap.size ≤ w.heap.size + 1 + 1 + 1 by omega) _), fun j hj => ?_⟩
      rcases Nat.lt_or_ge j i with h | h
      · exact HNO.out j h
      · obtain rfl : j = i := by omega
        rw [HZ2.out, HR0.out]
    · have q0 : (z.2 != 0) = true := by simpa using hr
      have HR0 := Lib.hid hr
      clear hr
      have P12 := Lib.hid (fun w2 (hb : Below W.heap.size W w2) => cn_get (HK.out.below hb))
      gi_wp2_with (refine ⟨trivial, ?_⟩; gi_at_call 48; refine (CallsIn.inRound l (callsIn_wide.2 CS.out)).mono ?_; rintro e w2 ⟨rfl, hb2⟩; obtain ⟨d1, f1⟩ := one_cell (P12.out w2 hb2).1; have d2 : ∀ u, (w2.setCell ⟨w.heap.size + 1, 0, none⟩ u).cell? ⟨w.heap.size + 1 + 1, 0, none⟩ = some (.int .i64 0) := fun u => (one_cell (set_far (b := w.heap.size + 1) (i := 0) u (by omega) (P12.out w2 hb2).2.1)).1; have f2 : ∀ u, (w2.setCell ⟨w.heap.size + 1, 0, none⟩ u).frozen? ⟨w.heap.size + 1 + 1, 0, none⟩ = false := fun u => (one_cell (set_far (b := w.heap.size + 1) (i := 0) u (by omega) (P12.out w2 hb2).2.1)).2)
      have hz := HZ.out
      obtain ⟨g1, g2, g3, g4⟩ := cn_get (HK.out.below hb2)
      obtain ⟨t2, t3, hx⟩ := set_two1 g1 g2 (.int .i64 0) (.int .i64 z.2)
      refine ⟨((KeptR.of_below hb2).set _ _ _ (by omega)).set _ _ _ (by omega), i, ⟨hS, by rw [HZ2.out]; exact HR0.out, HNO.out⟩, cn_mk t2 (by rw [HZ2.out]; exact t3) (set_far _ (by omega) (set_far _ (by omega) g3)) (set_far _ (by omega) (set_far _ (by omega) g4)) (hx w rfl (HK.out.below hb2).2)⟩
  case done =>
    rintro i W rfl ⟨hk, hno⟩ hK
    have e0 := Lib.hid (cnt_ok (n := n) (T := T) (fun j hj => hno j (by omega)))
    obtain ⟨g1, g2, g3, g4⟩ := cn_get hk
    obtain ⟨d1, f1⟩ := one_cell g1
    have d2 : ∀ u, (W.setCell ⟨w.heap.size + 1, 0, none⟩ u).cell? ⟨w.heap.size + 1 + 1, 0, none⟩ = some (.int .i64 0) := fun u => (one_cell (set_far (b := w.heap.size + 1) (i := 0) u (by omega) g2)).1
    have f2 : ∀ u, (W.setCell ⟨w.heap.size + 1, 0, none⟩ u).frozen? ⟨w.heap.size + 1 + 1, 0, none⟩ = false := fun u => (one_cell (set_far (b := w.heap.size + 1) (i := 0) u (by omega) g2)).2
    have d3 : W.cell? ⟨w.heap.size + 1 + 1 + 1, 0, none⟩ = some (.int .i64 (cntU T (n + 1))) := (one_cell g3).1
    obtain ⟨x1, x2, x3, x4⟩ := cn_end hk hK (by omega) (.int .i64 (cntU T (n + 1))) (.int .i64 0)
    have X1 := Lib.hid x1
    have X4 := Lib.hid x4
    clear hk hno hK x1 x4 g1 g2 g3 g4 hz
    generalize cntU T (n + 1) = z at *
    gi_wp2
    refine ⟨by simp, .inl ⟨_, _, rfl, run_takeDeferred X1.out, ?_⟩⟩
    exact ⟨.tuple #[.int .i64 z, .int .i64 0], by simp [results, Tryz.f15, go_sem, x2, x3], by rw [e0.out], X4.out⟩
  case stop =>
    intro W ⟨i, ⟨hS, hr, hno⟩, hk⟩ hK
    have e0 := Lib.hid (cnt_at hS hr hno)
    have d2 : W.cell? ⟨w.heap.size + 1, 0, none⟩ = some (.int .i64 0) := (one_cell (cn_get hk).1).1
    have d3 : W.cell? ⟨w.heap.size + 1 + 1, 0, none⟩ = some (.int .i64 (lenA (T i)).2) := (one_cell (cn_get hk).2.1).1
    have x2 := put_cell W0.heap.size (.deferred none) (by simp; omega) d2
    have x3 := put_cell W0.heap.size (.deferred none) (by simp; omega) d3
    have X4 := Lib.hid (put_below hk.2 (show w.heap.size ≤ W0.heap.size by omega) (.deferred none))
    have X1 := Lib.hid hK
    clear hk hno hK hr hS d2 d3 hz
    gi_wp2
    refine ⟨by simp, .inl ⟨_, _, rfl, run_takeDeferred X1.out, ?_⟩⟩
    exact ⟨.tuple #[.int .i64 0, .int .i64 (lenA (T i)).2], by simp [results, Tryz.f15, go_sem, x2, x3], by rw [e0.out], X4.out⟩
end YtjkphacidpongaaGreat
end Go.Proofs
/- A row of tables that grows; New, the program's. -/
namespace Go.Proofs
namespace YtjkphacidpongaaGreat
open Go.RowKit
open Cf (good chkE)

/-- append, folded -/
def appF (ts : Array TypeId) (ty : TypeId) (args : Array Value) : Sem Value := Builtin.append_ ts ty args
theorem fold_append (ts : Array TypeId) (ty : TypeId) (args : Array Value) : Builtin.append_ ts ty args = appF ts ty args := rfl
/-- a row of tables of the call's own -/
structure GT (B : Nat) (W : World) (v : Value) (us : List Value) (T : Nat → List Int) : Prop where
  own : W.ownsRow B 27 1 v us.length us
  tab : ∀ j, j < us.length → IAt W (us.getD j nilV) (T j)
  off : ∀ j, j < us.length → ∀ r, v.ownBlock = some r → Apart (us.getD j nilV) r
theorem GT.nil (B : Nat) (W : World) (T : Nat → List Int) : GT B W nilV [] T := ⟨World.ownsRow_nil _ _ _ _, fun j hj => by simp at hj, fun j hj => by simp at hj⟩
theorem GT.below {B : Nat} {W W' : World} {v : Value} {us : List Value} {T : Nat → List Int} (h : GT B W v us T) (hb : Below W.heap.size W W') : GT B W' v us T :=
  ⟨h.own.kept (grown_of_below hb none) (by cases v.ownBlock <;> simp), fun j hj => (h.tab j hj).below hb, h.off⟩
theorem GT.form {B : Nat} {W : World} {v : Value} {us : List Value} {T : Nat → List Int} (h : GT B W v us T) : ∃ A cap, v = .slice A us.length cap := by
  rcases h.own.2 with ⟨rfl, h0⟩ | ⟨gg, cap, cur, rfl, _⟩
  · rw [h0]; exact ⟨none, 0, rfl⟩
  · exact ⟨_, cap, rfl⟩
theorem IAt.own {W W' : World} {v u : Value} {cs : List Int} (h : IAt W u cs) (hg : W.grownBy W' v.ownBlock) (ha : ∀ r, v.ownBlock = some r → Apart u r) : IAt W' u cs := by
  cases hv : v.ownBlock with
  | none => rw [hv] at hg; exact h.grown hg (fun _ _ _ _ _ _ _ e => by cases e)
  | some r => rw [hv] at hg; exact h.apart hg (ha r hv)
theorem getD_snoc_lt {us : List Value} {x : Value} {j : Nat} (h : j < us.length) : (us ++ [x]).getD j nilV = us.getD j nilV := by simp [List.getD_eq_getElem?_getD, List.getElem?_append_left h]
theorem getD_snoc_eq {us : List Value} {x : Value} : (us ++ [x]).getD us.length nilV = x := by simp [List.getD_eq_getElem?_getD]
theorem heap_own {W W' : World} {v : Value} {b : Nat} {o : Obj} (h : W.heap[b]? = some o) (hg : W.grownBy W' v.ownBlock) (hne : v.ownBlock ≠ some b) : W'.heap[b]? = some o :=
  (hg.block b (Array.getElem?_eq_some_iff.1 h).1 (fun e => hne e.symm)).trans h
/-- one table more -/
theorem GT.push {B : Nat} {W : World} {v : Value} {us : List Value} {T : Nat → List Int} (h : GT B W v us T) (hB : B ≤ W.heap.size) {x : Value} (hx : IAt W x (T us.length)) (hax : ∀ r, v.ownBlock = some r → Apart x r) (hl : us.length + 1 ≤ 1000000) :
    ∃ g cap W', (appF #[24, 24] 24 #[v, .slice (some ⟨W.heap.size, 0, none⟩) 1 1]).run Tryz.prog (W.alloc (.cells #[x] 27)) = .ok (.slice (some ⟨g, 0, none⟩) (us.length + 1) cap) W' ∧
      GT B W' (.slice (some ⟨g, 0, none⟩) (us.length + 1) cap) (us ++ [x]) T ∧ (W.alloc (.cells #[x] 27)).grownBy W' v.ownBlock ∧ W.heap.size < W'.heap.size ∧ (v.ownBlock = some g ∨ W.heap.size < g) := by
  obtain ⟨i0, hi, hz0, hz1, hz2⟩ := info_parts info26
  have hb := alloc_below W (.cells #[x] 27)
  have hs : (W.alloc (.cells #[x] 27)).heap.size = W.heap.size + 1 := by simp
  have h1 := h.below hb
  obtain ⟨_, _, _, ex⟩ := hx.sl
  obtain ⟨g, cap, W', hr, ho, hg, hv, hlt⟩ := run_append_lies (P := Tryz.prog) (w := W.alloc (.cells #[x] 27)) 24 24 B 27 i0 _ 1 24 Tryz.underlying24 hi hz0 hz1 hz2 rfl (by decide) v us.length us h1.own
    ⟨W.heap.size, 0, none⟩ 1 1 [x] rfl (fun j u hj => by
      have e : (⟨W.heap.size, 0, none⟩ : Addr).add j = ⟨W.heap.size, j, none⟩ := by unfold Addr.add; split <;> simp_all
      rw [e, cell_of_row _ _ _ _ _ _ (heap_alloc_new W _)]
      simpa using hj) (by simp [ex, Value.oneCell']) (by omega) (by unfold maxLen; omega) (by omega) (by omega) _ hs
  have hgs := hg.size
  refine ⟨g, cap, W', hr, ⟨by rw [List.length_append]; exact ho, fun j hj => ?_, fun j hj r hr2 => ?_⟩, hg, by omega, hv.elim .inl (fun e => .inr (by omega))⟩
  · rw [List.length_append, List.length_singleton] at hj
    rcases Nat.lt_or_ge j us.length with hlt2 | hge
    · rw [getD_snoc_lt hlt2]; exact (h1.tab j hlt2).own hg (h1.off j hlt2)
    · obtain rfl : j = us.length := by omega
      rw [getD_snoc_eq]; exact (hx.below hb).own hg hax
  · rw [List.length_append, List.length_singleton] at hj
    simp only [Value.ownBlock, Option.some.injEq] at hr2
    subst hr2
    rcases Nat.lt_or_ge j us.length with hlt2 | hge
    · rw [getD_snoc_lt hlt2]
      rcases hv with hv | hv
      · exact h1.off j hlt2 _ hv
      · exact (h1.tab j hlt2).far (by omega)
    · obtain rfl : j = us.length := by omega
      rw [getD_snoc_eq]
      rcases hv with hv | hv
      · exact hax _ hv
      · exact (hx.below hb).far (by omega)
theorem GT.set {B : Nat} {W : World} {v : Value} {us : List Value} {T : Nat → List Int} (h : GT B W v us T) {q i : Nat} {cs : Array Value} {t : TypeId} (hq : W.heap[q]? = some (.cells cs t (0, 0))) (hs : ∀ u, u ∈ cs.toList → isSl u) (hne : v.ownBlock ≠ some q) (x : Value) : GT B (W.setCell ⟨q, i, none⟩ x) v us T :=
  ⟨h.own.kept (grown_set W q i x) (.inr hne), fun j hj => (h.tab j hj).set hq hs x, h.off⟩
theorem GT.rs {B : Nat} {W : World} {v nv : Value} {us : List Value} {T : Nat → List Int} (h : GT B W v us T) (hn : IAt W nv (T us.length)) : RS W v nv us.length (uO us nv us.length) T := by
  refine ⟨?_, if_pos rfl, fun j hj => ?_⟩
  · rcases h.own.2 with ⟨rfl, h0⟩ | ⟨gg, cap, cur, rfl, _⟩
    · exact ⟨none, 0, by rw [h0], fun h => by omega⟩
    · refine ⟨_, cap, rfl, fun _ => ⟨gg, 0, rfl, fun j hj => ?_⟩⟩
      have := h.own.cells (g := gg) rfl j (us.getD j nilV) (by rw [List.getD_eq_getElem?_getD, List.getElem?_eq_getElem hj]; rfl)
      rw [Nat.zero_add]
      have e : (⟨gg, 0, none⟩ : Addr).add j = ⟨gg, j, none⟩ := by unfold Addr.add; split <;> simp_all
      rw [e] at this
      rw [this]; unfold uO; rw [if_neg (by omega)]
  · unfold uO
    split
    · rename_i e; rw [e]; exact hn
    · exact h.tab j (by omega)
theorem RS.set {W : World} {A nv : Value} {n : Nat} {U : Nat → Value} {T : Nat → List Int} (h : RS W A nv n U T) {q i : Nat} {cs : Array Value} {t : TypeId} (hq : W.heap[q]? = some (.cells cs t (0, 0))) (hs : ∀ u, u ∈ cs.toList → isSl u) (hne : ∀ b off m c, A = .slice (some ⟨b, off, none⟩) m c → b ≠ q) (x : Value) : RS (W.setCell ⟨q, i, none⟩ x) A nv n U T := by
  obtain ⟨a, cap, rfl, hc⟩ := h.form
  refine ⟨⟨a, cap, rfl, fun h0 => ?_⟩, h.nur, fun j hj => (h.at_ j hj).set hq hs x⟩
  obtain ⟨b, off, e, hc⟩ := hc h0
  exact ⟨b, off, e, fun j hj => (World.cell?_of_block (Below.heap_setCell W ⟨q, i, none⟩ x b (hne b off n cap (by rw [e])))).trans (hc j hj)⟩
/-- a slice of the call's own -/
def NewA (w : World) (A : Value) : Prop := ∀ b off m c, A = .slice (some ⟨b, off, none⟩) m c → w.heap.size ≤ b
theorem nil_new (w : World) : NewA w nilV := fun b off m c e => by cases e
/-- sets and an error -/
def RsAns (w : World) (n : Nat) (T : Nat → List Int) (c : Int) (e : Ending) (w' : World) : Prop := ∃ A nv U, e = .returned (.tuple #[.agg #[A, nv], .int .i64 c]) ∧ RS w' A nv n U T ∧ Below w.heap.size w w' ∧ NewA w A
theorem RS.zero (W : World) : RS W nilV nilV 0 (fun _ => nilV) (fun _ => []) := ⟨⟨none, 0, rfl, fun h => by omega⟩, rfl, fun j _ => IAt.nil W⟩
theorem two_nil : ∀ u, u ∈ (#[nilV, nilV] : Array Value).toList → isSl u := fun u hu => by
  simp only [List.mem_cons, List.not_mem_nil, or_false, or_self] at hu
  rw [hu]; exact nil_sl
end YtjkphacidpongaaGreat
end Go.Proofs
