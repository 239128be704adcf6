/- A player's method copy. -/
import Derived.Test.YteeghjhkfaeflaaG02
namespace Go.Proofs
namespace Yteeghjhkfaeflaa
open Go.RowKit

theorem size25 : (Try.prog.info? 58).map (·.size) = some 1 := by kernel_rfl
theorem grown_row (W : World) (g : Nat) (cs : Array Value) : W.grownBy (W.setRow g cs) (some g) :=
  ⟨rfl, rfl, rfl, by simp, fun k _ hk => setRow_other W g k cs (fun e => hk (by rw [e]))⟩
theorem copy_run {W : World} {g a b m : Nat} {ws : List Int} (h : W.heap[g]? = some (.cells (wc ws).toArray 58 (0, 0))) (ha : a + m ≤ ws.length) (hb : b + m ≤ ws.length) :
    ∃ W', (∀ ty c1 sl c2, 0 < m → m ≤ sl → (Builtin.copy_ #[22, 22] ty #[.slice (some ⟨g, b, none⟩) m c1, .slice (some ⟨g, a, none⟩) sl c2]).run Try.prog W = .ok (.int .i64 m) W') ∧ W'.heap[g]? = some (.cells (wc (copyL ws a b m)).toArray 58 (0, 0)) ∧ W.grownBy W' (some g) ∧ (m = 0 → W = W') := by
  by_cases hm : m = 0
  · subst hm
    exact ⟨W, fun _ _ _ _ h0 => absurd h0 (Nat.lt_irrefl 0), by rw [copyL_zero]; exact h, ⟨rfl, rfl, rfl, Nat.le_refl _, fun _ _ _ => rfl⟩, fun _ => rfl⟩
  · have hl : (wc ((ws.drop a).take m)).length = m := by rw [wc_length, List.length_take, List.length_drop]; omega
    refine ⟨W.setRow g ((wc ws).take b ++ wc ((ws.drop a).take m) ++ (wc ws).drop (b + m)).toArray, ?_, ?_, grown_row _ _ _, fun h => absurd h hm⟩
    · intro ty c1 sl c2 _ hsl
      have := run_copy_row (P := Try.prog) W 22 22 ty 58 g b m c1 ⟨g, a, none⟩ sl c2 (wc ws).toArray 58 (wc ((ws.drop a).take m)) Try.underlying22 size25 h (by rw [hl]; exact (Nat.min_eq_right hsl).symm)
        (fun j v hj => by
          have e : (⟨g, a, none⟩ : Addr).add j = ⟨g, a + j, none⟩ := by simp [Addr.add]
          rw [e, cell_of_row _ _ _ _ _ _ h, List.getElem?_toArray]
          have hjm : j < m := by have := (List.getElem?_eq_some_iff.1 hj).1; omega
          rw [wc_get _ j (by rw [List.length_take, List.length_drop]; omega)] at hj
          rw [wc_get ws (a + j) (by omega), ← hj]
          simp [List.getD_eq_getElem?_getD, List.getElem?_drop, hjm])
        (by rw [hl]; simp [wc_length]; omega) (fun u hu => by simp only [wc, List.mem_map] at hu; obtain ⟨z, _, rfl⟩ := hu; rfl)
      rw [hl] at this
      exact this
    · have := setRow_heap W g (wc ws).toArray ((wc ws).take b ++ wc ((ws.drop a).take m) ++ (wc ws).drop (b + m)).toArray 58 (0, 0) h
      rw [this]
      simp [copyL, wc, List.map_take, List.map_drop]
theorem copy_none (d s : Option Addr) (c1 sl c2 : Nat) (ty : TypeId) (W : World) : (Builtin.copy_ #[22, 22] ty #[.slice d 0 c1, .slice s sl c2]).run Try.prog W = .ok (.int .i64 0) W :=
  run_copy_none (P := Try.prog) W 22 22 ty 58 d s 0 c1 sl c2 Try.underlying22 size25 (by simp)

set_option maxRecDepth 100000 in
set_option maxHeartbeats 2000000 in
theorem copy72 (H : Nat) (s : ASt) (o : AOp) (W : World) (hP : PSt H W s) (hk : o.kind = 3) (hsz : H + 4 ≤ W.heap.size) (hlen : s.ws.length ≤ 1601) (hr : 0 ≤ s.w ∧ s.w ≤ 1000000000) (hrr : 0 ≤ s.r ∧ s.r ≤ 1000000000) :
    Calls Try.prog 93 #[.pointer (some ⟨H + 2, 0, none⟩), opV o] W fun e W' => e = .returned (.bool (decide ((stepF s o).1 = 0))) ∧ Kp H W W' ∧ PSt H W' (stepF s o).2 := by
  have HP := Lib.hid hP
  have HK := Lib.hid hk
  clear hP hk
  obtain ⟨kd, a, b, n, val⟩ := o
  unfold opV opC
  dsimp only at HK ⊢
  have hnew := heap_alloc_new W (.cells #[.int .i64 kd, .int .i64 a, .int .i64 b, .int .i64 n, .int .u64 val] 110)
  have HN := Lib.hid hnew
  have HB := Lib.hid (alloc_below W (.cells #[.int .i64 kd, .int .i64 a, .int .i64 b, .int .i64 n, .int .u64 val] 110))
  clear hnew
  obtain ⟨⟨gv, P1, P2⟩, P3⟩ := HP.out
  have Q1 := Lib.hid P1
  have Q2 := Lib.hid P2
  have Q3 := Lib.hid P3
  clear P1 P2 P3
  go_enter Try.func93, Try.ntmps93
  go_upto_region 1 with (fail)
  generalize hX : W.alloc (.cells #[.int .i64 kd, .int .i64 a, .int .i64 b, .int .i64 n, .int .u64 val] 110) = W1 at *
  clear hX
  have k0 := cell_of_row _ _ 0 _ _ _ (keep_heap HB.out Q1.out)
  have o1 := cell_of_row _ _ 1 _ _ _ HN.out
  have o2 := cell_of_row _ _ 2 _ _ _ HN.out
  have o3 := cell_of_row _ _ 3 _ _ _ HN.out
  simp only [List.getElem?_toArray, List.getElem?_cons_zero, List.getElem?_cons_succ] at k0 o1 o2 o3
  have PT := Lib.hid (show ∀ (x : Int) (W : World), partB s.ws.length x n = true → Calls Try.prog 86 #[.slice (some ⟨H + 1, 0, none⟩) s.ws.length s.ws.length, .int .i64 x, .int .i64 n] W fun e w' => e = .returned (.bool true) ∧ w' = W from fun x W h =>
    (part74 (some ⟨H + 1, 0, none⟩) s.ws.length s.ws.length x n W (by omega)).mono (fun _ _ q => ⟨by rw [q.1, h], q.2.symm⟩))
  have PF := Lib.hid (show ∀ (x : Int) (W : World), partB s.ws.length x n = false → Calls Try.prog 86 #[.slice (some ⟨H + 1, 0, none⟩) s.ws.length s.ws.length, .int .i64 x, .int .i64 n] W fun e w' => e = .returned (.bool false) ∧ w' = W from fun x W h =>
    (part74 (some ⟨H + 1, 0, none⟩) s.ws.length s.ws.length x n W (by omega)).mono (fun _ _ q => ⟨by rw [q.1, h], q.2.symm⟩))
  have T0 := Lib.hid (show ¬ (partB s.ws.length a n = true ∧ partB s.ws.length b n = true) → stepF s ⟨kd, a, b, n, val⟩ = (7, s) from fun h => by
    unfold stepF; rw [if_neg (by show ¬ kd = 1; have := HK.out; omega), if_neg (by show ¬ kd = 2; have := HK.out; omega), if_pos HK.out, if_neg h])
  cases hp : partB s.ws.length a n with
  | false =>
    have T := Lib.hid (T0.out (by rw [hp]; simp))
    go_quiet ((go_at_call 86; exact Calls.quiet_of_same (PF.out _ _ (by assumption))))
    go_wp2
    refine bodyPost_ret (v := .bool false) (by simp [results, Try.f93, go_sem]) rfl ⟨by rw [T.out]; rfl, ?_, ?_⟩
    · exact Kp.of_below hsz (below_drewN HB.out nq)
    · rw [T.out]; exact HP.out.below (below_drewN HB.out nq)
  | true =>
    cases hq : partB s.ws.length b n with
    | false =>
      have T := Lib.hid (T0.out (by rw [hq]; simp))
      go_quiet (first | (go_at_call 86; exact Calls.quiet_of_same (PT.out _ _ (by assumption))) | (go_at_call 86; exact Calls.quiet_of_same (PF.out _ _ (by assumption))))
      go_wp2
      refine bodyPost_ret (v := .bool false) (by simp [results, Try.f93, go_sem]) rfl ⟨by rw [T.out]; rfl, ?_, ?_⟩
      · exact Kp.of_below hsz (below_drewN HB.out nq)
      · rw [T.out]; exact HP.out.below (below_drewN HB.out nq)
    | true =>
      obtain ⟨q1, q2, q3, q4⟩ := partB_spec.1 hp
      obtain ⟨s1, s2, s3, s4⟩ := partB_spec.1 hq
      obtain ⟨k, rfl⟩ : ∃ k : Nat, a = (k : Int) := ⟨a.toNat, by omega⟩
      obtain ⟨j, rfl⟩ : ∃ j : Nat, b = (j : Int) := ⟨b.toNat, by omega⟩
      obtain ⟨m, rfl⟩ : ∃ m : Nat, n = (m : Int) := ⟨n.toNat, by omega⟩
      have T := Lib.hid (show stepF s ⟨kd, k, j, m, val⟩ = (0, { s with ws := copyL s.ws k j m, r := s.r + m, w := s.w + m }) by
        unfold stepF; rw [if_neg (by show ¬ kd = 1; have := HK.out; omega), if_neg (by show ¬ kd = 2; have := HK.out; omega), if_pos HK.out, if_pos ⟨hp, hq⟩]; rfl)
      have hk : (k : Int) ≤ (s.ws.length : Int) := by omega
      have hk0 : (0 : Int) ≤ (k : Int) := by omega
      have hj0 : (0 : Int) ≤ (j : Int) := by omega
      have hkm : (k : Int) + (m : Int) ≤ (s.ws.length : Int) := by omega
      have hjm : (j : Int) + (m : Int) ≤ (s.ws.length : Int) := by omega
      clear T0
      go_quiet (first | (go_at_call 86; exact Calls.quiet_of_same (PT.out _ _ (by assumption))) | (go_at_call 86; exact Calls.quiet_of_same (PF.out _ _ (by assumption))))
      go_wp2
      have HB2 := Lib.hid (below_drewN HB.out nq)
      have HN2 := Lib.hid (show (W1.drewN nq).heap[W.heap.size]? = some (.cells #[.int .i64 kd, .int .i64 k, .int .i64 j, .int .i64 m, .int .u64 val] 110 (0, 0)) from HN.out)
      generalize hX2 : W1.drewN nq = W2 at *
      clear hX2 k0 o1 o2 o3
      have k0 := cell_of_row _ _ 0 _ _ _ (keep_heap HB2.out Q1.out)
      have o1 := cell_of_row _ _ 1 _ _ _ HN2.out
      have o2 := cell_of_row _ _ 2 _ _ _ HN2.out
      have o3 := cell_of_row _ _ 3 _ _ _ HN2.out
      simp only [List.getElem?_toArray, List.getElem?_cons_zero, List.getElem?_cons_succ] at k0 o1 o2 o3
      have hjj : (j : Int) ≤ (j : Int) + (m : Int) := by omega
      have hj00 : (0 : Int) ≤ (j : Int) + (m : Int) := by omega
      have hjl : (j : Int) ≤ (s.ws.length : Int) := by omega
      have hw : IntKind.i64.wrap ((j : Int) + (m : Int)) = (j : Int) + (m : Int) := wrap_small (by omega) (by omega)
      have HB3 := Lib.hid (show Below W.heap.size W W2.drew from below_drewN HB2.out 1)
      have HN3 := Lib.hid (show W2.drew.heap[W.heap.size]? = some (.cells #[.int .i64 kd, .int .i64 k, .int .i64 j, .int .i64 m, .int .u64 val] 110 (0, 0)) from HN2.out)
      have R3 := Lib.hid (keep_heap HB3.out Q3.out)
      have R1 := Lib.hid (keep_heap HB3.out Q1.out)
      have hs3 := (Array.getElem?_eq_some_iff.1 HN3.out).1
      obtain ⟨W4, h4, h5, h6, h7⟩ := copy_run R3.out (show k + m ≤ s.ws.length by omega) (show j + m ≤ s.ws.length by omega)
      have kp4 : Kp H W W4 := (Kp.of_below hsz HB3.out).trans ⟨(Below.refl (H + 1) W2.drew).grown h6 (by omega) (fun i hi => by cases hi; omega), h6.block _ (by omega) (by simp)⟩
      have M1 := Lib.hid (show W4.heap[H + 2]? = _ from (h6.block _ (by omega) (by simp)).trans R1.out)
      have MN := Lib.hid (show W4.heap[W.heap.size]? = _ from (h6.block _ hs3 (by simp; omega)).trans HN3.out)
      have m0 := cell_of_row _ _ 0 _ _ _ M1.out
      have n1 := cell_of_row _ _ 1 _ _ _ MN.out
      have n2 := cell_of_row _ _ 2 _ _ _ MN.out
      have n3 := cell_of_row _ _ 3 _ _ _ MN.out
      simp only [List.getElem?_toArray, List.getElem?_cons_zero, List.getElem?_cons_succ] at m0 n1 n2 n3
      have SA := Lib.hid (And.intro m0 (And.intro n1 (And.intro n2 n3)))
      have SB := Lib.hid (And.intro k0 (And.intro o1 (And.intro o2 o3)))
      have o4 := (own_below Q2.out HB3.out).kept h6 (by
        cases ho : gv.ownBlock with
        | none => exact .inl rfl
        | some g => right; have := (Q2.out.lt g ho).1; intro e; injection e with e; omega)
      have H5 := Lib.hid h5
      have KP4 := Lib.hid kp4
      have O4 := Lib.hid o4
      clear h5 kp4 o4 h6 m0 n1 n2 n3
      have hr1 := hr.1
      have hr2 := hr.2
      have hr3 := hrr.1
      have hr4 := hrr.2
      have HW1 := Lib.hid (show IntKind.i64.wrap (s.r + (m : Int)) = s.r + (m : Int) from wrap_small (by omega) (by omega))
      have HW2 := Lib.hid (show IntKind.i64.wrap (s.w + (m : Int)) = s.w + (m : Int) from wrap_small (by omega) (by omega))
      have e1 := set_row M1.out 2 (.int .i64 (s.r + (m : Int)))
      simp only [List.setIfInBounds_toArray, List.set_cons_succ, List.set_cons_zero] at e1
      have e2 := set_row e1 3 (.int .i64 (s.w + (m : Int)))
      simp only [List.setIfInBounds_toArray, List.set_cons_succ, List.set_cons_zero] at e2
      have E := Lib.hid (end_of (s := s) (s' := { s with ws := copyL s.ws k j m, r := s.r + (m : Int), w := s.w + (m : Int) }) (kp_set (kp_set KP4.out (H + 2) 2 (.int .i64 (s.r + (m : Int))) (.inr rfl)) (H + 2) 3 (.int .i64 (s.w + (m : Int))) (.inr rfl)) e2 (set_far _ (by omega) (set_far _ (by omega) H5.out))
        (own_set (own_set O4.out (H + 2) 2 (.int .i64 (s.r + (m : Int))) (by omega)) (H + 2) 3 (.int .i64 (s.w + (m : Int))) (by omega)) rfl (copyL_length (by omega) (by omega)))
      have fin : Hid (Kp H W ((W4.setCell ⟨H + 2, 2, none⟩ (.int .i64 (s.r + (m : Int)))).setCell ⟨H + 2, 3, none⟩ (.int .i64 (s.w + (m : Int)))) ∧ PSt H ((W4.setCell ⟨H + 2, 2, none⟩ (.int .i64 (s.r + (m : Int)))).setCell ⟨H + 2, 3, none⟩ (.int .i64 (s.w + (m : Int)))) (stepF s ⟨kd, k, j, m, val⟩).2) := Lib.hid ⟨E.out.1, by rw [T.out]; exact E.out.2⟩
      have T1 := Lib.hid (show (stepF s ⟨kd, k, j, m, val⟩).1 = 0 by rw [T.out])
      have E1 := Lib.hid e1
      clear e1 e2 T
      by_cases hm0 : m = 0
      · have e7 := h7 hm0
        subst e7
        clear h4 h7
        have hcp : ∀ (d s' : Option Addr) (c1 sl c2 : Nat) (W' : World), (Builtin.copy_ #[22, 22] 3 #[.slice d (((j : Int) + (m : Int)).toNat - j) c1, .slice s' sl c2]).run Try.prog W' = .ok (.int .i64 0) W' := by
          intro d s' c1 sl c2 W'
          rw [show ((j : Int) + (m : Int)).toNat - j = 0 by omega]
          exact copy_none d s' c1 sl c2 3 W'
        clear hm0
        have hcp0 := copy_none
        rcases Nat.lt_or_ge k s.ws.length with hk1 | hk1 <;> rcases Nat.lt_or_ge j s.ws.length with hj1 | hj1
        · have hlt : (k : Int) < (s.ws.length : Int) := by omega
          have hlt2 : (j : Int) < (s.ws.length : Int) := by omega
          go_region_held3 (fun w' => w'.cell? ⟨H + 2, 0, none⟩ = some (.slice (some ⟨H + 1, 0, none⟩) s.ws.length s.ws.length) ∧ w'.cell? ⟨W.heap.size, 1, none⟩ = some (.int .i64 k) ∧ w'.cell? ⟨W.heap.size, 2, none⟩ = some (.int .i64 j) ∧ w'.cell? ⟨W.heap.size, 3, none⟩ = some (.int .i64 m))
            (first | exact SB.out | exact SA.out) (fail)
          generalize W2.drew = W4 at *
          clear hcp k0 o1 o2 o3
          have r2 := cell_of_row _ _ 2 _ _ _ M1.out
          have f2 := frozen_of_row _ _ 2 _ _ M1.out
          have o3 := cell_of_row _ _ 3 _ _ _ MN.out
          simp only [List.getElem?_toArray, List.getElem?_cons_zero, List.getElem?_cons_succ] at r2 o3
          go_wp2
          go_still_tail 11, (by kernel_rfl)
          rw [HW1.out]
          change wpList _ _ _ _ _ W4.drew
          go_wp2
          clear r2 f2 o3
          have fin5 := Lib.hid (And.intro (show Kp H W ((W4.setCell ⟨H + 2, 2, none⟩ (.int .i64 (s.r + (m : Int)))).drew.setCell ⟨H + 2, 3, none⟩ (.int .i64 (s.w + (m : Int)))) from fin.out.1.drew) (show PSt H ((W4.setCell ⟨H + 2, 2, none⟩ (.int .i64 (s.r + (m : Int)))).drew.setCell ⟨H + 2, 3, none⟩ (.int .i64 (s.w + (m : Int)))) (stepF s ⟨kd, k, j, m, val⟩).2 from fin.out.2.drew))
          have E5 := Lib.hid (show (W4.setCell ⟨H + 2, 2, none⟩ (.int .i64 (s.r + (m : Int)))).drew.heap[H + 2]? = _ from E1.out)
          have N5 := Lib.hid (show (W4.setCell ⟨H + 2, 2, none⟩ (.int .i64 (s.r + (m : Int)))).drew.heap[W.heap.size]? = _ from set_far (b := H + 2) (i := 2) (.int .i64 (s.r + (m : Int))) (by omega) MN.out)
          clear fin E1
          generalize (W4.setCell ⟨H + 2, 2, none⟩ (.int .i64 (s.r + (m : Int)))).drew = W5 at *
          have r3 := cell_of_row _ _ 3 _ _ _ E5.out
          have f3 := frozen_of_row _ _ 3 _ _ E5.out
          have o3 := cell_of_row _ _ 3 _ _ _ N5.out
          simp only [List.getElem?_toArray, List.getElem?_cons_zero, List.getElem?_cons_succ] at r3 o3
          go_still_tail 11, (by kernel_rfl)
          rw [HW2.out]
          change wpList _ _ _ _ _ W5.drew
          go_wp2
          exact bodyPost_ret (v := .bool true) (by simp [results, Try.f93, go_sem]) rfl ⟨by rw [T1.out]; rfl, fin5.out.1.drew, fin5.out.2.drew⟩
        · have hlt : (k : Int) < (s.ws.length : Int) := by omega
          obtain rfl : j = s.ws.length := by omega
          go_region_held3 (fun w' => w'.cell? ⟨H + 2, 0, none⟩ = some (.slice (some ⟨H + 1, 0, none⟩) s.ws.length s.ws.length) ∧ w'.cell? ⟨W.heap.size, 1, none⟩ = some (.int .i64 k) ∧ w'.cell? ⟨W.heap.size, 2, none⟩ = some (.int .i64 s.ws.length) ∧ w'.cell? ⟨W.heap.size, 3, none⟩ = some (.int .i64 m))
            (first | exact SB.out | exact SA.out) (fail)
          generalize W2.drew = W4 at *
          clear hcp k0 o1 o2 o3
          have r2 := cell_of_row _ _ 2 _ _ _ M1.out
          have f2 := frozen_of_row _ _ 2 _ _ M1.out
          have o3 := cell_of_row _ _ 3 _ _ _ MN.out
          simp only [List.getElem?_toArray, List.getElem?_cons_zero, List.getElem?_cons_succ] at r2 o3
          go_wp2
          go_still_tail 11, (by kernel_rfl)
          rw [HW1.out]
          change wpList _ _ _ _ _ W4.drew
          go_wp2
          clear r2 f2 o3
          have fin5 := Lib.hid (And.intro (show Kp H W ((W4.setCell ⟨H + 2, 2, none⟩ (.int .i64 (s.r + (m : Int)))).drew.setCell ⟨H + 2, 3, none⟩ (.int .i64 (s.w + (m : Int)))) from fin.out.1.drew) (show PSt H ((W4.setCell ⟨H + 2, 2, none⟩ (.int .i64 (s.r + (m : Int)))).drew.setCell ⟨H + 2, 3, none⟩ (.int .i64 (s.w + (m : Int)))) (stepF s ⟨kd, k, s.ws.length, m, val⟩).2 from fin.out.2.drew))
          have E5 := Lib.hid (show (W4.setCell ⟨H + 2, 2, none⟩ (.int .i64 (s.r + (m : Int)))).drew.heap[H + 2]? = _ from E1.out)
          have N5 := Lib.hid (show (W4.setCell ⟨H + 2, 2, none⟩ (.int .i64 (s.r + (m : Int)))).drew.heap[W.heap.size]? = _ from set_far (b := H + 2) (i := 2) (.int .i64 (s.r + (m : Int))) (by omega) MN.out)
          clear fin E1
          generalize (W4.setCell ⟨H + 2, 2, none⟩ (.int .i64 (s.r + (m : Int)))).drew = W5 at *
          have r3 := cell_of_row _ _ 3 _ _ _ E5.out
          have f3 := frozen_of_row _ _ 3 _ _ E5.out
          have o3 := cell_of_row _ _ 3 _ _ _ N5.out
          simp only [List.getElem?_toArray, List.getElem?_cons_zero, List.getElem?_cons_succ] at r3 o3
          go_still_tail 11, (by kernel_rfl)
          rw [HW2.out]
          change wpList _ _ _ _ _ W5.drew
          go_wp2
          exact bodyPost_ret (v := .bool true) (by simp [results, Try.f93, go_sem]) rfl ⟨by rw [T1.out]; rfl, fin5.out.1.drew, fin5.out.2.drew⟩
        · have hlt : (k : Int) = (s.ws.length : Int) := by omega
          have hlt2 : (j : Int) < (s.ws.length : Int) := by omega
          go_region_held3 (fun w' => w'.cell? ⟨H + 2, 0, none⟩ = some (.slice (some ⟨H + 1, 0, none⟩) s.ws.length s.ws.length) ∧ w'.cell? ⟨W.heap.size, 1, none⟩ = some (.int .i64 k) ∧ w'.cell? ⟨W.heap.size, 2, none⟩ = some (.int .i64 j) ∧ w'.cell? ⟨W.heap.size, 3, none⟩ = some (.int .i64 m))
            (first | exact SB.out | exact SA.out) (fail)
          generalize W2.drew = W4 at *
          clear hcp k0 o1 o2 o3
          have r2 := cell_of_row _ _ 2 _ _ _ M1.out
          have f2 := frozen_of_row _ _ 2 _ _ M1.out
          have o3 := cell_of_row _ _ 3 _ _ _ MN.out
          simp only [List.getElem?_toArray, List.getElem?_cons_zero, List.getElem?_cons_succ] at r2 o3
          go_wp2
          go_still_tail 11, (by kernel_rfl)
          rw [HW1.out]
          change wpList _ _ _ _ _ W4.drew
          go_wp2
          clear r2 f2 o3
          have fin5 := Lib.hid (And.intro (show Kp H W ((W4.setCell ⟨H + 2, 2, none⟩ (.int .i64 (s.r + (m : Int)))).drew.setCell ⟨H + 2, 3, none⟩ (.int .i64 (s.w + (m : Int)))) from fin.out.1.drew) (show PSt H ((W4.setCell ⟨H + 2, 2, none⟩ (.int .i64 (s.r + (m : Int)))).drew.setCell ⟨H + 2, 3, none⟩ (.int .i64 (s.w + (m : Int)))) (stepF s ⟨kd, k, j, m, val⟩).2 from fin.out.2.drew))
          have E5 := Lib.hid (show (W4.setCell ⟨H + 2, 2, none⟩ (.int .i64 (s.r + (m : Int)))).drew.heap[H + 2]? = _ from E1.out)
          have N5 := Lib.hid (show (W4.setCell ⟨H + 2, 2, none⟩ (.int .i64 (s.r + (m : Int)))).drew.heap[W.heap.size]? = _ from set_far (b := H + 2) (i := 2) (.int .i64 (s.r + (m : Int))) (by omega) MN.out)
          clear fin E1
          generalize (W4.setCell ⟨H + 2, 2, none⟩ (.int .i64 (s.r + (m : Int)))).drew = W5 at *
          have r3 := cell_of_row _ _ 3 _ _ _ E5.out
          have f3 := frozen_of_row _ _ 3 _ _ E5.out
          have o3 := cell_of_row _ _ 3 _ _ _ N5.out
          simp only [List.getElem?_toArray, List.getElem?_cons_zero, List.getElem?_cons_succ] at r3 o3
          go_still_tail 11, (by kernel_rfl)
          rw [HW2.out]
          change wpList _ _ _ _ _ W5.drew
          go_wp2
          exact bodyPost_ret (v := .bool true) (by simp [results, Try.f93, go_sem]) rfl ⟨by rw [T1.out]; rfl, fin5.out.1.drew, fin5.out.2.drew⟩
        · have hlt : (k : Int) = (s.ws.length : Int) := by omega
          obtain rfl : j = s.ws.length := by omega
          go_region_held3 (fun w' => w'.cell? ⟨H + 2, 0, none⟩ = some (.slice (some ⟨H + 1, 0, none⟩) s.ws.length s.ws.length) ∧ w'.cell? ⟨W.heap.size, 1, none⟩ = some (.int .i64 k) ∧ w'.cell? ⟨W.heap.size, 2, none⟩ = some (.int .i64 s.ws.length) ∧ w'.cell? ⟨W.heap.size, 3, none⟩ = some (.int .i64 m))
            (first | exact SB.out | exact SA.out) (fail)
          generalize W2.drew = W4 at *
          clear hcp k0 o1 o2 o3
          have r2 := cell_of_row _ _ 2 _ _ _ M1.out
          have f2 := frozen_of_row _ _ 2 _ _ M1.out
          have o3 := cell_of_row _ _ 3 _ _ _ MN.out
          simp only [List.getElem?_toArray, List.getElem?_cons_zero, List.getElem?_cons_succ] at r2 o3
          go_wp2
          go_still_tail 11, (by kernel_rfl)
          rw [HW1.out]
          change wpList _ _ _ _ _ W4.drew
          go_wp2
          clear r2 f2 o3
          have fin5 := Lib.hid (And.intro (show Kp H W ((W4.setCell ⟨H + 2, 2, none⟩ (.int .i64 (s.r + (m : Int)))).drew.setCell ⟨H + 2, 3, none⟩ (.int .i64 (s.w + (m : Int)))) from fin.out.1.drew) (show PSt H ((W4.setCell ⟨H + 2, 2, none⟩ (.int .i64 (s.r + (m : Int)))).drew.setCell ⟨H + 2, 3, none⟩ (.int .i64 (s.w + (m : Int)))) (stepF s ⟨kd, k, s.ws.length, m, val⟩).2 from fin.out.2.drew))
          have E5 := Lib.hid (show (W4.setCell ⟨H + 2, 2, none⟩ (.int .i64 (s.r + (m : Int)))).drew.heap[H + 2]? = _ from E1.out)
          have N5 := Lib.hid (show (W4.setCell ⟨H + 2, 2, none⟩ (.int .i64 (s.r + (m : Int)))).drew.heap[W.heap.size]? = _ from set_far (b := H + 2) (i := 2) (.int .i64 (s.r + (m : Int))) (by omega) MN.out)
          clear fin E1
          generalize (W4.setCell ⟨H + 2, 2, none⟩ (.int .i64 (s.r + (m : Int)))).drew = W5 at *
          have r3 := cell_of_row _ _ 3 _ _ _ E5.out
          have f3 := frozen_of_row _ _ 3 _ _ E5.out
          have o3 := cell_of_row _ _ 3 _ _ _ N5.out
          simp only [List.getElem?_toArray, List.getElem?_cons_zero, List.getElem?_cons_succ] at r3 o3
          go_still_tail 11, (by kernel_rfl)
          rw [HW2.out]
          change wpList _ _ _ _ _ W5.drew
          go_wp2
          exact bodyPost_ret (v := .bool true) (by simp [results, Try.f93, go_sem]) rfl ⟨by rw [T1.out]; rfl, fin5.out.1.drew, fin5.out.2.drew⟩
      · have hml : m ≠ 0 := hm0
        have hlt : (k : Int) < (s.ws.length : Int) := by omega
        have hlt2 : (j : Int) < (s.ws.length : Int) := by omega
        have hcp : (Builtin.copy_ #[22, 22] 3 #[.slice (some ⟨H + 1, j, none⟩) (((j : Int) + (m : Int)).toNat - j) (s.ws.length - j), .slice (some ⟨H + 1, k, none⟩) (s.ws.length - k) (s.ws.length - k)]).run Try.prog W2.drew = .ok (.int .i64 m) W4 := by
          rw [show ((j : Int) + (m : Int)).toNat - j = m by omega]
          exact h4 3 (s.ws.length - j) (s.ws.length - k) (s.ws.length - k) (by omega) (by omega)
        clear h4 h7
        go_region_held3 (fun w' => w'.cell? ⟨H + 2, 0, none⟩ = some (.slice (some ⟨H + 1, 0, none⟩) s.ws.length s.ws.length) ∧ w'.cell? ⟨W.heap.size, 1, none⟩ = some (.int .i64 k) ∧ w'.cell? ⟨W.heap.size, 2, none⟩ = some (.int .i64 j) ∧ w'.cell? ⟨W.heap.size, 3, none⟩ = some (.int .i64 m))
          (first | exact SB.out | exact SA.out) (fail)
        clear hcp k0 o1 o2 o3
        have r2 := cell_of_row _ _ 2 _ _ _ M1.out
        have f2 := frozen_of_row _ _ 2 _ _ M1.out
        have o3 := cell_of_row _ _ 3 _ _ _ MN.out
        simp only [List.getElem?_toArray, List.getElem?_cons_zero, List.getElem?_cons_succ] at r2 o3
        go_wp2
        go_still_tail 11, (by kernel_rfl)
        rw [HW1.out]
        change wpList _ _ _ _ _ W4.drew
        go_wp2
        clear r2 f2 o3
        have fin5 := Lib.hid (And.intro (show Kp H W ((W4.setCell ⟨H + 2, 2, none⟩ (.int .i64 (s.r + (m : Int)))).drew.setCell ⟨H + 2, 3, none⟩ (.int .i64 (s.w + (m : Int)))) from fin.out.1.drew) (show PSt H ((W4.setCell ⟨H + 2, 2, none⟩ (.int .i64 (s.r + (m : Int)))).drew.setCell ⟨H + 2, 3, none⟩ (.int .i64 (s.w + (m : Int)))) (stepF s ⟨kd, k, j, m, val⟩).2 from fin.out.2.drew))
        have E5 := Lib.hid (show (W4.setCell ⟨H + 2, 2, none⟩ (.int .i64 (s.r + (m : Int)))).drew.heap[H + 2]? = _ from E1.out)
        have N5 := Lib.hid (show (W4.setCell ⟨H + 2, 2, none⟩ (.int .i64 (s.r + (m : Int)))).drew.heap[W.heap.size]? = _ from set_far (b := H + 2) (i := 2) (.int .i64 (s.r + (m : Int))) (by omega) MN.out)
        clear fin E1
        generalize (W4.setCell ⟨H + 2, 2, none⟩ (.int .i64 (s.r + (m : Int)))).drew = W5 at *
        have r3 := cell_of_row _ _ 3 _ _ _ E5.out
        have f3 := frozen_of_row _ _ 3 _ _ E5.out
        have o3 := cell_of_row _ _ 3 _ _ _ N5.out
        simp only [List.getElem?_toArray, List.getElem?_cons_zero, List.getElem?_cons_succ] at r3 o3
        go_still_tail 11, (by kernel_rfl)
        rw [HW2.out]
        change wpList _ _ _ _ _ W5.drew
        go_wp2
        exact bodyPost_ret (v := .bool true) (by simp [results, Try.f93, go_sem]) rfl ⟨by rw [T1.out]; rfl, fin5.out.1.drew, fin5.out.2.drew⟩
end Yteeghjhkfaeflaa
end Go.Proofs
