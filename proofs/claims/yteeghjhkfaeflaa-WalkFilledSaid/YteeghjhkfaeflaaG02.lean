/- A player's method set. -/
import Derived.Test.YteeghjhkfaeflaaG01
import Derived.Lib.SliceRun
import Derived.Laws.CopyOwn
namespace Go.Proofs
namespace Yteeghjhkfaeflaa
open Go.RowKit

theorem Kp.drew {H : Nat} {W W' : World} (h : Kp H W W') : Kp H W W'.drew := ⟨below_drewN h.low 1, h.map⟩
theorem PSt.drew {H : Nat} {W : World} {s : ASt} (h : PSt H W s) : PSt H W.drew s := ⟨h.ply, h.wds⟩
theorem wc_set (zs : List Int) (k : Nat) (z : Int) : (wc zs).toArray.setIfInBounds k (.int .u64 z) = (wc (zs.set k z)).toArray := by
  simp [wc, List.map_set]
/-- what a change of the words and of the counts leaves -/
theorem end_of {H : Nat} {W W3 : World} {s s' : ASt} {gv : Value} (hkp : Kp H W W3)
    (m1 : W3.heap[H + 2]? = some (.cells #[.slice (some ⟨H + 1, 0, none⟩) s.ws.length s.ws.length, gv, .int .i64 s'.r, .int .i64 s'.w] 122 (0, 0))) (m3 : W3.heap[H + 1]? = some (.cells (wc s'.ws).toArray 58 (0, 0)))
    (ho : W3.ownsRow (H + 4) 58 1 gv s.got.length (wc s.got)) (hg : s'.got = s.got) (hl : s'.ws.length = s.ws.length) : Kp H W W3 ∧ PSt H W3 s' := by
  refine ⟨hkp, ⟨⟨gv, ?_, ?_⟩, m3⟩⟩
  · rw [hl]; exact m1
  · rw [hg]; exact ho

set_option maxRecDepth 100000 in
set_option maxHeartbeats 1000000 in
theorem set71 (H : Nat) (s : ASt) (o : AOp) (W : World) (hP : PSt H W s) (hk : o.kind = 2) (hsz : H + 4 ≤ W.heap.size) (hlen : s.ws.length ≤ 1601) (hr : 0 ≤ s.w ∧ s.w ≤ 1000000000) :
    Calls Try.prog 92 #[.pointer (some ⟨H + 2, 0, none⟩), opV o] W fun e W' => e = .returned (.bool (decide ((stepF s o).1 = 0))) ∧ Kp H W W' ∧ PSt H W' (stepF s o).2 := by
  have HP := Lib.hid hP
  have HK := Lib.hid hk
  clear hP hk
  obtain ⟨kd, a, b, n, val⟩ := o
  unfold opV opC
  dsimp only at HK ⊢
  have hnew := heap_alloc_new W (.cells #[.int .i64 kd, .int .i64 a, .int .i64 b, .int .i64 n, .int .u64 val] 110)
  have HN := Lib.hid hnew
  have HB := Lib.hid (alloc_below W (.cells #[.int .i64 kd, .int .i64 a, .int .i64 b, .int .i64 n, .int .u64 val] 110))
  clear hnew
  obtain ⟨⟨gv, P1, P2⟩, P3⟩ := HP.out
  have Q1 := Lib.hid P1
  have Q2 := Lib.hid P2
  have Q3 := Lib.hid P3
  clear P1 P2 P3
  go_enter Try.func92, Try.ntmps92
  go_upto_region 1 with (fail)
  generalize hX : W.alloc (.cells #[.int .i64 kd, .int .i64 a, .int .i64 b, .int .i64 n, .int .u64 val] 110) = W1 at *
  clear hX
  have k0 := cell_of_row _ _ 0 _ _ _ (keep_heap HB.out Q1.out)
  have o1 := cell_of_row _ _ 1 _ _ _ HN.out
  simp only [List.getElem?_toArray, List.getElem?_cons_zero, List.getElem?_cons_succ] at k0 o1
  have P36 := Lib.hid (fun W => part74 (some ⟨H + 1, 0, none⟩) s.ws.length s.ws.length a 1 W (by omega))
  cases hp : partB s.ws.length a 1 with
  | false =>
    rw [hp] at P36
    have T := Lib.hid (show stepF s ⟨kd, a, b, n, val⟩ = (7, s) by unfold stepF; rw [if_neg (by show ¬ kd = 1; have := HK.out; omega), if_pos HK.out, hp]; rfl)
    clear hp
    go_quiet ((go_at_call 86; exact Calls.quiet_of_same ((P36.out _).mono (fun _ _ h => ⟨h.1, h.2.symm⟩))))
    go_wp2
    refine bodyPost_ret (v := .bool false) (by simp [results, Try.f92, go_sem]) rfl ⟨by rw [T.out]; rfl, ?_, ?_⟩
    · exact Kp.of_below hsz (below_drewN HB.out nq)
    · rw [T.out]; exact HP.out.below (below_drewN HB.out nq)
  | true =>
    rw [hp] at P36
    obtain ⟨q1, q2, q3, q4⟩ := partB_spec.1 hp
    obtain ⟨k, rfl⟩ : ∃ k : Nat, a = (k : Int) := ⟨a.toNat, by omega⟩
    have T := Lib.hid (show stepF s ⟨kd, k, b, n, val⟩ = (0, { s with ws := s.ws.set k val, w := s.w + 1 }) by unfold stepF; rw [if_neg (by show ¬ kd = 1; have := HK.out; omega), if_pos HK.out, hp]; rfl)
    have hk : (k : Int) < (s.ws.length : Int) := by omega
    have hk0 : (0 : Int) ≤ (k : Int) := by omega
    clear hp
    go_quiet ((go_at_call 86; exact Calls.quiet_of_same ((P36.out _).mono (fun _ _ h => ⟨h.1, h.2.symm⟩))))
    go_wp2
    have HB2 := Lib.hid (below_drewN HB.out nq)
    have HN2 := Lib.hid (show (W1.drewN nq).heap[W.heap.size]? = some (.cells #[.int .i64 kd, .int .i64 k, .int .i64 b, .int .i64 n, .int .u64 val] 110 (0, 0)) from HN.out)
    generalize hX2 : W1.drewN nq = W2 at *
    clear hX2 k0 o1
    have k0 := cell_of_row _ _ 0 _ _ _ (keep_heap HB2.out Q1.out)
    have o1 := cell_of_row _ _ 1 _ _ _ HN2.out
    have o4 := cell_of_row _ _ 4 _ _ _ HN2.out
    simp only [List.getElem?_toArray, List.getElem?_cons_zero, List.getElem?_cons_succ] at k0 o1 o4
    go_still_tail 9, (by kernel_rfl)
    change wpList _ _ _ _ _ W2.drew
    have HB3 := Lib.hid (show Below W.heap.size W W2.drew from below_drewN HB2.out 1)
    generalize W2.drew = W3 at *
    clear k0 o1 o4
    have R3 := Lib.hid (keep_heap HB3.out Q3.out)
    have R1 := Lib.hid (keep_heap HB3.out Q1.out)
    have x0 := cell_of_row _ _ k _ _ _ R3.out
    rw [List.getElem?_toArray, wc_get s.ws k (by omega)] at x0
    have f0 := frozen_of_row _ _ k _ _ R3.out
    have n3 := set_row R3.out k (.int .u64 val)
    rw [wc_set] at n3
    have n1 := set_far (b := H + 1) (i := k) (.int .u64 val) (by omega) R1.out
    have r3 := cell_of_row _ _ 3 _ _ _ n1
    have f3 := frozen_of_row _ _ 3 _ _ n1
    simp only [List.getElem?_toArray, List.getElem?_cons_zero, List.getElem?_cons_succ] at r3
    have n5 := set_row n1 3 (.int .i64 (s.w + 1))
    simp only [List.setIfInBounds_toArray, List.set_cons_succ, List.set_cons_zero] at n5
    have hr1 := hr.1
    have hr2 := hr.2
    have E := Lib.hid (end_of (s := s) (s' := { s with ws := s.ws.set k val, w := s.w + 1 }) (kp_set (kp_set (Kp.of_below hsz HB3.out) (H + 1) k (.int .u64 val) (.inl rfl)) (H + 2) 3 (.int .i64 (s.w + 1)) (.inr rfl)) n5 (set_far _ (by omega) n3)
      (own_set (own_set (own_below Q2.out HB3.out) (H + 1) k (.int .u64 val) (by omega)) (H + 2) 3 (.int .i64 (s.w + 1)) (by omega)) rfl (by simp))
    clear n1 n3 n5
    go_wp2
    exact bodyPost_ret (v := .bool true) (by simp [results, Try.f92, go_sem]) rfl ⟨by rw [T.out]; rfl, E.out.1, by rw [T.out]; exact E.out.2⟩
end Yteeghjhkfaeflaa
end Go.Proofs
/- A player's method clear. -/
namespace Go.Proofs
namespace Yteeghjhkfaeflaa
open Go.RowKit

theorem setCells_zero {g a : Nat} {ws : List Int} : ∀ (m i : Nat) (W : World), a + i + m ≤ ws.length → W.heap[g]? = some (.cells (wc (zeroL ws a i)).toArray 58 (0, 0)) →
    (W.setCells g (a + i) (List.replicate m (.int .u64 0))).heap[g]? = some (.cells (wc (zeroL ws a (i + m))).toArray 58 (0, 0))
  | 0, i, W, _, h => h
  | m + 1, i, W, hm, h => by
    have h1 := set_row h (a + i) (.int .u64 0)
    rw [wc_set, zeroL_step (by omega)] at h1
    have := setCells_zero m (i + 1) _ (by omega) h1
    rw [List.replicate_succ, World.setCells]
    rw [show a + (i + 1) = a + i + 1 by omega, show i + 1 + m = i + (m + 1) by omega] at this
    exact this
theorem setCells_grown (g : Nat) : ∀ (vs : List Value) (o : Nat) (W : World), W.grownBy (W.setCells g o vs) (some g)
  | [], _, _ => ⟨rfl, rfl, rfl, Nat.le_refl _, fun _ _ _ => rfl⟩
  | v :: r, o, W => (grown_set W g o v).trans (setCells_grown g r (o + 1) _)
theorem wrap_small {z : Int} (h1 : -9223372036854775808 ≤ z) (h2 : z ≤ 9223372036854775807) : IntKind.i64.wrap z = z := by
  simp [IntKind.wrap, IntKind.signed, IntKind.bits]
  omega
theorem zero25 (w : World) : (zeroValue 58).run Try.prog w = .ok (.int .u64 0) w := by kernel_rfl

/-- clear on a part of the words -/
theorem clear_run {W : World} {g a m c : Nat} {ws : List Int} (h : W.heap[g]? = some (.cells (wc ws).toArray 58 (0, 0))) (hm : a + m ≤ ws.length) :
    ∃ W', (∀ A ty, 0 < m → A = some ⟨g, a, none⟩ → (Builtin.clear_ #[22] ty #[.slice A m c]).run Try.prog W = .ok (.tuple #[]) W') ∧ W'.heap[g]? = some (.cells (wc (zeroL ws a m)).toArray 58 (0, 0)) ∧ W.grownBy W' (some g) ∧ (m = 0 → W = W') := by
  refine ⟨W.setCells g a (List.replicate m (.int .u64 0)), ?_, ?_, setCells_grown g _ _ _, fun h => by subst h; rfl⟩
  · rintro A ty h0 rfl
    refine Lib.run_clear_slice W 22 58 ty (.int .u64 0) Try.underlying22 zero25 rfl rfl g a m c h0 (fun j hj => ?_) (fun j hj => frozen_of_row _ _ _ _ _ h)
    rw [cell_of_row _ _ _ _ _ _ h, List.getElem?_toArray, wc_get ws (a + j) (by omega)]
    rfl
  · have := setCells_zero (g := g) (a := a) (ws := ws) m 0 W (by omega) (by rw [zeroL_zero]; exact h)
    simpa using this

theorem clear_none (A : Option Addr) (c : Nat) (ty : TypeId) (W : World) : (Builtin.clear_ #[22] ty #[.slice A 0 c]).run Try.prog W = .ok (.tuple #[]) W := by
  cases A <;> simp [Builtin.clear_, run_underlying Try.underlying22]

set_option maxRecDepth 100000 in
set_option maxHeartbeats 1000000 in
theorem clear73 (H : Nat) (s : ASt) (o : AOp) (W : World) (hP : PSt H W s) (hk : o.kind = 4) (hsz : H + 4 ≤ W.heap.size) (hlen : s.ws.length ≤ 1601) (hr : 0 ≤ s.w ∧ s.w ≤ 1000000000) :
    Calls Try.prog 94 #[.pointer (some ⟨H + 2, 0, none⟩), opV o] W fun e W' => e = .returned (.bool (decide ((stepF s o).1 = 0))) ∧ Kp H W W' ∧ PSt H W' (stepF s o).2 := by
  have HP := Lib.hid hP
  have HK := Lib.hid hk
  clear hP hk
  obtain ⟨kd, a, b, n, val⟩ := o
  unfold opV opC
  dsimp only at HK ⊢
  have hnew := heap_alloc_new W (.cells #[.int .i64 kd, .int .i64 a, .int .i64 b, .int .i64 n, .int .u64 val] 110)
  have HN := Lib.hid hnew
  have HB := Lib.hid (alloc_below W (.cells #[.int .i64 kd, .int .i64 a, .int .i64 b, .int .i64 n, .int .u64 val] 110))
  clear hnew
  obtain ⟨⟨gv, P1, P2⟩, P3⟩ := HP.out
  have Q1 := Lib.hid P1
  have Q2 := Lib.hid P2
  have Q3 := Lib.hid P3
  clear P1 P2 P3
  go_enter Try.func94, Try.ntmps94
  go_upto_region 1 with (fail)
  generalize hX : W.alloc (.cells #[.int .i64 kd, .int .i64 a, .int .i64 b, .int .i64 n, .int .u64 val] 110) = W1 at *
  clear hX
  have k0 := cell_of_row _ _ 0 _ _ _ (keep_heap HB.out Q1.out)
  have o1 := cell_of_row _ _ 1 _ _ _ HN.out
  have o3 := cell_of_row _ _ 3 _ _ _ HN.out
  simp only [List.getElem?_toArray, List.getElem?_cons_zero, List.getElem?_cons_succ] at k0 o1 o3
  have P36 := Lib.hid (fun W => part74 (some ⟨H + 1, 0, none⟩) s.ws.length s.ws.length a n W (by omega))
  cases hp : partB s.ws.length a n with
  | false =>
    rw [hp] at P36
    have T := Lib.hid (show stepF s ⟨kd, a, b, n, val⟩ = (7, s) by unfold stepF; rw [if_neg (by show ¬ kd = 1; have := HK.out; omega), if_neg (by show ¬ kd = 2; have := HK.out; omega), if_neg (by show ¬ kd = 3; have := HK.out; omega), if_pos HK.out, hp]; rfl)
    clear hp
    go_quiet ((go_at_call 86; exact Calls.quiet_of_same ((P36.out _).mono (fun _ _ h => ⟨h.1, h.2.symm⟩))))
    go_wp2
    refine bodyPost_ret (v := .bool false) (by simp [results, Try.f94, go_sem]) rfl ⟨by rw [T.out]; rfl, ?_, ?_⟩
    · exact Kp.of_below hsz (below_drewN HB.out nq)
    · rw [T.out]; exact HP.out.below (below_drewN HB.out nq)
  | true =>
    rw [hp] at P36
    obtain ⟨q1, q2, q3, q4⟩ := partB_spec.1 hp
    obtain ⟨k, rfl⟩ : ∃ k : Nat, a = (k : Int) := ⟨a.toNat, by omega⟩
    obtain ⟨m, rfl⟩ : ∃ m : Nat, n = (m : Int) := ⟨n.toNat, by omega⟩
    have T := Lib.hid (show stepF s ⟨kd, k, b, m, val⟩ = (0, { s with ws := zeroL s.ws k m, w := s.w + m }) by unfold stepF; rw [if_neg (by show ¬ kd = 1; have := HK.out; omega), if_neg (by show ¬ kd = 2; have := HK.out; omega), if_neg (by show ¬ kd = 3; have := HK.out; omega), if_pos HK.out, hp]; rfl)
    have hk : (k : Int) ≤ (s.ws.length : Int) := by omega
    have hk0 : (0 : Int) ≤ (k : Int) := by omega
    have hkm : (k : Int) + (m : Int) ≤ (s.ws.length : Int) := by omega
    clear hp
    go_quiet ((go_at_call 86; exact Calls.quiet_of_same ((P36.out _).mono (fun _ _ h => ⟨h.1, h.2.symm⟩))))
    go_wp2
    have HB2 := Lib.hid (below_drewN HB.out nq)
    have HN2 := Lib.hid (show (W1.drewN nq).heap[W.heap.size]? = some (.cells #[.int .i64 kd, .int .i64 k, .int .i64 b, .int .i64 m, .int .u64 val] 110 (0, 0)) from HN.out)
    generalize hX2 : W1.drewN nq = W2 at *
    clear hX2 k0 o1 o3
    have k0 := cell_of_row _ _ 0 _ _ _ (keep_heap HB2.out Q1.out)
    have o1 := cell_of_row _ _ 1 _ _ _ HN2.out
    have o3 := cell_of_row _ _ 3 _ _ _ HN2.out
    simp only [List.getElem?_toArray, List.getElem?_cons_zero, List.getElem?_cons_succ] at k0 o1 o3
    have HW := Lib.hid (show IntKind.i64.wrap ((k : Int) + (m : Int)) = (k : Int) + (m : Int) from wrap_small (by omega) (by omega))
    go_still_tail 11, (by kernel_rfl)
    rw [HW.out]
    change wpList _ _ _ _ _ W2.drew
    have HB3 := Lib.hid (show Below W.heap.size W W2.drew from below_drewN HB2.out 1)
    have HN3 := Lib.hid (show W2.drew.heap[W.heap.size]? = some (.cells #[.int .i64 kd, .int .i64 k, .int .i64 b, .int .i64 m, .int .u64 val] 110 (0, 0)) from HN2.out)
    generalize W2.drew = W3 at *
    clear k0 o1 o3
    have R3 := Lib.hid (keep_heap HB3.out Q3.out)
    have R1 := Lib.hid (keep_heap HB3.out Q1.out)
    have hr1 := hr.1
    have hr2 := hr.2
    have hmw : s.w + (m : Int) ≤ 2000000000 := by omega
    have HW2 := Lib.hid (show IntKind.i64.wrap (s.w + (m : Int)) = s.w + (m : Int) from wrap_small (by omega) (by omega))
    have hs3 := (Array.getElem?_eq_some_iff.1 HN3.out).1
    obtain ⟨W4, h4, h5, h6, h7⟩ := clear_run (c := s.ws.length - k) R3.out (show k + m ≤ s.ws.length by omega)
    have kp4 : Kp H W W4 := (Kp.of_below hsz HB3.out).trans ⟨(Below.refl (H + 1) W3).grown h6 (by omega) (fun i hi => by cases hi; omega), h6.block _ (by omega) (by simp)⟩
    have M1 := Lib.hid (show W4.heap[H + 2]? = _ from (h6.block _ (by omega) (by simp)).trans R1.out)
    have MN := Lib.hid (show W4.heap[W.heap.size]? = _ from (h6.block _ (Array.getElem?_eq_some_iff.1 HN3.out).1 (by simp; omega)).trans HN3.out)
    have r3 := cell_of_row _ _ 3 _ _ _ M1.out
    have f3 := frozen_of_row _ _ 3 _ _ M1.out
    have o3 := cell_of_row _ _ 3 _ _ _ MN.out
    simp only [List.getElem?_toArray, List.getElem?_cons_zero, List.getElem?_cons_succ] at r3 o3
    have n5 := set_row M1.out 3 (.int .i64 (s.w + (m : Int)))
    simp only [List.setIfInBounds_toArray, List.set_cons_succ, List.set_cons_zero] at n5
    have o4 := (own_below Q2.out HB3.out).kept h6 (by
      cases ho : gv.ownBlock with
      | none => exact .inl rfl
      | some g => right; have := (Q2.out.lt g ho).1; intro e; injection e with e; omega)
    have E := Lib.hid (end_of (s := s) (s' := { s with ws := zeroL s.ws k m, w := s.w + (m : Int) }) (kp_set kp4 (H + 2) 3 (.int .i64 (s.w + (m : Int))) (.inr rfl)) n5 (set_far _ (by omega) h5)
      (own_set o4 (H + 2) 3 (.int .i64 (s.w + (m : Int))) (by omega)) rfl (zeroL_length (by omega)))
    have fin : Hid (Kp H W (W4.setCell ⟨H + 2, 3, none⟩ (.int .i64 (s.w + (m : Int)))) ∧ PSt H (W4.setCell ⟨H + 2, 3, none⟩ (.int .i64 (s.w + (m : Int)))) (stepF s ⟨kd, k, b, m, val⟩).2) := Lib.hid ⟨E.out.1, by rw [T.out]; exact E.out.2⟩
    have T1 := Lib.hid (show (stepF s ⟨kd, k, b, m, val⟩).1 = 0 by rw [T.out])
    clear n5 h5 h6 kp4 o4 T
    by_cases hm0 : m = 0
    · obtain rfl := h7 hm0
      subst hm0
      have fin2 := fin.out
      rw [show s.w + ((0 : Nat) : Int) = s.w by simp] at fin2
      have FIN := Lib.hid fin2
      clear h4 h7 fin2
      have hcl := clear_none
      go_wp2
      all_goals
        go_still_tail 11, (by kernel_rfl)
        first | rw [HW2.out] | skip
        change wpList _ _ _ _ _ W3.drew
        have g3 : W3.drew.cell? ⟨H + 2, 3, none⟩ = some (.int .i64 s.w) := r3
        go_wp2
        exact bodyPost_ret (v := .bool true) (by simp [results, Try.f94, go_sem]) rfl ⟨by rw [T1.out]; rfl, FIN.out.1.drew, FIN.out.2.drew⟩
    · have hml : m ≠ 0 := hm0
      have hlt : (k : Int) < (s.ws.length : Int) := by omega
      have hcl := h4 (some ⟨H + 1, k, none⟩) 0 (by omega) rfl
      clear h4 h7
      go_wp2
      go_still_tail 11, (by kernel_rfl)
      rw [HW2.out]
      change wpList _ _ _ _ _ W4.drew
      go_wp2
      exact bodyPost_ret (v := .bool true) (by simp [results, Try.f94, go_sem]) rfl ⟨by rw [T1.out]; rfl, fin.out.1.drew, fin.out.2.drew⟩
end Yteeghjhkfaeflaa
end Go.Proofs
