/- A player's method set. -/
import Derived.Test.YtmgoonahpndfoaaArG
namespace Go.Proofs
namespace Ytmgoonahpndfoaa
open Go.RowKit

theorem Kp.drew {H : Nat} {W W' : World} (h : Kp H W W') : Kp H W W'.drew := ⟨below_drewN h.low 1, h.map⟩
theorem PSt.drew {H : Nat} {W : World} {s : ASt} (h : PSt H W s) : PSt H W.drew s := ⟨h.ply, h.wds⟩
theorem wc_set (zs : List Int) (k : Nat) (z : Int) : (wc zs).toArray.setIfInBounds k (.int .u64 z) = (wc (zs.set k z)).toArray := by
  simp [wc, List.map_set]
/-- what a change of the words and of the counts leaves -/
theorem end_of {H : Nat} {W W3 : World} {s s' : ASt} {gv : Value} (hkp : Kp H W W3)
    (m1 : W3.heap[H + 2]? = some (.cells #[.slice (some ⟨H + 1, 0, none⟩) s.ws.length s.ws.length, gv, .int .i64 s'.r, .int .i64 s'.w] 94 (0, 0))) (m3 : W3.heap[H + 1]? = some (.cells (wc s'.ws).toArray 42 (0, 0)))
    (ho : W3.ownsRow (H + 4) 42 1 gv s.got.length (wc s.got)) (hg : s'.got = s.got) (hl : s'.ws.length = s.ws.length) : Kp H W W3 ∧ PSt H W3 s' := by
  refine ⟨hkp, ⟨⟨gv, ?_, ?_⟩, m3⟩⟩
  · rw [hl]; exact m1
  · rw [hg]; exact ho

set_option maxRecDepth 100000 in
set_option maxHeartbeats 1000000 in
theorem set71 (H : Nat) (s : ASt) (o : AOp) (W : World) (hP : PSt H W s) (hk : o.kind = 2) (hsz : H + 4 ≤ W.heap.size) (hlen : s.ws.length ≤ 1601) (hr : 0 ≤ s.w ∧ s.w ≤ 1000000000) :
    Calls Try.prog 71 #[.pointer (some ⟨H + 2, 0, none⟩), opV o] W fun e W' => e = .returned (.bool (decide ((stepF s o).1 = 0))) ∧ Kp H W W' ∧ PSt H W' (stepF s o).2 := by
  have HP := Lib.hid hP
  have HK := Lib.hid hk
  clear hP hk
  obtain ⟨kd, a, b, n, val⟩ := o
  unfold opV opC
  dsimp only at HK ⊢
  have hnew := heap_alloc_new W (.cells #[.int .i64 kd, .int .i64 a, .int .i64 b, .int .i64 n, .int .u64 val] 67)
  have HN := Lib.hid hnew
  have HB := Lib.hid (alloc_below W (.cells #[.int .i64 kd, .int .i64 a, .int .i64 b, .int .i64 n, .int .u64 val] 67))
  clear hnew
  obtain ⟨⟨gv, P1, P2⟩, P3⟩ := HP.out
  have Q1 := Lib.hid P1
  have Q2 := Lib.hid P2
  have Q3 := Lib.hid P3
  clear P1 P2 P3
  go_enter Try.func71, Try.ntmps71
  go_upto_region 1 with (fail)
  generalize hX : W.alloc (.cells #[.int .i64 kd, .int .i64 a, .int .i64 b, .int .i64 n, .int .u64 val] 67) = W1 at *
  clear hX
  have k0 := cell_of_row _ _ 0 _ _ _ (keep_heap HB.out Q1.out)
  have o1 := cell_of_row _ _ 1 _ _ _ HN.out
  simp only [List.getElem?_toArray, List.getElem?_cons_zero, List.getElem?_cons_succ] at k0 o1
  have P36 := Lib.hid (fun W => part74 (some ⟨H + 1, 0, none⟩) s.ws.length s.ws.length a 1 W (by omega))
  cases hp : partB s.ws.length a 1 with
  | false =>
    rw [hp] at P36
    have T := Lib.hid (show stepF s ⟨kd, a, b, n, val⟩ = (7, s) by unfold stepF; rw [if_neg (by show ¬ kd = 1; have := HK.out; omega), if_pos HK.out, hp]; rfl)
    clear hp
    go_quiet ((go_at_call 74; exact Calls.quiet_of_same ((P36.out _).mono (fun _ _ h => ⟨h.1, h.2.symm⟩))))
    go_wp2
    refine bodyPost_ret (v := .bool false) (by simp [results, Try.f71, go_sem]) rfl ⟨by rw [T.out]; rfl, ?_, ?_⟩
    · exact Kp.of_below hsz (below_drewN HB.out nq)
    · rw [T.out]; exact HP.out.below (below_drewN HB.out nq)
  | true =>
    rw [hp] at P36
    obtain ⟨q1, q2, q3, q4⟩ := partB_spec.1 hp
    obtain ⟨k, rfl⟩ : ∃ k : Nat, a = (k : Int) := ⟨a.toNat, by omega⟩
    have T := Lib.hid (show stepF s ⟨kd, k, b, n, val⟩ = (0, { s with ws := s.ws.set k val, w := s.w + 1 }) by unfold stepF; rw [if_neg (by show ¬ kd = 1; have := HK.out; omega), if_pos HK.out, hp]; rfl)
    have hk : (k : Int) < (s.ws.length : Int) := by omega
    have hk0 : (0 : Int) ≤ (k : Int) := by omega
    clear hp
    go_quiet ((go_at_call 74; exact Calls.quiet_of_same ((P36.out _).mono (fun _ _ h => ⟨h.1, h.2.symm⟩))))
    go_wp2
    have HB2 := Lib.hid (below_drewN HB.out nq)
    have HN2 := Lib.hid (show (W1.drewN nq).heap[W.heap.size]? = some (.cells #[.int .i64 kd, .int .i64 k, .int .i64 b, .int .i64 n, .int .u64 val] 67 (0, 0)) from HN.out)
    generalize hX2 : W1.drewN nq = W2 at *
    clear hX2 k0 o1
    have k0 := cell_of_row _ _ 0 _ _ _ (keep_heap HB2.out Q1.out)
    have o1 := cell_of_row _ _ 1 _ _ _ HN2.out
    have o4 := cell_of_row _ _ 4 _ _ _ HN2.out
    simp only [List.getElem?_toArray, List.getElem?_cons_zero, List.getElem?_cons_succ] at k0 o1 o4
    go_still_tail 9, (by kernel_rfl)
    change wpList _ _ _ _ _ W2.drew
    have HB3 := Lib.hid (show Below W.heap.size W W2.drew from below_drewN HB2.out 1)
    generalize W2.drew = W3 at *
    clear k0 o1 o4
    have R3 := Lib.hid (keep_heap HB3.out Q3.out)
    have R1 := Lib.hid (keep_heap HB3.out Q1.out)
    have x0 := cell_of_row _ _ k _ _ _ R3.out
    rw [List.getElem?_toArray, wc_get s.ws k (by omega)] at x0
    have f0 := frozen_of_row _ _ k _ _ R3.out
    have n3 := set_row R3.out k (.int .u64 val)
    rw [wc_set] at n3
    have n1 := set_far (b := H + 1) (i := k) (.int .u64 val) (by omega) R1.out
    have r3 := cell_of_row _ _ 3 _ _ _ n1
    have f3 := frozen_of_row _ _ 3 _ _ n1
    simp only [List.getElem?_toArray, List.getElem?_cons_zero, List.getElem?_cons_succ] at r3
    have n5 := set_row n1 3 (.int .i64 (s.w + 1))
    simp only [List.setIfInBounds_toArray, List.set_cons_succ, List.set_cons_zero] at n5
    have hr1 := hr.1
    have hr2 := hr.2
    have E := Lib.hid (end_of (s := s) (s' := { s with ws := s.ws.set k val, w := s.w + 1 }) (kp_set (kp_set (Kp.of_below hsz HB3.out) (H + 1) k (.int .u64 val) (.inl rfl)) (H + 2) 3 (.int .i64 (s.w + 1)) (.inr rfl)) n5 (set_far _ (by omega) n3)
      (own_set (own_set (own_below Q2.out HB3.out) (H + 1) k (.int .u64 val) (by omega)) (H + 2) 3 (.int .i64 (s.w + 1)) (by omega)) rfl (by simp))
    clear n1 n3 n5
    go_wp2
    exact bodyPost_ret (v := .bool true) (by simp [results, Try.f71, go_sem]) rfl ⟨by rw [T.out]; rfl, E.out.1, by rw [T.out]; exact E.out.2⟩
end Ytmgoonahpndfoaa
end Go.Proofs
