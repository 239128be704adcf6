/- Adding to a table whole; building anew; dropping. -/
import Derived.Test.YtjkphacidpongaaSlX
namespace Go.Proofs
namespace Ytjkphacidpongaa
open Go.RowKit

theorem anewF_eq (c : List Int) : anewF c = (srt c).foldl putF (List.replicate (anewN c) 0) := rfl
theorem anewN_eq (c : List Int) : anewN c = if 3 * c.length < 8 * (srt c).length then 2 * c.length else c.length := rfl
set_option maxRecDepth 100000 in
set_option maxHeartbeats 2000000 in
theorem anew61 (g : Nat) (c : List Int) (W : World) (h : TAt W g c) (hT : Tab c) (hr : Roomy (List.replicate (anewN c) 0) (srt c)) (hp : isPow (anewN c) = true) :
    Calls Try.prog 68 #[tv g c.length] W fun e W' => ∃ g', e = .returned (tv g' (anewF c).length) ∧ W.heap.size ≤ g' ∧ TAt W' g' (anewF c) ∧ Below W.heap.size W W' := by
  have hm := hT.hi
  have hnn := (pow_lo hp).2
  have hsl := srt_len c
  have WI := Lib.hid (within43 (tv g c.length) c 1 1601 W h.iat (by omega))
  rw [wi_tab hT, inF_all] at WI
  have eL : (anewF c).length = anewN c := by have := hr.all.2.1; rw [List.length_replicate] at this; exact this
  have MK := Lib.hid (fun X => mk_int Try.underlying71 (anewN c) (by omega) X)
  have AA := Lib.hid (fun X v (hv : X.ownsRow W.heap.size 3 1 v (srt c).length (ic (srt c))) => addAll52_calm X.heap.size (List.replicate (anewN c) 0) v (srt c) (X.alloc (.cells (ic (List.replicate (anewN c) 0)).toArray 3)) (made_at X _) ((IAt.of_own hv).below (alloc_below _ _)) ((IAt.of_own hv).far (Nat.le_refl _)) hr (by omega))
  rw [List.length_replicate] at AA
  have EF := Lib.hid (anewF_eq c)
  have EN := Lib.hid (anewN_eq c)
  rw [eL]
  have hl := hT.lo
  unfold tv at *
  generalize anewF c = D at *
  generalize hN : anewN c = N at *
  have HN := Lib.hid hN
  generalize srt c = L at *
  clear h hT hr hp eL hN
  obtain ⟨q, hq⟩ : ∃ q, L.length = q := ⟨_, rfl⟩
  have HQ := Lib.hid hq
  obtain ⟨n, hn⟩ : ∃ n, c.length = n := ⟨_, rfl⟩
  rw [hq] at WI AA hsl EN
  rw [hn] at WI hm hl EN ⊢
  clear hq hn
  by_cases hb : 3 * n < 8 * q
  · have e2 : ((n : Int) * 2) = (N : Int) := by have := EN.out; rw [if_pos hb] at this; omega
    have hmk := fun X => MK.out X
    rw [← e2] at hmk
    have qb : decide (3 * (n : Int) < 8 * (q : Int)) = true := decide_eq_true (by omega)
    have qb' : 3 * (n : Int) < 8 * (q : Int) := by omega
    have hw2 : IntKind.i64.wrap ((n : Int) * 2) = (n : Int) * 2 := IntWalk.i64_in _ (by omega)
    clear e2 hb
    go_enter Try.func68, Try.ntmps68
    go_wp2_with (first
      | (go_at_call 69; refine WI.out.mono ?_; rintro e w1 ⟨u, rfl, ho, hb1⟩; have HO := Lib.hid ho; have B1 := Lib.hid hb1; obtain ⟨A', c', rfl⟩ := own_form ho; have CA := Lib.hid (AA.out w1 _ ho); clear ho hb1)
      | (go_at_call 64; refine CA.out.mono ?_; rintro e w2 ⟨rfl, ht, hg2⟩; have T2 := Lib.hid ht; have G2 := Lib.hid hg2; clear ht hg2))
    refine bodyPost_ret (v := .slice (some ⟨w1.heap.size, 0, none⟩) N N) (by simp [results, Try.f68, go_sem]) rfl ⟨w1.heap.size, rfl, B1.out.size, by rw [EF.out]; exact T2.out, ?_⟩
    exact B1.out.trans (((alloc_below w1 _).grown G2.out (by simp) (fun k e => by injection e with e; omega)).mono B1.out.size)
  · have e2 : (n : Int) = (N : Int) := by have := EN.out; rw [if_neg hb] at this; omega
    have hmk := fun X => MK.out X
    rw [← e2] at hmk
    have qb : decide (3 * (n : Int) < 8 * (q : Int)) = false := decide_eq_false (by omega)
    have qb' : ¬ 3 * (n : Int) < 8 * (q : Int) := by omega
    clear e2 hb
    go_enter Try.func68, Try.ntmps68
    go_wp2_with (first
      | (go_at_call 69; refine WI.out.mono ?_; rintro e w1 ⟨u, rfl, ho, hb1⟩; have HO := Lib.hid ho; have B1 := Lib.hid hb1; obtain ⟨A', c', rfl⟩ := own_form ho; have CA := Lib.hid (AA.out w1 _ ho); clear ho hb1)
      | (go_at_call 64; refine CA.out.mono ?_; rintro e w2 ⟨rfl, ht, hg2⟩; have T2 := Lib.hid ht; have G2 := Lib.hid hg2; clear ht hg2))
    refine bodyPost_ret (v := .slice (some ⟨w1.heap.size, 0, none⟩) N N) (by simp [results, Try.f68, go_sem]) rfl ⟨w1.heap.size, rfl, B1.out.size, by rw [EF.out]; exact T2.out, ?_⟩
    exact B1.out.trans (((alloc_below w1 _).grown G2.out (by simp) (fun k e => by injection e with e; omega)).mono B1.out.size)
end Ytjkphacidpongaa
end Go.Proofs
