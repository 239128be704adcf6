/- The reference's asked, Has, Add and Drop. -/
import Derived.Test.YtjkphacidpongaaSlBg
namespace Go.Proofs
namespace Ytjkphacidpongaa
open Go.RowKit

theorem ask_err {cs : List Int} {a : Int} (h : (chkF cs).2 ≠ 0) : askE cs a = (chkF cs).2 := by unfold askE; rw [if_pos h]
theorem ask_ok {cs : List Int} {a : Int} (h : ¬ (chkF cs).2 ≠ 0) : askE cs a = if isA a = true then 0 else 7 := by unfold askE; rw [if_neg h]
set_option maxRecDepth 100000 in
set_option maxHeartbeats 1000000 in
theorem rasked47 (v : Value) (cs : List Int) (a : Int) (w : World) (h : IAt w v cs) (hm : cs.length ≤ 100000) :
    Calls Try.prog 62 #[sv v, .int .i64 a] w fun e w' => e = .returned (.int .i64 (askE cs a)) ∧ Below w.heap.size w w' := by
  have h0 := heap_alloc_new w (.cells #[v] 26)
  have hb := alloc_below w (.cells #[v] 26)
  have C := Lib.hid (rcheck14 v cs _ (h.below hb) hm)
  have AD := Lib.hid (fun W => raddr53 a W)
  obtain ⟨A, cap, rfl, -⟩ := h
  have c0 := (one_cell h0).1
  have B := Lib.hid hb
  unfold sv at *
  by_cases hc : (chkF cs).2 ≠ 0
  · rw [ask_err hc]
    generalize chkF cs = r at *
    obtain ⟨r1, r2⟩ := r
    dsimp only at *
    have q : (r2 == 0) = false := by simpa using hc
    generalize cs.length = n at *
    clear h0 hb hc AD
    go_enter Try.func62, Try.ntmps62
    go_wp2_with (go_at_call 11; refine C.out.mono ?_; rintro e w1 ⟨rfl, hb1⟩; have B1 := Lib.hid (below_end B.out hb1); clear hb1)
    refine bodyPost_ret (v := .int .i64 r2) (by simp [results, Try.f62, go_sem]) rfl ⟨rfl, B1.out⟩
  · rw [ask_ok hc]
    have hz : (chkF cs).2 = 0 := Classical.byContradiction hc
    rw [hz] at C
    generalize (chkF cs).1 = r1 at *
    generalize cs.length = n at *
    clear h0 hb hc hz
    cases hi : isA a with
    | true =>
      rw [if_pos rfl]
      rw [hi] at AD
      clear hi
      go_enter Try.func62, Try.ntmps62
      go_wp2_with (first | (go_at_call 11; refine C.out.mono ?_; rintro e w1 ⟨rfl, hb1⟩; have B1 := Lib.hid (below_end B.out hb1); clear hb1) | (go_at_call 82; refine (AD.out _).mono ?_; rintro e w2 ⟨rfl, rfl⟩))
      refine bodyPost_ret (v := .int .i64 0) (by simp [results, Try.f62, go_sem]) rfl ⟨rfl, B1.out⟩
    | false =>
      rw [if_neg (by simp)]
      rw [hi] at AD
      clear hi
      go_enter Try.func62, Try.ntmps62
      go_wp2_with (first | (go_at_call 11; refine C.out.mono ?_; rintro e w1 ⟨rfl, hb1⟩; have B1 := Lib.hid (below_end B.out hb1); clear hb1) | (go_at_call 82; refine (AD.out _).mono ?_; rintro e w2 ⟨rfl, rfl⟩))
      refine bodyPost_ret (v := .int .i64 7) (by simp [results, Try.f62, go_sem]) rfl ⟨rfl, B1.out⟩
set_option maxRecDepth 100000 in
set_option maxHeartbeats 1000000 in
theorem rhas26 (v : Value) (cs : List Int) (a : Int) (w : World) (h : IAt w v cs) (hm : cs.length ≤ 100000) :
    Calls Try.prog 31 #[sv v, .int .i64 a] w fun e w' => e = .returned (.tuple #[.bool (hasA cs a).1, .int .i64 (hasA cs a).2]) ∧ Below w.heap.size w w' := by
  have h0 := heap_alloc_new w (.cells #[v] 26)
  have hb := alloc_below w (.cells #[v] 26)
  have C := Lib.hid (rasked47 v cs a _ (h.below hb) hm)
  have FI := Lib.hid (fun (hg : askE cs a = 0) W (hb : Below w.heap.size w W) => rfind40 v cs a W (h.below hb) (ask_zero hg).1.zero hm (ask_zero hg).2)
  obtain ⟨A, cap, rfl, -⟩ := h
  have c0 := (one_cell h0).1
  have B := Lib.hid hb
  have H0 := Lib.hid h0
  unfold sv at *
  by_cases hg : askE cs a = 0
  · have e1 : hasA cs a = (hasB cs a, 0) := by unfold hasA; rw [if_neg (by simp [hg])]
    rw [e1]
    have FI := Lib.hid (FI.out hg)
    rw [hg] at C
    have q5 := atF_pos (cs := cs) (a := a)
    generalize atF cs a = y at *
    generalize hasB cs a = b at *
    generalize cs.length = n at *
    clear h0 hb hg e1
    go_enter Try.func31, Try.ntmps31
    go_wp2_with (first | (go_at_call 62; refine C.out.mono ?_; rintro e w1 ⟨rfl, hb1⟩; have B1 := Lib.hid (below_end B.out hb1); have c1 := (one_cell (keep_heap hb1 H0.out)).1; clear hb1) | (go_at_call 40; refine (FI.out _ B1.out).mono ?_; rintro e w2 ⟨rfl, rfl⟩))
    refine bodyPost_ret (v := .tuple #[.bool b, .int .i64 0]) (by simp [results, Try.f31, go_sem]) rfl ⟨rfl, B1.out⟩
  · have e1 : hasA cs a = (false, askE cs a) := by unfold hasA; rw [if_pos hg]
    rw [e1]
    generalize askE cs a = r at *
    have q : (r == 0) = false := by simpa using hg
    generalize cs.length = n at *
    clear h0 hb hg e1 FI
    go_enter Try.func31, Try.ntmps31
    go_wp2_with (go_at_call 62; refine C.out.mono ?_; rintro e w1 ⟨rfl, hb1⟩; have B1 := Lib.hid (below_end B.out hb1); clear hb1)
    refine bodyPost_ret (v := .tuple #[.bool false, .int .i64 r]) (by simp [results, Try.f31, go_sem]) rfl ⟨rfl, B1.out⟩
end Ytjkphacidpongaa
end Go.Proofs
