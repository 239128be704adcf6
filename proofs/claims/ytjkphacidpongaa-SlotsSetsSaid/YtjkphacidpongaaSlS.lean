/- open and openFor. -/
import Derived.Test.YtjkphacidpongaaSlL
namespace Go.Proofs
namespace Ytjkphacidpongaa
open Go.RowKit

/-- what open answers: a table of the call's own, or an error -/
def OAns (w : World) (cs : List Int) (c : Int) (e : Ending) (w' : World) : Prop :=
  (c = 0 ∧ ∃ g, e = .returned (.tuple #[tv g cs.length, .int .i64 0]) ∧ w.heap.size ≤ g ∧ TAt w' g cs ∨ c ≠ 0 ∧ e = .returned (.tuple #[.slice none 0 0, .int .i64 c])) ∧ Below w.heap.size w w'
set_option maxRecDepth 100000 in
set_option maxHeartbeats 1000000 in
theorem open42_ok (v : Value) (cs : List Int) (w : World) (h : IAt w v cs) (hm : cs.length ≤ 100000) (hg : Good cs) :
    Calls Try.prog 66 #[sv v] w fun e w' => ∃ g, e = .returned (.tuple #[tv g cs.length, .int .i64 0]) ∧ w.heap.size ≤ g ∧ TAt w' g cs ∧ Below w.heap.size w w' := by
  have h0 := heap_alloc_new w (.cells #[v] 26)
  have hb := alloc_below w (.cells #[v] 26)
  have C := Lib.hid (check13 v cs _ (h.below hb) hm)
  rw [chk_of_good hg] at C
  have hl := hg.tab.lo
  have CL := Lib.hid (fun W (hb : Below w.heap.size w W) => clone58 v cs W (h.below hb) (by omega) hm)
  obtain ⟨A, cap, rfl, -⟩ := h
  have c0 := (one_cell h0).1
  have B := Lib.hid hb
  have H0 := Lib.hid h0
  clear h0 hb hg hl
  unfold sv tv at *
  generalize cs.length = n at *
  dsimp only at *
  go_enter Try.func66, Try.ntmps66
  go_wp2_with (first | (go_at_call 33; refine C.out.mono ?_; rintro e w1 ⟨rfl, hb1⟩; have B1 := Lib.hid (below_end B.out hb1); have c1 := (one_cell (keep_heap hb1 H0.out)).1; clear hb1) | (go_at_call 86; refine (CL.out _ B1.out).mono ?_; rintro e w2 ⟨rfl, ht, hb2⟩; have B2 := Lib.hid (below_end B1.out hb2); have T2 := Lib.hid ht; clear hb2 ht))
  refine bodyPost_ret (v := .tuple #[.slice (some ⟨w1.heap.size, 0, none⟩) n n, .int .i64 0]) (by simp [results, Try.f66, go_sem]) rfl ⟨_, rfl, B1.out.size, T2.out, B2.out⟩
set_option maxRecDepth 100000 in
set_option maxHeartbeats 1000000 in
theorem open42_err (v : Value) (cs : List Int) (w : World) (h : IAt w v cs) (hm : cs.length ≤ 100000) (hg : (chkF cs).2 ≠ 0) :
    Calls Try.prog 66 #[sv v] w fun e w' => e = .returned (.tuple #[.slice none 0 0, .int .i64 (chkF cs).2]) ∧ Below w.heap.size w w' := by
  have h0 := heap_alloc_new w (.cells #[v] 26)
  have hb := alloc_below w (.cells #[v] 26)
  have C := Lib.hid (check13 v cs _ (h.below hb) hm)
  obtain ⟨A, cap, rfl, -⟩ := h
  have c0 := (one_cell h0).1
  have B := Lib.hid hb
  clear h0 hb
  unfold sv at *
  generalize cs.length = n at *
  generalize chkF cs = r at *
  obtain ⟨r1, r2⟩ := r
  dsimp only at *
  have q : (r2 != 0) = true := by simpa using hg
  clear hg
  go_enter Try.func66, Try.ntmps66
  go_wp2_with (go_at_call 33; refine C.out.mono ?_; rintro e w1 ⟨rfl, hb1⟩; have B1 := Lib.hid (below_end B.out hb1); clear hb1)
  refine bodyPost_ret (v := .tuple #[.slice none 0 0, .int .i64 r2]) (by simp [results, Try.f66, go_sem]) rfl ⟨rfl, B1.out⟩
/-- the error of a table and a number -/
def askE (cs : List Int) (a : Int) : Int := if (chkF cs).2 ≠ 0 then (chkF cs).2 else if isA a = true then 0 else 7
theorem ask_zero {cs : List Int} {a : Int} (h : askE cs a = 0) : Good cs ∧ 1 ≤ a ∧ a ≤ 1600 := by
  unfold askE at h
  split at h
  · contradiction
  · rename_i h1
    split at h
    · rename_i h2; exact ⟨good_of_chk (by simpa using h1), isA_iff.1 h2⟩
    · cases h
set_option maxRecDepth 100000 in
set_option maxHeartbeats 1000000 in
theorem openFor45_ok (v : Value) (cs : List Int) (a : Int) (w : World) (h : IAt w v cs) (hm : cs.length ≤ 100000) (hg : askE cs a = 0) :
    Calls Try.prog 35 #[sv v, .int .i64 a] w fun e w' => ∃ g, e = .returned (.tuple #[tv g cs.length, .int .i64 0]) ∧ w.heap.size ≤ g ∧ TAt w' g cs ∧ Below w.heap.size w w' := by
  obtain ⟨hG, ha⟩ := ask_zero hg
  have h0 := heap_alloc_new w (.cells #[v] 26)
  have hb := alloc_below w (.cells #[v] 26)
  have C := Lib.hid (open42_ok v cs _ (h.below hb) hm hG)
  have AD := Lib.hid (fun W => isaddr51 a W)
  rw [isA_iff.2 ha] at AD
  obtain ⟨A, cap, rfl, -⟩ := h
  have c0 := (one_cell h0).1
  have B := Lib.hid hb
  have hs : (w.alloc (.cells #[.slice A cs.length cap] 26)).heap.size = w.heap.size + 1 := by simp
  rw [hs] at C
  clear h0 hb hG hg hs
  unfold sv tv at *
  generalize cs.length = n at *
  go_enter Try.func35, Try.ntmps35
  go_wp2_with (first | (go_at_call 66; refine C.out.mono ?_; rintro e w1 ⟨g, rfl, hgs, ht, hb1⟩; have B1 := Lib.hid (B.out.trans (hb1.mono (by omega))); have T1 := Lib.hid ht; have G1 := Lib.hid hgs; clear hb1 ht hgs) | (go_at_call 63; refine (AD.out _).mono ?_; rintro e w2 ⟨rfl, rfl⟩))
  refine bodyPost_ret (v := .tuple #[.slice (some ⟨g, 0, none⟩) n n, .int .i64 0]) (by simp [results, Try.f35, go_sem]) rfl ⟨g, rfl, by have := G1.out; omega, T1.out, B1.out⟩
set_option maxRecDepth 100000 in
set_option maxHeartbeats 1000000 in
theorem openFor45_err (v : Value) (cs : List Int) (a : Int) (w : World) (h : IAt w v cs) (hm : cs.length ≤ 100000) (hg : askE cs a ≠ 0) :
    Calls Try.prog 35 #[sv v, .int .i64 a] w fun e w' => e = .returned (.tuple #[.slice none 0 0, .int .i64 (askE cs a)]) ∧ Below w.heap.size w w' := by
  have h0 := heap_alloc_new w (.cells #[v] 26)
  have hb := alloc_below w (.cells #[v] 26)
  have hIA := h.below hb
  have hs : (w.alloc (.cells #[v] 26)).heap.size = w.heap.size + 1 := by simp
  by_cases h1 : (chkF cs).2 = 0
  · have hG := good_of_chk h1
    have C := Lib.hid (open42_ok v cs _ hIA hm hG)
    have AD := Lib.hid (fun W => isaddr51 a W)
    have e7 : askE cs a = 7 ∧ isA a = false := by
      unfold askE at hg ⊢
      rw [if_neg (by simp [h1])] at hg ⊢
      cases hi : isA a with
      | true => rw [hi] at hg; exact absurd rfl hg
      | false => exact ⟨rfl, rfl⟩
    rw [e7.1]
    rw [e7.2] at AD
    obtain ⟨A, cap, rfl, -⟩ := h
    have c0 := (one_cell h0).1
    have B := Lib.hid hb
    rw [hs] at C
    clear h0 hb hG hg hs e7 h1 hIA
    unfold sv tv at *
    generalize cs.length = n at *
    go_enter Try.func35, Try.ntmps35
    go_wp2_with (first | (go_at_call 66; refine C.out.mono ?_; rintro e w1 ⟨g, rfl, hgs, ht, hb1⟩; have B1 := Lib.hid (B.out.trans (hb1.mono (by omega))); clear hb1 ht hgs) | (go_at_call 63; refine (AD.out _).mono ?_; rintro e w2 ⟨rfl, rfl⟩))
    refine bodyPost_ret (v := .tuple #[.slice none 0 0, .int .i64 7]) (by simp [results, Try.f35, go_sem]) rfl ⟨rfl, B1.out⟩
  · have C := Lib.hid (open42_err v cs _ hIA hm h1)
    have e7 : askE cs a = (chkF cs).2 := by unfold askE; rw [if_pos h1]
    rw [e7]
    obtain ⟨A, cap, rfl, -⟩ := h
    have c0 := (one_cell h0).1
    have B := Lib.hid hb
    rw [hs] at C
    clear h0 hb hg hs e7 hIA
    unfold sv at *
    generalize cs.length = n at *
    generalize (chkF cs).2 = r at *
    have q : (r != 0) = true := by simpa using h1
    clear h1
    go_enter Try.func35, Try.ntmps35
    go_wp2_with (go_at_call 66; refine C.out.mono ?_; rintro e w1 ⟨rfl, hb1⟩; have B1 := Lib.hid (B.out.trans (hb1.mono (by omega))); clear hb1)
    refine bodyPost_ret (v := .tuple #[.slice none 0 0, .int .i64 r]) (by simp [results, Try.f35, go_sem]) rfl ⟨rfl, B1.out⟩
end Ytjkphacidpongaa
end Go.Proofs
