/- Range, List and Len, the program's. -/
import Derived.Test.YtjkphacidpongaaSlAa
namespace Go.Proofs
namespace Ytjkphacidpongaa
open Go.RowKit

def rangeA (cs : List Int) (f t : Int) : List Int × Int := if (chkF cs).2 ≠ 0 then ([], (chkF cs).2) else (inF f t (srt cs), 0)
def lenA (cs : List Int) : Int × Int := if (chkF cs).2 ≠ 0 then (0, (chkF cs).2) else (((srt cs).length : Int), 0)
/-- a list and an error -/
def LiAns (w : World) (R : List Int × Int) (e : Ending) (w' : World) : Prop := ∃ v, e = .returned (.tuple #[v, .int .i64 R.2]) ∧ Row w w' v R.1 ∧ Below w.heap.size w w'
theorem range_len (cs : List Int) (f t : Int) : (rangeA cs f t).1.length ≤ 1600 := by
  unfold rangeA
  by_cases h : (chkF cs).2 ≠ 0
  · rw [if_pos h]; exact Nat.zero_le _
  · rw [if_neg h]
    have h1 : (inF f t (srt cs)).length ≤ (srt cs).length := List.length_filter_le _ _
    have h2 := srt_len cs
    dsimp only
    omega
theorem len_range (cs : List Int) : lenA cs = (((rangeA cs 1 1601).1.length : Int), (rangeA cs 1 1601).2) := by
  unfold lenA rangeA
  rw [inF_all]
  by_cases h : (chkF cs).2 ≠ 0
  · rw [if_pos h, if_pos h]; rfl
  · rw [if_neg h, if_neg h]
theorem row_mono {w W w' : World} {v : Value} {zs : List Int} (h : Row W w' v zs) (hs : w.heap.size ≤ W.heap.size) : Row w w' v zs := own_mono h hs
set_option maxRecDepth 100000 in
set_option maxHeartbeats 1000000 in
theorem range22 (v : Value) (cs : List Int) (f t : Int) (w : World) (h : IAt w v cs) (hm : cs.length ≤ 100000) :
    Calls Try.prog 41 #[sv v, .int .i64 f, .int .i64 t] w fun e w' => LiAns w (rangeA cs f t) e w' := by
  have h0 := heap_alloc_new w (.cells #[v] 26)
  have hb := alloc_below w (.cells #[v] 26)
  have hIA := h.below hb
  have hs : (w.alloc (.cells #[v] 26)).heap.size = w.heap.size + 1 := by simp
  by_cases hg : (chkF cs).2 = 0
  · have hG := good_of_chk hg
    have e1 : rangeA cs f t = (inF f t (srt cs), 0) := by unfold rangeA; rw [if_neg (by simp [hg])]
    rw [e1]
    have C := Lib.hid (open42_ok v cs _ hIA hm hG)
    have F := Lib.hid (fun W g (ht : TAt W g cs) => within43 (tv g cs.length) cs f t W ht.iat hm)
    rw [wi_tab hG.tab] at F
    obtain ⟨A, cap, rfl, -⟩ := h
    have c0 := (one_cell h0).1
    have B := Lib.hid hb
    rw [hs] at C
    clear h0 hb hG hg hs e1 hIA
    unfold LiAns sv tv at *
    dsimp only
    generalize inF f t (srt cs) = L at *
    generalize cs.length = n at *
    go_enter Try.func41, Try.ntmps41
    go_wp2_with (first
      | (go_at_call 66; refine C.out.mono ?_; rintro e w1 ⟨g, rfl, hgs, ht, hb1⟩; have B1 := Lib.hid (B.out.trans (hb1.mono (by omega))); have FW := Lib.hid (F.out _ _ ht); clear hb1 ht hgs)
      | (go_at_call 69; refine FW.out.mono ?_; rintro e w2 ⟨u, rfl, ho, hb2⟩; have B2 := Lib.hid (below_end B1.out hb2); have O2 := Lib.hid (own_mono ho B1.out.size); obtain ⟨A', c', rfl⟩ := own_form ho; clear hb2 ho))
    refine bodyPost_ret (v := .tuple #[.slice A' L.length c', .int .i64 0]) (by simp [results, Try.f41, go_sem]) rfl ⟨_, rfl, O2.out, B2.out⟩
  · have e1 : rangeA cs f t = ([], (chkF cs).2) := by unfold rangeA; rw [if_pos hg]
    rw [e1]
    have C := Lib.hid (open42_err v cs _ hIA hm hg)
    obtain ⟨A, cap, rfl, -⟩ := h
    have c0 := (one_cell h0).1
    have B := Lib.hid hb
    rw [hs] at C
    clear h0 hb hs e1 hIA
    unfold LiAns sv at *
    dsimp only
    generalize cs.length = n at *
    generalize (chkF cs).2 = r at *
    have q : (r != 0) = true := by simpa using hg
    clear hg
    go_enter Try.func41, Try.ntmps41
    go_wp2_with (go_at_call 66; refine C.out.mono ?_; rintro e w1 ⟨rfl, hb1⟩; have B1 := Lib.hid (B.out.trans (hb1.mono (by omega))); clear hb1)
    refine bodyPost_ret (v := .tuple #[.slice none 0 0, .int .i64 r]) (by simp [results, Try.f41, go_sem]) rfl ⟨_, rfl, row_nil _ _, B1.out⟩
def listA (cs : List Int) : List Int × Int := rangeA cs 1 1601
set_option maxRecDepth 100000 in
set_option maxHeartbeats 1000000 in
theorem list20 (v : Value) (cs : List Int) (w : World) (h : IAt w v cs) (hm : cs.length ≤ 100000) :
    Calls Try.prog 12 #[sv v] w fun e w' => LiAns w (listA cs) e w' := by
  have h0 := heap_alloc_new w (.cells #[v] 26)
  have hb := alloc_below w (.cells #[v] 26)
  have hs : (w.alloc (.cells #[v] 26)).heap.size = w.heap.size + 1 := by simp
  have C := Lib.hid ((range22 v cs 1 1601 _ (h.below hb) hm).mono fun e w' ⟨u, h1, h2, h3⟩ => (show ∃ u, e = Ending.returned (.tuple #[u, .int .i64 (listA cs).2]) ∧ Row w w' u (listA cs).1 ∧ Below w.heap.size w w' from ⟨u, h1, row_mono h2 (by omega), below_end hb h3⟩))
  obtain ⟨A, cap, rfl, -⟩ := h
  have c0 := (one_cell h0).1
  clear h0 hb hs
  unfold LiAns sv at *
  generalize listA cs = R at *
  obtain ⟨L, r⟩ := R
  dsimp only at *
  go_enter Try.func12, Try.ntmps12
  go_wp2_with (go_at_call 41; refine C.out.mono ?_; rintro e w1 ⟨u, rfl, ho, hb1⟩; have B1 := Lib.hid hb1; have O1 := Lib.hid ho; obtain ⟨A', c', rfl⟩ := own_form ho; clear hb1 ho)
  refine bodyPost_ret (v := .tuple #[.slice A' L.length c', .int .i64 r]) (by simp [results, Try.f12, go_sem]) rfl ⟨_, rfl, O1.out, B1.out⟩
set_option maxRecDepth 100000 in
set_option maxHeartbeats 1000000 in
theorem len15 (v : Value) (cs : List Int) (w : World) (h : IAt w v cs) (hm : cs.length ≤ 100000) :
    Calls Try.prog 13 #[sv v] w fun e w' => e = .returned (.tuple #[.int .i64 (lenA cs).1, .int .i64 (lenA cs).2]) ∧ Below w.heap.size w w' := by
  have h0 := heap_alloc_new w (.cells #[v] 26)
  have hb := alloc_below w (.cells #[v] 26)
  have hs : (w.alloc (.cells #[v] 26)).heap.size = w.heap.size + 1 := by simp
  have C := Lib.hid ((list20 v cs _ (h.below hb) hm).mono fun e w' ⟨u, h1, h2, h3⟩ => (show ∃ u, e = Ending.returned (.tuple #[u, .int .i64 (listA cs).2]) ∧ Row w w' u (listA cs).1 ∧ Below w.heap.size w w' from ⟨u, h1, row_mono h2 (by omega), below_end hb h3⟩))
  rw [len_range]
  change Calls Try.prog 13 #[sv v] w fun e w' => e = .returned (.tuple #[.int .i64 (((listA cs).1.length : Int)), .int .i64 (listA cs).2]) ∧ Below w.heap.size w w'
  obtain ⟨A, cap, rfl, -⟩ := h
  have c0 := (one_cell h0).1
  clear h0 hb hs
  unfold sv at *
  generalize listA cs = R at *
  obtain ⟨L, r⟩ := R
  dsimp only at *
  go_enter Try.func13, Try.ntmps13
  go_wp2_with (go_at_call 12; refine C.out.mono ?_; rintro e w1 ⟨u, rfl, ho, hb1⟩; have B1 := Lib.hid hb1; obtain ⟨A', c', rfl⟩ := own_form ho; clear hb1 ho)
  refine bodyPost_ret (v := .tuple #[.int .i64 L.length, .int .i64 r]) (by simp [results, Try.f13, go_sem]) rfl ⟨rfl, B1.out⟩
end Ytjkphacidpongaa
end Go.Proofs
