/- Check, open and openFor, the program's. -/
import Derived.Test.YtjkphacidpongaaSlK
namespace Go.Proofs
namespace Ytjkphacidpongaa
open Go.RowKit

theorem err_at {cs : List Int} (h : errI cs < cs.length) : cellErr cs (errI cs) ≠ 0 := by
  have := least_at (fun i => cellErr cs i != 0) cs.length 0 (by unfold errI at h; omega)
  unfold errI
  simpa using this
theorem cells_zero {cs : List Int} (h : (cellsF cs).2 = 0) : ¬ errI cs < cs.length := fun hn => by
  unfold cellsF at h
  rw [if_pos hn] at h
  exact err_at hn h
theorem cells_rng {cs : List Int} (h : ¬ errI cs < cs.length) : ∀ c ∈ cs, -1 ≤ c ∧ c ≤ 1600 := fun c hm => by
  obtain ⟨i, hi, rfl⟩ := mem_getD hm
  have := least_before (fun i => cellErr cs i != 0) cs.length 0 i (Nat.zero_le _) (by unfold errI at h; omega)
  have : cellErr cs i = 0 := by simpa using this
  rw [cellErr_eq] at this
  split at this
  · cases this
  · omega
theorem size_zero {n : Nat} (h : sizeE n = 0) : ¬ 8192 < n ∧ isPow n = true := by
  unfold sizeE at h
  split at h
  · cases h
  · rename_i h1
    split at h
    · rename_i h2; exact ⟨h1, h2⟩
    · cases h
theorem chk_1 {cs : List Int} (h : sizeE cs.length ≠ 0) : chkF cs = (-1, sizeE cs.length) := by
  unfold chkF sizeE at *
  split
  · rfl
  · rename_i h1
    rw [if_neg h1] at h
    by_cases h2 : isPow cs.length = true
    · rw [if_pos h2] at h; exact absurd rfl h
    · rw [if_neg h2, if_pos (by simpa using h2)]
theorem chk_2 {cs : List Int} (h : sizeE cs.length = 0) (h2 : (cellsF cs).2 ≠ 0) : chkF cs = cellsF cs := by
  obtain ⟨a, b⟩ := size_zero h
  unfold cellsF at h2 ⊢
  unfold chkF
  rw [if_neg a, if_neg (by simp [b])]
  split
  · rfl
  · rename_i h3; rw [if_neg h3] at h2; exact absurd rfl h2
theorem chk_3 {cs : List Int} (h : sizeE cs.length = 0) (h2 : (cellsF cs).2 = 0) (h3 : crowd cs = true) : chkF cs = (-1, 5) := by
  obtain ⟨a, b⟩ := size_zero h
  unfold chkF
  rw [if_neg a, if_neg (by simp [b]), if_neg (cells_zero h2), if_pos h3]
theorem chk_4 {cs : List Int} (h : sizeE cs.length = 0) (h2 : (cellsF cs).2 = 0) (h3 : crowd cs = false) : chkF cs = pathsF cs := by
  obtain ⟨a, b⟩ := size_zero h
  unfold chkF pathsF
  rw [if_neg a, if_neg (by simp [b]), if_neg (cells_zero h2), if_neg (by simp [h3])]
set_option maxRecDepth 100000 in
set_option maxHeartbeats 1000000 in
theorem check37 (v : Value) (cs : List Int) (w : World) (h : IAt w v cs) (hm : cs.length ≤ 100000) :
    Calls Try.prog 65 #[v] w fun e w' => e = .returned (.tuple #[.int .i64 (chkF cs).1, .int .i64 (chkF cs).2]) ∧ Below w.heap.size w w' := by
  have S := Lib.hid (csize54 cs.length (by omega) w)
  have C := Lib.hid (cells55 v cs w h hm)
  have K := Lib.hid (fun W (hb : Below w.heap.size w W) => crowded56 v cs W (h.below hb) hm)
  have P := Lib.hid (fun (hz : (0 : Int) ∈ cs) (hr : ∀ c ∈ cs, -1 ≤ c ∧ c ≤ 1600) W (hb : Below w.heap.size w W) => paths57 v cs W (h.below hb) hz hr hm)
  obtain ⟨A, cap, rfl, -⟩ := h
  obtain ⟨R, hR⟩ : ∃ R, chkF cs = R := ⟨_, rfl⟩
  rw [hR]
  have C1 := Lib.hid (fun h => hR.symm.trans (chk_1 (cs := cs) h))
  have C2 := Lib.hid (fun h h2 => hR.symm.trans (chk_2 (cs := cs) h h2))
  have C3 := Lib.hid (fun h h2 h3 => hR.symm.trans (chk_3 (cs := cs) h h2 h3))
  have C4 := Lib.hid (fun h h2 h3 => hR.symm.trans (chk_4 (cs := cs) h h2 h3))
  have Z := Lib.hid (fun (h : (cellsF cs).2 = 0) => cells_rng (cells_zero h))
  have Z0 := Lib.hid (fun (h : sizeE cs.length = 0) (h3 : crowd cs = false) => (show (0 : Int) ∈ cs from zero_of_used (by
    have a := pow_lo (size_zero h).2
    simp only [crowd, decide_eq_false_iff_not] at h3
    omega)))
  clear hR
  generalize cs.length = n at *
  generalize sizeE n = s at *
  by_cases hs : s = 0
  rotate_left
  · have q : (s != 0) = true := by simpa using hs
    have T := C1.out hs
    subst T
    clear hs
    go_enter Try.func65, Try.ntmps65
    go_wp2_with (go_at_call 83; refine S.out.mono ?_; rintro e w1 ⟨rfl, rfl⟩)
    refine bodyPost_ret (v := .tuple #[.int .i64 (-1), .int .i64 s]) (by simp [results, Try.f65, go_sem]) rfl ⟨rfl, Below.refl _ _⟩
  subst hs
  have C2 := Lib.hid (C2.out rfl)
  have C3 := Lib.hid (C3.out rfl)
  have C4 := Lib.hid (C4.out rfl)
  have Z0 := Lib.hid (Z0.out rfl)
  generalize cellsF cs = c at *
  obtain ⟨c1, c2⟩ := c
  dsimp only at *
  by_cases hc : c2 = 0
  rotate_left
  · have q : (c2 != 0) = true := by simpa using hc
    have T := C2.out hc
    subst T
    clear hc
    go_enter Try.func65, Try.ntmps65
    go_wp2_with (first | (go_at_call 83; refine S.out.mono ?_; rintro e w1 ⟨rfl, rfl⟩) | (go_at_call 84; refine C.out.mono ?_; rintro e w1 ⟨rfl, hb⟩; have B := Lib.hid hb; clear hb))
    refine bodyPost_ret (v := .tuple #[.int .i64 c1, .int .i64 c2]) (by simp [results, Try.f65, go_sem]) rfl ⟨rfl, B.out⟩
  subst hc
  cases hk : crowd cs with
  | true =>
    rw [hk] at K
    have T := C3.out rfl hk
    subst T
    clear hk
    go_enter Try.func65, Try.ntmps65
    go_wp2_with (first | (go_at_call 83; refine S.out.mono ?_; rintro e w1 ⟨rfl, rfl⟩) | (go_at_call 84; refine C.out.mono ?_; rintro e w1 ⟨rfl, hb⟩; have B := Lib.hid hb; clear hb) | (go_at_call 67; refine (K.out _ B.out).mono ?_; rintro e w2 ⟨rfl, rfl⟩))
    refine bodyPost_ret (v := .tuple #[.int .i64 (-1), .int .i64 5]) (by simp [results, Try.f65, go_sem]) rfl ⟨rfl, B.out⟩
  | false =>
    have T := C4.out rfl hk
    have P := Lib.hid (P.out (Z0.out hk) (Z.out rfl))
    rw [hk] at K
    rw [T]
    generalize pathsF cs = p at *
    obtain ⟨p1, p2⟩ := p
    clear hk T
    dsimp only at *
    go_enter Try.func65, Try.ntmps65
    go_wp2_with (first | (go_at_call 83; refine S.out.mono ?_; rintro e w1 ⟨rfl, rfl⟩) | (go_at_call 84; refine C.out.mono ?_; rintro e w1 ⟨rfl, hb⟩; have B := Lib.hid hb; clear hb) | (go_at_call 67; refine (K.out _ B.out).mono ?_; rintro e w2 ⟨rfl, rfl⟩) | (go_at_call 85; refine (P.out _ B.out).mono ?_; rintro e w3 ⟨rfl, hb3⟩; have B3 := Lib.hid (below_end B.out hb3); clear hb3))
    refine bodyPost_ret (v := .tuple #[.int .i64 p1, .int .i64 p2]) (by simp [results, Try.f65, go_sem]) rfl ⟨rfl, B3.out⟩
set_option maxRecDepth 100000 in
theorem check13 (v : Value) (cs : List Int) (w : World) (h : IAt w v cs) (hm : cs.length ≤ 100000) :
    Calls Try.prog 33 #[sv v] w fun e w' => e = .returned (.tuple #[.int .i64 (chkF cs).1, .int .i64 (chkF cs).2]) ∧ Below w.heap.size w w' := by
  have h0 := heap_alloc_new w (.cells #[v] 26)
  have hb := alloc_below w (.cells #[v] 26)
  have C := Lib.hid (check37 v cs _ (h.below hb) hm)
  obtain ⟨A, cap, rfl, -⟩ := h
  have c0 := (one_cell h0).1
  have B := Lib.hid hb
  clear h0 hb
  unfold sv
  generalize chkF cs = r at *
  obtain ⟨r1, r2⟩ := r
  dsimp only at *
  go_enter Try.func33, Try.ntmps33
  go_wp2_with (go_at_call 65; refine C.out.mono ?_; rintro e w1 ⟨rfl, hb1⟩; have B1 := Lib.hid (below_end B.out hb1); clear hb1)
  refine bodyPost_ret (v := .tuple #[.int .i64 r1, .int .i64 r2]) (by simp [results, Try.f33, go_sem]) rfl ⟨rfl, B1.out⟩
end Ytjkphacidpongaa
end Go.Proofs
