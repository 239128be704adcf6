/- New rows of zeros; a copy of an argument; set, clone, New. -/
import Derived.Test.YtjkphacidpongaaGreatG05
import Derived.Laws.CopyRow
import Derived.Laws.CopyOwn
namespace Go.Proofs
namespace YtjkphacidpongaaGreat
open Go.RowKit

theorem size3 : (Tryz.prog.info? 3).map (·.size) = some 1 := by kernel_rfl
theorem mk_int {T : TypeId} (hT : Tryz.prog.underlying T = some (.slice 3)) (n : Nat) (hn : n ≤ 100000) (W : World) : (Instr.makeSlice T (.int .i64 n) (.int .i64 n)).run Tryz.prog W = .ok (tv W.heap.size n) (W.alloc (.cells (ic (List.replicate n 0)).toArray 3)) := by
  obtain ⟨i0, hi, hz0, hz1, hz2⟩ := info_parts info3
  have h := run_makeSlice (P := Tryz.prog) W T 3 i0 (.int .i64 0) hT hi hz0 .i64 .i64 n n (by omega) (by omega) (by rw [hz1]; simp; omega) (by rw [hz2]; omega) (by omega)
  rw [hz1, Int.toNat_natCast] at h
  have e : (madeCells (Value.int .i64 0).cells (n * 1)).toList = ic (List.replicate n 0) := by
    rw [show (Value.int .i64 0).cells = #[.int .i64 0] from rfl, toList_madeCells_one, Nat.mul_one]; unfold ic; rw [List.map_replicate]
  have e' : madeCells (Value.int .i64 0).cells (n * 1) = (ic (List.replicate n 0)).toArray := by rw [← e, Array.toArray_toList]
  rw [e'] at h
  exact h
theorem made_at (W : World) (zs : List Int) : TAt (W.alloc (.cells (ic zs).toArray 3)) W.heap.size zs := heap_alloc_new W _
theorem grown_row (W : World) (g : Nat) (cs : Array Value) : W.grownBy (W.setRow g cs) (some g) :=
  ⟨rfl, rfl, rfl, by simp, fun k _ hk => setRow_other W g k cs (fun e => hk (by rw [e]))⟩
theorem copy_all {W : World} {g n cap : Nat} {A : Option Addr} {ws : List Int} {cur : List Int} (h : TAt W g cur) (hl : cur.length = ws.length) (hn : n = ws.length) (hv : IAt W (.slice A n cap) ws) (h1 : 0 < ws.length) :
    ∃ W', (Builtin.copy_ #[104, 104] 3 #[.slice (some ⟨g, 0, none⟩) n n, .slice A n cap]).run Tryz.prog W = .ok (.int .i64 n) W' ∧ TAt W' g ws ∧ W.grownBy W' (some g) ∧ W'.heap.size = W.heap.size := by
  subst hn
  obtain ⟨A', cap', e, hA⟩ := hv
  obtain ⟨b, off, rfl, hc⟩ := hA h1
  simp only [Value.slice.injEq] at e
  obtain ⟨rfl, _, rfl⟩ := e
  have hr := run_copy_row (P := Tryz.prog) W 104 104 3 3 g 0 ws.length ws.length ⟨b, off, none⟩ ws.length cap (ic cur).toArray 3 (ic ws) Tryz.underlying104 size3 h (by rw [ic_length]; exact (Nat.min_self _).symm)
    (fun j v hj => by
      have e : (⟨b, off, none⟩ : Addr).add j = ⟨b, off + j, none⟩ := by simp [Addr.add]
      have hjl : j < ws.length := by have := (List.getElem?_eq_some_iff.1 hj).1; rwa [ic_length] at this
      rw [ic_get ws j hjl] at hj
      cases hj
      rw [e]; exact hc j hjl)
    (by simp [ic_length, hl]) (ic_one ws)
  rw [ic_length] at hr
  refine ⟨_, hr, ?_, grown_row _ _ _, by simp⟩
  have := setRow_heap W g (ic cur).toArray ((ic cur).toArray.toList.take 0 ++ ic ws ++ (ic cur).toArray.toList.drop (0 + ws.length)).toArray 3 (0, 0) h
  unfold TAt
  rw [this]
  have hd : (ic cur).drop ws.length = [] := List.drop_of_length_le (by rw [ic_length, hl]; exact Nat.le_refl _)
  simp [hd]
set_option maxRecDepth 100000 in
set_option maxHeartbeats 1000000 in
theorem clone58 (v : Value) (cs : List Int) (w : World) (h : IAt w v cs) (h0 : 0 < cs.length) (hm : cs.length ≤ 100000) :
    Calls Tryz.prog 106 #[v] w fun e w' => e = .returned (tv w.heap.size cs.length) ∧ TAt w' w.heap.size cs ∧ Below w.heap.size w w' := by
  have hmk := mk_int Tryz.underlying104 cs.length hm w
  have hb0 := alloc_below w (.cells (ic (List.replicate cs.length 0)).toArray 3)
  have ht := made_at w (List.replicate cs.length 0)
  have hv := h.below hb0
  obtain ⟨A, cap, rfl, -⟩ := h
  obtain ⟨W', hcp, t1, t2, t3⟩ := copy_all ht (by simp) rfl hv h0
  have T1 := Lib.hid t1
  have B1 := Lib.hid (show Below w.heap.size w W' from hb0.grown t2 (by simp) (fun k e => by injection e with e; omega))
  unfold tv at *
  clear hb0 ht hv t1 t2 t3
  generalize w.alloc (.cells (ic (List.replicate cs.length 0)).toArray 3) = W0 at *
  go_enter Tryz.func106, Tryz.ntmps106
  go_wp2
  go_ret
  exact ⟨rfl, T1.out, B1.out⟩
/-- a set's value -/
def sv (v : Value) : Value := .agg #[v]
set_option maxRecDepth 100000 in
theorem set41 (A : Option Addr) (n c : Nat) (w : World) : Calls Tryz.prog 78 #[.slice A n c] w fun e w' => e = .returned (sv (.slice A n c)) ∧ Below w.heap.size w w' := by
  have c1 := (one_cell (heap_alloc_new w (.cells #[.slice A n c] 27))).1
  have B := Lib.hid (alloc_below w (.cells #[.slice A n c] 27))
  unfold sv
  go_enter Tryz.func78, Tryz.ntmps78
  go_wp2
  refine bodyPost_ret (v := .agg #[.slice A n c]) (by simp [results, Tryz.f78, go_sem, c1]) rfl ⟨rfl, B.out⟩
/-- what a function answers that makes a table of its own -/
def SAns (w : World) (zs : List Int) (v : Value) (w' : World) : Prop := ∃ g, v = sv (tv g zs.length) ∧ w.heap.size ≤ g ∧ TAt w' g zs ∧ Below w.heap.size w w'
set_option maxRecDepth 100000 in
set_option maxHeartbeats 1000000 in
theorem new18 (w : World) : Calls Tryz.prog 41 #[] w fun e w' => ∃ v, e = .returned v ∧ SAns w newF v w' := by
  have b0 := alloc_below w (.cells #[.slice none 0 0] 27)
  have h0 := heap_alloc_new w (.cells #[.slice none 0 0] 27)
  have hs : (w.alloc (.cells #[.slice none 0 0] 27)).heap.size = w.heap.size + 1 := by simp
  go_enter Tryz.func41, Tryz.ntmps41
  go_upto_region 1 with fail
  generalize w.alloc (.cells #[.slice none 0 0] 27) = W1 at *
  have hmk : (Instr.makeSlice 104 (.int .i64 8) (.int .i64 8)).run Tryz.prog W1 = .ok (.slice (some ⟨W1.heap.size, 0, none⟩) 8 8) (W1.alloc (.cells (ic newF).toArray 3)) := mk_int Tryz.underlying104 8 (by omega) W1
  have b1 := alloc_below W1 (.cells (ic newF).toArray 3)
  have t1 := made_at W1 newF
  have hs2 : (W1.alloc (.cells (ic newF).toArray 3)).heap.size = w.heap.size + 2 := by simp [hs]
  generalize W1.alloc (.cells (ic newF).toArray 3) = W2 at *
  have B1 := Lib.hid (below_end b0 b1)
  have H0 := Lib.hid (keep_heap b1 h0)
  have T1 := Lib.hid t1
  have S1 := Lib.hid hs
  clear b0 h0 b1 t1 hs hs2
  have S := Lib.hid (set41 (some ⟨W1.heap.size, 0, none⟩) 8 8 W2)
  go_wp2_with (go_at_call 78; refine S.out.mono ?_; rintro e w3 ⟨rfl, hb3⟩; unfold sv; have H3 := Lib.hid (keep_heap hb3 H0.out); have T3 := Lib.hid (T1.out.below hb3); have B3 := Lib.hid (below_end B1.out hb3); obtain ⟨c3, f3⟩ := one_cell H3.out; clear hb3)
  have c4 := (one_cell (set_row H3.out 0 (.slice (some ⟨W1.heap.size, 0, none⟩) 8 8))).1
  refine bodyPost_ret (v := .agg #[.slice (some ⟨W1.heap.size, 0, none⟩) 8 8]) (by simp [results, Tryz.f41, go_sem, c4]) rfl ⟨_, rfl, W1.heap.size, rfl, by rw [S1.out]; omega, ?_, B3.out.setCell (p := ⟨w.heap.size, 0, none⟩) (Nat.le_refl _) _⟩
  exact set_far _ (by rw [S1.out]; simp) T3.out
set_option maxRecDepth 100000 in
set_option maxHeartbeats 1000000 in
theorem rnew19 (w : World) : Calls Tryz.prog 43 #[] w fun e w' => ∃ v, e = .returned v ∧ SAns w newF v w' := by
  have b0 := alloc_below w (.cells #[.slice none 0 0] 27)
  have h0 := heap_alloc_new w (.cells #[.slice none 0 0] 27)
  have hs : (w.alloc (.cells #[.slice none 0 0] 27)).heap.size = w.heap.size + 1 := by simp
  go_enter Tryz.func43, Tryz.ntmps43
  go_upto_region 1 with fail
  generalize w.alloc (.cells #[.slice none 0 0] 27) = W1 at *
  have hmk : (Instr.makeSlice 25 (.int .i64 8) (.int .i64 8)).run Tryz.prog W1 = .ok (.slice (some ⟨W1.heap.size, 0, none⟩) 8 8) (W1.alloc (.cells (ic newF).toArray 3)) := mk_int Tryz.underlying25 8 (by omega) W1
  have b1 := alloc_below W1 (.cells (ic newF).toArray 3)
  have t1 := made_at W1 newF
  generalize W1.alloc (.cells (ic newF).toArray 3) = W2 at *
  have B1 := Lib.hid (below_end b0 b1)
  have H0 := Lib.hid (keep_heap b1 h0)
  have T1 := Lib.hid t1
  have S1 := Lib.hid hs
  clear b0 h0 b1 t1 hs
  obtain ⟨c3, f3⟩ := one_cell H0.out
  go_wp2
  have c4 := (one_cell (set_row H0.out 0 (.slice (some ⟨W1.heap.size, 0, none⟩) 8 8))).1
  refine bodyPost_ret (v := .agg #[.slice (some ⟨W1.heap.size, 0, none⟩) 8 8]) (by simp [results, Tryz.f43, go_sem, c4]) rfl ⟨_, rfl, W1.heap.size, rfl, by rw [S1.out]; omega, ?_, B1.out.setCell (p := ⟨w.heap.size, 0, none⟩) (Nat.le_refl _) _⟩
  exact set_far _ (by rw [S1.out]; simp) T1.out
end YtjkphacidpongaaGreat
end Go.Proofs
/- Check, open and openFor, the program's. -/
namespace Go.Proofs
namespace YtjkphacidpongaaGreat
open Go.RowKit

theorem err_at {cs : List Int} (h : errI cs < cs.length) : cellErr cs (errI cs) ≠ 0 := by
  have := least_at (fun i => cellErr cs i != 0) cs.length 0 (by unfold errI at h; omega)
  unfold errI
  simpa using this
theorem cells_zero {cs : List Int} (h : (cellsF cs).2 = 0) : ¬ errI cs < cs.length := fun hn => by
  unfold cellsF at h
  rw [if_pos hn] at h
  exact err_at hn h
theorem cells_rng {cs : List Int} (h : ¬ errI cs < cs.length) : ∀ c ∈ cs, -1 ≤ c ∧ c ≤ 1600 := fun c hm => by
  obtain ⟨i, hi, rfl⟩ := mem_getD hm
  have := least_before (fun i => cellErr cs i != 0) cs.length 0 i (Nat.zero_le _) (by unfold errI at h; omega)
  have : cellErr cs i = 0 := by simpa using this
  rw [cellErr_eq] at this
  split at this
  · cases this
  · omega
theorem size_zero {n : Nat} (h : sizeE n = 0) : ¬ 8192 < n ∧ isPow n = true := by
  unfold sizeE at h
  split at h
  · cases h
  · rename_i h1
    split at h
    · rename_i h2; exact ⟨h1, h2⟩
    · cases h
theorem chk_1 {cs : List Int} (h : sizeE cs.length ≠ 0) : chkF cs = (-1, sizeE cs.length) := by
  unfold chkF sizeE at *
  split
  · rfl
  · rename_i h1
    rw [if_neg h1] at h
    by_cases h2 : isPow cs.length = true
    · rw [if_pos h2] at h; exact absurd rfl h
    · rw [if_neg h2, if_pos (by simpa using h2)]
theorem chk_2 {cs : List Int} (h : sizeE cs.length = 0) (h2 : (cellsF cs).2 ≠ 0) : chkF cs = cellsF cs := by
  obtain ⟨a, b⟩ := size_zero h
  unfold cellsF at h2 ⊢
  unfold chkF
  rw [if_neg a, if_neg (by simp [b])]
  split
  · rfl
  · rename_i h3; rw [if_neg h3] at h2; exact absurd rfl h2
theorem chk_3 {cs : List Int} (h : sizeE cs.length = 0) (h2 : (cellsF cs).2 = 0) (h3 : crowd cs = true) : chkF cs = (-1, 5) := by
  obtain ⟨a, b⟩ := size_zero h
  unfold chkF
  rw [if_neg a, if_neg (by simp [b]), if_neg (cells_zero h2), if_pos h3]
theorem chk_4 {cs : List Int} (h : sizeE cs.length = 0) (h2 : (cellsF cs).2 = 0) (h3 : crowd cs = false) : chkF cs = pathsF cs := by
  obtain ⟨a, b⟩ := size_zero h
  unfold chkF pathsF
  rw [if_neg a, if_neg (by simp [b]), if_neg (cells_zero h2), if_neg (by simp [h3])]
set_option maxRecDepth 100000 in
set_option maxHeartbeats 1000000 in
theorem check37 (v : Value) (cs : List Int) (w : World) (h : IAt w v cs) (hm : cs.length ≤ 100000) :
    Calls Tryz.prog 128 #[v] w fun e w' => e = .returned (.tuple #[.int .i64 (chkF cs).1, .int .i64 (chkF cs).2]) ∧ Below w.heap.size w w' := by
  have S := Lib.hid (csize54 cs.length (by omega) w)
  have C := Lib.hid (cells55 v cs w h hm)
  have K := Lib.hid (fun W (hb : Below w.heap.size w W) => crowded56 v cs W (h.below hb) hm)
  have P := Lib.hid (fun (hz : (0 : Int) ∈ cs) (hr : ∀ c ∈ cs, -1 ≤ c ∧ c ≤ 1600) W (hb : Below w.heap.size w W) => paths57 v cs W (h.below hb) hz hr hm)
  obtain ⟨A, cap, rfl, -⟩ := h
  obtain ⟨R, hR⟩ : ∃ R, chkF cs = R := ⟨_, rfl⟩
  rw [hR]
  have C1 := Lib.hid (fun h => hR.symm.trans (chk_1 (cs := cs) h))
  have C2 := Lib.hid (fun h h2 => hR.symm.trans (chk_2 (cs := cs) h h2))
  have C3 := Lib.hid (fun h h2 h3 => hR.symm.trans (chk_3 (cs := cs) h h2 h3))
  have C4 := Lib.hid (fun h h2 h3 => hR.symm.trans (chk_4 (cs := cs) h h2 h3))
  have Z := Lib.hid (fun (h : (cellsF cs).2 = 0) => cells_rng (cells_zero h))
  have Z0 := Lib.hid (fun (h : sizeE cs.length = 0) (h3 : crowd cs = false) => (show (0 : Int) ∈ cs from zero_of_used (by
    have a := pow_lo (size_zero h).2
    simp only [crowd, decide_eq_false_iff_not] at h3
    omega)))
  clear hR
  generalize cs.length = n at *
  generalize sizeE n = s at *
  by_cases hs : s = 0
  rotate_left
  · have q : (s != 0) = true := by simpa using hs
    have T := C1.out hs
    subst T
    clear hs
    go_enter Tryz.func128, Tryz.ntmps128
    go_wp2_with (go_at_call 138; refine S.out.mono ?_; rintro e w1 ⟨rfl, rfl⟩)
    refine bodyPost_ret (v := .tuple #[.int .i64 (-1), .int .i64 s]) (by simp [results, Tryz.f128, go_sem]) rfl ⟨rfl, Below.refl _ _⟩
  subst hs
  have C2 := Lib.hid (C2.out rfl)
  have C3 := Lib.hid (C3.out rfl)
  have C4 := Lib.hid (C4.out rfl)
  have Z0 := Lib.hid (Z0.out rfl)
  generalize cellsF cs = c at *
  obtain ⟨c1, c2⟩ := c
  dsimp only at *
  by_cases hc : c2 = 0
  rotate_left
  · have q : (c2 != 0) = true := by simpa using hc
    have T := C2.out hc
    subst T
    clear hc
    go_enter Tryz.func128, Tryz.ntmps128
    go_wp2_with (first | (go_at_call 138; refine S.out.mono ?_; rintro e w1 ⟨rfl, rfl⟩) | (go_at_call 139; refine C.out.mono ?_; rintro e w1 ⟨rfl, hb⟩; have B := Lib.hid hb; clear hb))
    refine bodyPost_ret (v := .tuple #[.int .i64 c1, .int .i64 c2]) (by simp [results, Tryz.f128, go_sem]) rfl ⟨rfl, B.out⟩
  subst hc
  cases hk : crowd cs with
  | true =>
    rw [hk] at K
    have T := C3.out rfl hk
    subst T
    clear hk
    go_enter Tryz.func128, Tryz.ntmps128
    go_wp2_with (first | (go_at_call 138; refine S.out.mono ?_; rintro e w1 ⟨rfl, rfl⟩) | (go_at_call 139; refine C.out.mono ?_; rintro e w1 ⟨rfl, hb⟩; have B := Lib.hid hb; clear hb) | (go_at_call 126; refine (K.out _ B.out).mono ?_; rintro e w2 ⟨rfl, rfl⟩))
    refine bodyPost_ret (v := .tuple #[.int .i64 (-1), .int .i64 5]) (by simp [results, Tryz.f128, go_sem]) rfl ⟨rfl, B.out⟩
  | false =>
    have T := C4.out rfl hk
    have P := Lib.hid (P.out (Z0.out hk) (Z.out rfl))
    rw [hk] at K
    rw [T]
    generalize pathsF cs = p at *
    obtain ⟨p1, p2⟩ := p
    clear hk T
    dsimp only at *
    go_enter Tryz.func128, Tryz.ntmps128
    go_wp2_with (first | (go_at_call 138; refine S.out.mono ?_; rintro e w1 ⟨rfl, rfl⟩) | (go_at_call 139; refine C.out.mono ?_; rintro e w1 ⟨rfl, hb⟩; have B := Lib.hid hb; clear hb) | (go_at_call 126; refine (K.out _ B.out).mono ?_; rintro e w2 ⟨rfl, rfl⟩) | (go_at_call 140; refine (P.out _ B.out).mono ?_; rintro e w3 ⟨rfl, hb3⟩; have B3 := Lib.hid (below_end B.out hb3); clear hb3))
    refine bodyPost_ret (v := .tuple #[.int .i64 p1, .int .i64 p2]) (by simp [results, Tryz.f128, go_sem]) rfl ⟨rfl, B3.out⟩
set_option maxRecDepth 100000 in
theorem check13 (v : Value) (cs : List Int) (w : World) (h : IAt w v cs) (hm : cs.length ≤ 100000) :
    Calls Tryz.prog 105 #[sv v] w fun e w' => e = .returned (.tuple #[.int .i64 (chkF cs).1, .int .i64 (chkF cs).2]) ∧ Below w.heap.size w w' := by
  have h0 := heap_alloc_new w (.cells #[v] 27)
  have hb := alloc_below w (.cells #[v] 27)
  have C := Lib.hid (check37 v cs _ (h.below hb) hm)
  obtain ⟨A, cap, rfl, -⟩ := h
  have c0 := (one_cell h0).1
  have B := Lib.hid hb
  clear h0 hb
  unfold sv
  generalize chkF cs = r at *
  obtain ⟨r1, r2⟩ := r
  dsimp only at *
  go_enter Tryz.func105, Tryz.ntmps105
  go_wp2_with (go_at_call 128; refine C.out.mono ?_; rintro e w1 ⟨rfl, hb1⟩; have B1 := Lib.hid (below_end B.out hb1); clear hb1)
  refine bodyPost_ret (v := .tuple #[.int .i64 r1, .int .i64 r2]) (by simp [results, Tryz.f105, go_sem]) rfl ⟨rfl, B1.out⟩
end YtjkphacidpongaaGreat
end Go.Proofs
/- open and openFor. -/
namespace Go.Proofs
namespace YtjkphacidpongaaGreat
open Go.RowKit

/-- what open answers: a table of the call's own, or an error -/
def OAns (w : World) (cs : List Int) (c : Int) (e : Ending) (w' : World) : Prop :=
  (c = 0 ∧ ∃ g, e = .returned (.tuple #[tv g cs.length, .int .i64 0]) ∧ w.heap.size ≤ g ∧ TAt w' g cs ∨ c ≠ 0 ∧ e = .returned (.tuple #[.slice none 0 0, .int .i64 c])) ∧ Below w.heap.size w w'
set_option maxRecDepth 100000 in
set_option maxHeartbeats 1000000 in
theorem open42_ok (v : Value) (cs : List Int) (w : World) (h : IAt w v cs) (hm : cs.length ≤ 100000) (hg : Good cs) :
    Calls Tryz.prog 91 #[sv v] w fun e w' => ∃ g, e = .returned (.tuple #[tv g cs.length, .int .i64 0]) ∧ w.heap.size ≤ g ∧ TAt w' g cs ∧ Below w.heap.size w w' := by
  have h0 := heap_alloc_new w (.cells #[v] 27)
  have hb := alloc_below w (.cells #[v] 27)
  have C := Lib.hid (check13 v cs _ (h.below hb) hm)
  rw [chk_of_good hg] at C
  have hl := hg.tab.lo
  have CL := Lib.hid (fun W (hb : Below w.heap.size w W) => clone58 v cs W (h.below hb) (by omega) hm)
  obtain ⟨A, cap, rfl, -⟩ := h
  have c0 := (one_cell h0).1
  have B := Lib.hid hb
  have H0 := Lib.hid h0
  clear h0 hb hg hl
  unfold sv tv at *
  generalize cs.length = n at *
  dsimp only at *
  go_enter Tryz.func91, Tryz.ntmps91
  go_wp2_with (first | (go_at_call 105; refine C.out.mono ?_; rintro e w1 ⟨rfl, hb1⟩; have B1 := Lib.hid (below_end B.out hb1); have c1 := (one_cell (keep_heap hb1 H0.out)).1; clear hb1) | (go_at_call 106; refine (CL.out _ B1.out).mono ?_; rintro e w2 ⟨rfl, ht, hb2⟩; have B2 := Lib.hid (below_end B1.out hb2); have T2 := Lib.hid ht; clear hb2 ht))
  refine bodyPost_ret (v := .tuple #[.slice (some ⟨w1.heap.size, 0, none⟩) n n, .int .i64 0]) (by simp [results, Tryz.f91, go_sem]) rfl ⟨_, rfl, B1.out.size, T2.out, B2.out⟩
set_option maxRecDepth 100000 in
set_option maxHeartbeats 1000000 in
theorem open42_err (v : Value) (cs : List Int) (w : World) (h : IAt w v cs) (hm : cs.length ≤ 100000) (hg : (chkF cs).2 ≠ 0) :
    Calls Tryz.prog 91 #[sv v] w fun e w' => e = .returned (.tuple #[.slice none 0 0, .int .i64 (chkF cs).2]) ∧ Below w.heap.size w w' := by
  have h0 := heap_alloc_new w (.cells #[v] 27)
  have hb := alloc_below w (.cells #[v] 27)
  have C := Lib.hid (check13 v cs _ (h.below hb) hm)
  obtain ⟨A, cap, rfl, -⟩ := h
  have c0 := (one_cell h0).1
  have B := Lib.hid hb
  clear h0 hb
  unfold sv at *
  generalize cs.length = n at *
  generalize chkF cs = r at *
  obtain ⟨r1, r2⟩ := r
  dsimp only at *
  have q : (r2 != 0) = true := by simpa using hg
  clear hg
  go_enter Tryz.func91, Tryz.ntmps91
  go_wp2_with (go_at_call 105; refine C.out.mono ?_; rintro e w1 ⟨rfl, hb1⟩; have B1 := Lib.hid (below_end B.out hb1); clear hb1)
  refine bodyPost_ret (v := .tuple #[.slice none 0 0, .int .i64 r2]) (by simp [results, Tryz.f91, go_sem]) rfl ⟨rfl, B1.out⟩
/-- the error of a table and a number -/
def askE (cs : List Int) (a : Int) : Int := if (chkF cs).2 ≠ 0 then (chkF cs).2 else if isA a = true then 0 else 7
theorem ask_zero {cs : List Int} {a : Int} (h : askE cs a = 0) : Good cs ∧ 1 ≤ a ∧ a ≤ 1600 := by
  unfold askE at h
  split at h
  · contradiction
  · rename_i h1
    split at h
    · rename_i h2; exact ⟨good_of_chk (by simpa using h1), isA_iff.1 h2⟩
    · cases h
set_option maxRecDepth 100000 in
set_option maxHeartbeats 1000000 in
theorem openFor45_ok (v : Value) (cs : List Int) (a : Int) (w : World) (h : IAt w v cs) (hm : cs.length ≤ 100000) (hg : askE cs a = 0) :
    Calls Tryz.prog 102 #[sv v, .int .i64 a] w fun e w' => ∃ g, e = .returned (.tuple #[tv g cs.length, .int .i64 0]) ∧ w.heap.size ≤ g ∧ TAt w' g cs ∧ Below w.heap.size w w' := by
  obtain ⟨hG, ha⟩ := ask_zero hg
  have h0 := heap_alloc_new w (.cells #[v] 27)
  have hb := alloc_below w (.cells #[v] 27)
  have C := Lib.hid (open42_ok v cs _ (h.below hb) hm hG)
  have AD := Lib.hid (fun W => isaddr51 a W)
  rw [isA_iff.2 ha] at AD
  obtain ⟨A, cap, rfl, -⟩ := h
  have c0 := (one_cell h0).1
  have B := Lib.hid hb
  have hs : (w.alloc (.cells #[.slice A cs.length cap] 27)).heap.size = w.heap.size + 1 := by simp
  rw [hs] at C
  clear h0 hb hG hg hs
  unfold sv tv at *
  generalize cs.length = n at *
  go_enter Tryz.func102, Tryz.ntmps102
  go_wp2_with (first | (go_at_call 91; refine C.out.mono ?_; rintro e w1 ⟨g, rfl, hgs, ht, hb1⟩; have B1 := Lib.hid (B.out.trans (hb1.mono (by omega))); have T1 := Lib.hid ht; have G1 := Lib.hid hgs; clear hb1 ht hgs) | (go_at_call 107; refine (AD.out _).mono ?_; rintro e w2 ⟨rfl, rfl⟩))
  refine bodyPost_ret (v := .tuple #[.slice (some ⟨g, 0, none⟩) n n, .int .i64 0]) (by simp [results, Tryz.f102, go_sem]) rfl ⟨g, rfl, by have := G1.out; omega, T1.out, B1.out⟩
set_option maxRecDepth 100000 in
set_option maxHeartbeats 1000000 in
theorem openFor45_err (v : Value) (cs : List Int) (a : Int) (w : World) (h : IAt w v cs) (hm : cs.length ≤ 100000) (hg : askE cs a ≠ 0) :
    Calls Tryz.prog 102 #[sv v, .int .i64 a] w fun e w' => e = .returned (.tuple #[.slice none 0 0, .int .i64 (askE cs a)]) ∧ Below w.heap.size w w' := by
  have h0 := heap_alloc_new w (.cells #[v] 27)
  have hb := alloc_below w (.cells #[v] 27)
  have hIA := h.below hb
  have hs : (w.alloc (.cells #[v] 27)).heap.size = w.heap.size + 1 := by simp
  by_cases h1 : (chkF cs).2 = 0
  · have hG := good_of_chk h1
    have C := Lib.hid (open42_ok v cs _ hIA hm hG)
    have AD := Lib.hid (fun W => isaddr51 a W)
    have e7 : askE cs a = 7 ∧ isA a = false := by
      unfold askE at hg ⊢
      rw [if_neg (by simp [h1])] at hg ⊢
      cases hi : isA a with
      | true => rw [hi] at hg; exact absurd rfl hg
      | false => exact ⟨rfl, rfl⟩
    rw [e7.1]
    rw [e7.2] at AD
    obtain ⟨A, cap, rfl, -⟩ := h
    have c0 := (one_cell h0).1
    have B := Lib.hid hb
    rw [hs] at C
    clear h0 hb hG hg hs e7 h1 hIA
    unfold sv tv at *
    generalize cs.length = n at *
    go_enter Tryz.func102, Tryz.ntmps102
    go_wp2_with (first | (go_at_call 91; refine C.out.mono ?_; rintro e w1 ⟨g, rfl, hgs, ht, hb1⟩; have B1 := Lib.hid (B.out.trans (hb1.mono (by omega))); clear hb1 ht hgs) | (go_at_call 107; refine (AD.out _).mono ?_; rintro e w2 ⟨rfl, rfl⟩))
    refine bodyPost_ret (v := .tuple #[.slice none 0 0, .int .i64 7]) (by simp [results, Tryz.f102, go_sem]) rfl ⟨rfl, B1.out⟩
  · have C := Lib.hid (open42_err v cs _ hIA hm h1)
    have e7 : askE cs a = (chkF cs).2 := by unfold askE; rw [if_pos h1]
    rw [e7]
    obtain ⟨A, cap, rfl, -⟩ := h
    have c0 := (one_cell h0).1
    have B := Lib.hid hb
    rw [hs] at C
    clear h0 hb hg hs e7 hIA
    unfold sv at *
    generalize cs.length = n at *
    generalize (chkF cs).2 = r at *
    have q : (r != 0) = true := by simpa using h1
    clear h1
    go_enter Tryz.func102, Tryz.ntmps102
    go_wp2_with (go_at_call 91; refine C.out.mono ?_; rintro e w1 ⟨rfl, hb1⟩; have B1 := Lib.hid (B.out.trans (hb1.mono (by omega))); clear hb1)
    refine bodyPost_ret (v := .tuple #[.slice none 0 0, .int .i64 r]) (by simp [results, Tryz.f102, go_sem]) rfl ⟨rfl, B1.out⟩
end YtjkphacidpongaaGreat
end Go.Proofs
