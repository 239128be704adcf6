/- New rows of zeros; a copy of an argument; set, clone, New. -/
import Derived.Test.YtjkphacidpongaaSlJ
import Derived.Laws.CopyRow
import Derived.Laws.CopyOwn
namespace Go.Proofs
namespace Ytjkphacidpongaa
open Go.RowKit

theorem size3 : (Try.prog.info? 3).map (·.size) = some 1 := by kernel_rfl
theorem mk_int {T : TypeId} (hT : Try.prog.underlying T = some (.slice 3)) (n : Nat) (hn : n ≤ 100000) (W : World) : (Instr.makeSlice T (.int .i64 n) (.int .i64 n)).run Try.prog W = .ok (tv W.heap.size n) (W.alloc (.cells (ic (List.replicate n 0)).toArray 3)) := by
  obtain ⟨i0, hi, hz0, hz1, hz2⟩ := info_parts info3
  have h := run_makeSlice (P := Try.prog) W T 3 i0 (.int .i64 0) hT hi hz0 .i64 .i64 n n (by omega) (by omega) (by rw [hz1]; simp; omega) (by rw [hz2]; omega) (by omega)
  rw [hz1, Int.toNat_natCast] at h
  have e : (madeCells (Value.int .i64 0).cells (n * 1)).toList = ic (List.replicate n 0) := by
    rw [show (Value.int .i64 0).cells = #[.int .i64 0] from rfl, toList_madeCells_one, Nat.mul_one]; unfold ic; rw [List.map_replicate]
  have e' : madeCells (Value.int .i64 0).cells (n * 1) = (ic (List.replicate n 0)).toArray := by rw [← e, Array.toArray_toList]
  rw [e'] at h
  exact h
theorem made_at (W : World) (zs : List Int) : TAt (W.alloc (.cells (ic zs).toArray 3)) W.heap.size zs := heap_alloc_new W _
theorem grown_row (W : World) (g : Nat) (cs : Array Value) : W.grownBy (W.setRow g cs) (some g) :=
  ⟨rfl, rfl, rfl, by simp, fun k _ hk => setRow_other W g k cs (fun e => hk (by rw [e]))⟩
theorem copy_all {W : World} {g n cap : Nat} {A : Option Addr} {ws : List Int} {cur : List Int} (h : TAt W g cur) (hl : cur.length = ws.length) (hn : n = ws.length) (hv : IAt W (.slice A n cap) ws) (h1 : 0 < ws.length) :
    ∃ W', (Builtin.copy_ #[71, 71] 3 #[.slice (some ⟨g, 0, none⟩) n n, .slice A n cap]).run Try.prog W = .ok (.int .i64 n) W' ∧ TAt W' g ws ∧ W.grownBy W' (some g) ∧ W'.heap.size = W.heap.size := by
  subst hn
  obtain ⟨A', cap', e, hA⟩ := hv
  obtain ⟨b, off, rfl, hc⟩ := hA h1
  simp only [Value.slice.injEq] at e
  obtain ⟨rfl, _, rfl⟩ := e
  have hr := run_copy_row (P := Try.prog) W 71 71 3 3 g 0 ws.length ws.length ⟨b, off, none⟩ ws.length cap (ic cur).toArray 3 (ic ws) Try.underlying71 size3 h (by rw [ic_length]; exact (Nat.min_self _).symm)
    (fun j v hj => by
      have e : (⟨b, off, none⟩ : Addr).add j = ⟨b, off + j, none⟩ := by simp [Addr.add]
      have hjl : j < ws.length := by have := (List.getElem?_eq_some_iff.1 hj).1; rwa [ic_length] at this
      rw [ic_get ws j hjl] at hj
      cases hj
      rw [e]; exact hc j hjl)
    (by simp [ic_length, hl]) (ic_one ws)
  rw [ic_length] at hr
  refine ⟨_, hr, ?_, grown_row _ _ _, by simp⟩
  have := setRow_heap W g (ic cur).toArray ((ic cur).toArray.toList.take 0 ++ ic ws ++ (ic cur).toArray.toList.drop (0 + ws.length)).toArray 3 (0, 0) h
  unfold TAt
  rw [this]
  have hd : (ic cur).drop ws.length = [] := List.drop_of_length_le (by rw [ic_length, hl]; exact Nat.le_refl _)
  simp [hd]
set_option maxRecDepth 100000 in
set_option maxHeartbeats 1000000 in
theorem clone58 (v : Value) (cs : List Int) (w : World) (h : IAt w v cs) (h0 : 0 < cs.length) (hm : cs.length ≤ 100000) :
    Calls Try.prog 86 #[v] w fun e w' => e = .returned (tv w.heap.size cs.length) ∧ TAt w' w.heap.size cs ∧ Below w.heap.size w w' := by
  have hmk := mk_int Try.underlying71 cs.length hm w
  have hb0 := alloc_below w (.cells (ic (List.replicate cs.length 0)).toArray 3)
  have ht := made_at w (List.replicate cs.length 0)
  have hv := h.below hb0
  obtain ⟨A, cap, rfl, -⟩ := h
  obtain ⟨W', hcp, t1, t2, t3⟩ := copy_all ht (by simp) rfl hv h0
  have T1 := Lib.hid t1
  have B1 := Lib.hid (show Below w.heap.size w W' from hb0.grown t2 (by simp) (fun k e => by injection e with e; omega))
  unfold tv at *
  clear hb0 ht hv t1 t2 t3
  generalize w.alloc (.cells (ic (List.replicate cs.length 0)).toArray 3) = W0 at *
  go_enter Try.func86, Try.ntmps86
  go_wp2
  go_ret
  exact ⟨rfl, T1.out, B1.out⟩
/-- a set's value -/
def sv (v : Value) : Value := .agg #[v]
set_option maxRecDepth 100000 in
theorem set41 (A : Option Addr) (n c : Nat) (w : World) : Calls Try.prog 34 #[.slice A n c] w fun e w' => e = .returned (sv (.slice A n c)) ∧ Below w.heap.size w w' := by
  have c1 := (one_cell (heap_alloc_new w (.cells #[.slice A n c] 26))).1
  have B := Lib.hid (alloc_below w (.cells #[.slice A n c] 26))
  unfold sv
  go_enter Try.func34, Try.ntmps34
  go_wp2
  refine bodyPost_ret (v := .agg #[.slice A n c]) (by simp [results, Try.f34, go_sem, c1]) rfl ⟨rfl, B.out⟩
/-- what a function answers that makes a table of its own -/
def SAns (w : World) (zs : List Int) (v : Value) (w' : World) : Prop := ∃ g, v = sv (tv g zs.length) ∧ w.heap.size ≤ g ∧ TAt w' g zs ∧ Below w.heap.size w w'
set_option maxRecDepth 100000 in
set_option maxHeartbeats 1000000 in
theorem new18 (w : World) : Calls Try.prog 8 #[] w fun e w' => ∃ v, e = .returned v ∧ SAns w newF v w' := by
  have b0 := alloc_below w (.cells #[.slice none 0 0] 26)
  have h0 := heap_alloc_new w (.cells #[.slice none 0 0] 26)
  have hs : (w.alloc (.cells #[.slice none 0 0] 26)).heap.size = w.heap.size + 1 := by simp
  go_enter Try.func8, Try.ntmps8
  go_upto_region 1 with fail
  generalize w.alloc (.cells #[.slice none 0 0] 26) = W1 at *
  have hmk : (Instr.makeSlice 71 (.int .i64 8) (.int .i64 8)).run Try.prog W1 = .ok (.slice (some ⟨W1.heap.size, 0, none⟩) 8 8) (W1.alloc (.cells (ic newF).toArray 3)) := mk_int Try.underlying71 8 (by omega) W1
  have b1 := alloc_below W1 (.cells (ic newF).toArray 3)
  have t1 := made_at W1 newF
  have hs2 : (W1.alloc (.cells (ic newF).toArray 3)).heap.size = w.heap.size + 2 := by simp [hs]
  generalize W1.alloc (.cells (ic newF).toArray 3) = W2 at *
  have B1 := Lib.hid (below_end b0 b1)
  have H0 := Lib.hid (keep_heap b1 h0)
  have T1 := Lib.hid t1
  have S1 := Lib.hid hs
  clear b0 h0 b1 t1 hs hs2
  have S := Lib.hid (set41 (some ⟨W1.heap.size, 0, none⟩) 8 8 W2)
  go_wp2_with (go_at_call 34; refine S.out.mono ?_; rintro e w3 ⟨rfl, hb3⟩; unfold sv; have H3 := Lib.hid (keep_heap hb3 H0.out); have T3 := Lib.hid (T1.out.below hb3); have B3 := Lib.hid (below_end B1.out hb3); obtain ⟨c3, f3⟩ := one_cell H3.out; clear hb3)
  have c4 := (one_cell (set_row H3.out 0 (.slice (some ⟨W1.heap.size, 0, none⟩) 8 8))).1
  refine bodyPost_ret (v := .agg #[.slice (some ⟨W1.heap.size, 0, none⟩) 8 8]) (by simp [results, Try.f8, go_sem, c4]) rfl ⟨_, rfl, W1.heap.size, rfl, by rw [S1.out]; omega, ?_, B3.out.setCell (p := ⟨w.heap.size, 0, none⟩) (Nat.le_refl _) _⟩
  exact set_far _ (by rw [S1.out]; simp) T3.out
end Ytjkphacidpongaa
end Go.Proofs
