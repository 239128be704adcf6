/- The reference's Pointer, Raw, SetPointer and SetRaw. -/
import Derived.Test.YtmgoonahpndfoaaObR
namespace Go.Proofs
namespace Ytmgoonahpndfoaa
open Go.RowKit

/-- a word of the arena, in a later world -/
theorem word_at {w : World} {A : Option Addr} {ws : List Int} {cap i : Nat} (h : WAt w (.slice A ws.length cap) ws) (hi : i < ws.length) :
    ∃ b off, A = some ⟨b, off, none⟩ ∧ ∀ W, Below w.heap.size w W → W.cell? ⟨b, off + i, none⟩ = some (.int .u64 (ws.getD i 0)) := by
  obtain ⟨A', cap', e, hA⟩ := h
  simp only [Value.slice.injEq] at e
  obtain ⟨rfl, _, rfl⟩ := e
  obtain ⟨b, off, rfl, hc⟩ := hA (by omega)
  have hd := hc i _ (wc_get ws i hi)
  exact ⟨b, off, rfl, fun W hb => (hb.cell (p := ⟨b, off + i, none⟩) (cell_lt hd)).trans hd⟩
theorem get_nat {ws : List Int} (hu : ∀ z ∈ ws, Hd.UI z) (i : Nat) : Hd.UI (ws.getD i 0) := by
  rw [List.getD_eq_getElem?_getD]
  cases hh : ws[i]? with
  | none => exact ⟨by decide, by decide⟩
  | some z => exact hu z (List.mem_of_getElem? hh)
/-- the reference's Shape, called -/
def Shp (w : World) (v : Value) (a P R E : Int) : Prop := Calls Try.prog 16 #[v, .int .i64 a] w fun e w' => e = .returned (.tuple #[.agg #[.int .i64 P, .int .i64 R], .int .i64 E]) ∧ Below w.heap.size w w'
set_option maxRecDepth 100000 in
set_option maxHeartbeats 400000 in
theorem rpointer23_err (A : Option Addr) (n cap : Nat) (a E : Int) (f : Int) (w : World) (hE : E ≠ 0) (F : Hid (Shp w (.slice A n cap) a 0 0 E)) :
    Calls Try.prog 23 #[.slice A n cap, .int .i64 a, .int .i64 f] w fun e w' => e = .returned (.tuple #[.int .i64 0, .int .i64 E]) ∧ Below w.heap.size w w' := by
  unfold Shp at F
  have q : (E != 0) = true := by simpa using hE
  have q2 : (E == 0) = false := by simpa using hE
  clear hE
  go_enter Try.func23, Try.ntmps23
  go_wp2_with (go_at_call 16; refine F.out.mono ?_; rintro e w1 ⟨rfl, hb1⟩)
  exact bodyPost_ret (v := .tuple #[.int .i64 0, .int .i64 E]) (by simp [results, Try.f23, go_sem]) rfl ⟨rfl, hb1.alloc hb1.size _⟩
set_option maxRecDepth 100000 in
set_option maxHeartbeats 400000 in
theorem rpointer23_lo (A : Option Addr) (n cap P R : Nat) (a : Int) (f : Int) (w : World) (hf : f < 0) (F : Hid (Shp w (.slice A n cap) a P R 0)) :
    Calls Try.prog 23 #[.slice A n cap, .int .i64 a, .int .i64 f] w fun e w' => e = .returned (.tuple #[.int .i64 0, .int .i64 10]) ∧ Below w.heap.size w w' := by
  unfold Shp at F
  have q : decide (f < 0) = true := decide_eq_true hf
  have q' : f < 0 := hf
  go_enter Try.func23, Try.ntmps23
  go_upto_region 2 with (go_at_call 16; refine F.out.mono ?_; rintro e w1 ⟨rfl, hb1⟩)
  have B := Lib.hid (hb1.alloc hb1.size (.cells #[.int .i64 P, .int .i64 R] 24))
  obtain ⟨t0, t1, -, -⟩ := two_free (heap_alloc_new w1 (.cells #[.int .i64 P, .int .i64 R] 24))
  clear hb1
  generalize w1.heap.size = g at *
  generalize w1.alloc (.cells #[.int .i64 P, .int .i64 R] 24) = W2 at *
  go_wp2
  exact bodyPost_ret (v := .tuple #[.int .i64 0, .int .i64 10]) (by simp [results, Try.f23, go_sem]) rfl ⟨rfl, B.out⟩
set_option maxRecDepth 100000 in
set_option maxHeartbeats 400000 in
theorem rpointer23_hi (A : Option Addr) (n cap P R : Nat) (a : Int) (f : Int) (w : World) (h0 : ¬ f < 0) (hf : (P : Int) ≤ f) (F : Hid (Shp w (.slice A n cap) a P R 0)) :
    Calls Try.prog 23 #[.slice A n cap, .int .i64 a, .int .i64 f] w fun e w' => e = .returned (.tuple #[.int .i64 0, .int .i64 10]) ∧ Below w.heap.size w w' := by
  unfold Shp at F
  have q : decide (f < 0) = false := decide_eq_false h0
  have q1 : decide ((P : Int) ≤ f) = true := decide_eq_true hf
  go_enter Try.func23, Try.ntmps23
  go_upto_region 2 with (go_at_call 16; refine F.out.mono ?_; rintro e w1 ⟨rfl, hb1⟩)
  have B := Lib.hid (hb1.alloc hb1.size (.cells #[.int .i64 P, .int .i64 R] 24))
  obtain ⟨t0, t1, -, -⟩ := two_free (heap_alloc_new w1 (.cells #[.int .i64 P, .int .i64 R] 24))
  clear hb1
  generalize w1.heap.size = g at *
  generalize w1.alloc (.cells #[.int .i64 P, .int .i64 R] 24) = W2 at *
  go_wp2
  exact bodyPost_ret (v := .tuple #[.int .i64 0, .int .i64 10]) (by simp [results, Try.f23, go_sem]) rfl ⟨rfl, B.out⟩
set_option maxRecDepth 100000 in
set_option maxHeartbeats 400000 in
theorem rraw25_err (A : Option Addr) (n cap : Nat) (a E : Int) (f : Int) (w : World) (hE : E ≠ 0) (F : Hid (Shp w (.slice A n cap) a 0 0 E)) :
    Calls Try.prog 25 #[.slice A n cap, .int .i64 a, .int .i64 f] w fun e w' => e = .returned (.tuple #[.int .u64 0, .int .i64 E]) ∧ Below w.heap.size w w' := by
  unfold Shp at F
  have q : (E != 0) = true := by simpa using hE
  have q2 : (E == 0) = false := by simpa using hE
  clear hE
  go_enter Try.func25, Try.ntmps25
  go_wp2_with (go_at_call 16; refine F.out.mono ?_; rintro e w1 ⟨rfl, hb1⟩)
  exact bodyPost_ret (v := .tuple #[.int .u64 0, .int .i64 E]) (by simp [results, Try.f25, go_sem]) rfl ⟨rfl, hb1.alloc hb1.size _⟩
set_option maxRecDepth 100000 in
set_option maxHeartbeats 400000 in
theorem rraw25_lo (A : Option Addr) (n cap P R : Nat) (a : Int) (f : Int) (w : World) (hf : f < 0) (F : Hid (Shp w (.slice A n cap) a P R 0)) :
    Calls Try.prog 25 #[.slice A n cap, .int .i64 a, .int .i64 f] w fun e w' => e = .returned (.tuple #[.int .u64 0, .int .i64 10]) ∧ Below w.heap.size w w' := by
  unfold Shp at F
  have q : decide (f < 0) = true := decide_eq_true hf
  have q' : f < 0 := hf
  go_enter Try.func25, Try.ntmps25
  go_upto_region 2 with (go_at_call 16; refine F.out.mono ?_; rintro e w1 ⟨rfl, hb1⟩)
  have B := Lib.hid (hb1.alloc hb1.size (.cells #[.int .i64 P, .int .i64 R] 24))
  obtain ⟨t0, t1, -, -⟩ := two_free (heap_alloc_new w1 (.cells #[.int .i64 P, .int .i64 R] 24))
  clear hb1
  generalize w1.heap.size = g at *
  generalize w1.alloc (.cells #[.int .i64 P, .int .i64 R] 24) = W2 at *
  go_wp2
  exact bodyPost_ret (v := .tuple #[.int .u64 0, .int .i64 10]) (by simp [results, Try.f25, go_sem]) rfl ⟨rfl, B.out⟩
set_option maxRecDepth 100000 in
set_option maxHeartbeats 400000 in
theorem rraw25_hi (A : Option Addr) (n cap P R : Nat) (a : Int) (f : Int) (w : World) (h0 : ¬ f < 0) (hf : (R : Int) ≤ f) (F : Hid (Shp w (.slice A n cap) a P R 0)) :
    Calls Try.prog 25 #[.slice A n cap, .int .i64 a, .int .i64 f] w fun e w' => e = .returned (.tuple #[.int .u64 0, .int .i64 10]) ∧ Below w.heap.size w w' := by
  unfold Shp at F
  have q : decide (f < 0) = false := decide_eq_false h0
  have q1 : decide ((R : Int) ≤ f) = true := decide_eq_true hf
  go_enter Try.func25, Try.ntmps25
  go_upto_region 2 with (go_at_call 16; refine F.out.mono ?_; rintro e w1 ⟨rfl, hb1⟩)
  have B := Lib.hid (hb1.alloc hb1.size (.cells #[.int .i64 P, .int .i64 R] 24))
  obtain ⟨t0, t1, -, -⟩ := two_free (heap_alloc_new w1 (.cells #[.int .i64 P, .int .i64 R] 24))
  clear hb1
  generalize w1.heap.size = g at *
  generalize w1.alloc (.cells #[.int .i64 P, .int .i64 R] 24) = W2 at *
  go_wp2
  exact bodyPost_ret (v := .tuple #[.int .u64 0, .int .i64 10]) (by simp [results, Try.f25, go_sem]) rfl ⟨rfl, B.out⟩
set_option maxRecDepth 100000 in
set_option maxHeartbeats 400000 in
theorem rsetp31_err (A : Option Addr) (n cap : Nat) (a E : Int) (f z : Int) (w : World) (hE : E ≠ 0) (F : Hid (Shp w (.slice A n cap) a 0 0 E)) :
    Calls Try.prog 31 #[.slice A n cap, .int .i64 a, .int .i64 f, .int .i64 z] w fun e w' => e = .returned (.tuple #[.slice none 0 0, .int .i64 E]) ∧ Below w.heap.size w w' := by
  unfold Shp at F
  have q : (E != 0) = true := by simpa using hE
  have q2 : (E == 0) = false := by simpa using hE
  clear hE
  go_enter Try.func31, Try.ntmps31
  go_wp2_with (go_at_call 16; refine F.out.mono ?_; rintro e w1 ⟨rfl, hb1⟩)
  exact bodyPost_ret (v := .tuple #[.slice none 0 0, .int .i64 E]) (by simp [results, Try.f31, go_sem]) rfl ⟨rfl, hb1.alloc hb1.size _⟩
set_option maxRecDepth 100000 in
set_option maxHeartbeats 400000 in
theorem rsetp31_lo (A : Option Addr) (n cap P R : Nat) (a : Int) (f z : Int) (w : World) (hf : f < 0) (F : Hid (Shp w (.slice A n cap) a P R 0)) :
    Calls Try.prog 31 #[.slice A n cap, .int .i64 a, .int .i64 f, .int .i64 z] w fun e w' => e = .returned (.tuple #[.slice none 0 0, .int .i64 10]) ∧ Below w.heap.size w w' := by
  unfold Shp at F
  have q : decide (f < 0) = true := decide_eq_true hf
  have q' : f < 0 := hf
  go_enter Try.func31, Try.ntmps31
  go_upto_region 2 with (go_at_call 16; refine F.out.mono ?_; rintro e w1 ⟨rfl, hb1⟩)
  have B := Lib.hid (hb1.alloc hb1.size (.cells #[.int .i64 P, .int .i64 R] 24))
  obtain ⟨t0, t1, -, -⟩ := two_free (heap_alloc_new w1 (.cells #[.int .i64 P, .int .i64 R] 24))
  clear hb1
  generalize w1.heap.size = g at *
  generalize w1.alloc (.cells #[.int .i64 P, .int .i64 R] 24) = W2 at *
  go_wp2
  exact bodyPost_ret (v := .tuple #[.slice none 0 0, .int .i64 10]) (by simp [results, Try.f31, go_sem]) rfl ⟨rfl, B.out⟩
set_option maxRecDepth 100000 in
set_option maxHeartbeats 400000 in
theorem rsetp31_hi (A : Option Addr) (n cap P R : Nat) (a : Int) (f z : Int) (w : World) (h0 : ¬ f < 0) (hf : (P : Int) ≤ f) (F : Hid (Shp w (.slice A n cap) a P R 0)) :
    Calls Try.prog 31 #[.slice A n cap, .int .i64 a, .int .i64 f, .int .i64 z] w fun e w' => e = .returned (.tuple #[.slice none 0 0, .int .i64 10]) ∧ Below w.heap.size w w' := by
  unfold Shp at F
  have q : decide (f < 0) = false := decide_eq_false h0
  have q1 : decide ((P : Int) ≤ f) = true := decide_eq_true hf
  go_enter Try.func31, Try.ntmps31
  go_upto_region 2 with (go_at_call 16; refine F.out.mono ?_; rintro e w1 ⟨rfl, hb1⟩)
  have B := Lib.hid (hb1.alloc hb1.size (.cells #[.int .i64 P, .int .i64 R] 24))
  obtain ⟨t0, t1, -, -⟩ := two_free (heap_alloc_new w1 (.cells #[.int .i64 P, .int .i64 R] 24))
  clear hb1
  generalize w1.heap.size = g at *
  generalize w1.alloc (.cells #[.int .i64 P, .int .i64 R] 24) = W2 at *
  go_wp2
  exact bodyPost_ret (v := .tuple #[.slice none 0 0, .int .i64 10]) (by simp [results, Try.f31, go_sem]) rfl ⟨rfl, B.out⟩
set_option maxRecDepth 100000 in
set_option maxHeartbeats 400000 in
theorem rsetr33_err (A : Option Addr) (n cap : Nat) (a E : Int) (f z : Int) (w : World) (hE : E ≠ 0) (F : Hid (Shp w (.slice A n cap) a 0 0 E)) :
    Calls Try.prog 33 #[.slice A n cap, .int .i64 a, .int .i64 f, .int .u64 z] w fun e w' => e = .returned (.tuple #[.slice none 0 0, .int .i64 E]) ∧ Below w.heap.size w w' := by
  unfold Shp at F
  have q : (E != 0) = true := by simpa using hE
  have q2 : (E == 0) = false := by simpa using hE
  clear hE
  go_enter Try.func33, Try.ntmps33
  go_wp2_with (go_at_call 16; refine F.out.mono ?_; rintro e w1 ⟨rfl, hb1⟩)
  exact bodyPost_ret (v := .tuple #[.slice none 0 0, .int .i64 E]) (by simp [results, Try.f33, go_sem]) rfl ⟨rfl, hb1.alloc hb1.size _⟩
set_option maxRecDepth 100000 in
set_option maxHeartbeats 400000 in
theorem rsetr33_lo (A : Option Addr) (n cap P R : Nat) (a : Int) (f z : Int) (w : World) (hf : f < 0) (F : Hid (Shp w (.slice A n cap) a P R 0)) :
    Calls Try.prog 33 #[.slice A n cap, .int .i64 a, .int .i64 f, .int .u64 z] w fun e w' => e = .returned (.tuple #[.slice none 0 0, .int .i64 10]) ∧ Below w.heap.size w w' := by
  unfold Shp at F
  have q : decide (f < 0) = true := decide_eq_true hf
  have q' : f < 0 := hf
  go_enter Try.func33, Try.ntmps33
  go_upto_region 2 with (go_at_call 16; refine F.out.mono ?_; rintro e w1 ⟨rfl, hb1⟩)
  have B := Lib.hid (hb1.alloc hb1.size (.cells #[.int .i64 P, .int .i64 R] 24))
  obtain ⟨t0, t1, -, -⟩ := two_free (heap_alloc_new w1 (.cells #[.int .i64 P, .int .i64 R] 24))
  clear hb1
  generalize w1.heap.size = g at *
  generalize w1.alloc (.cells #[.int .i64 P, .int .i64 R] 24) = W2 at *
  go_wp2
  exact bodyPost_ret (v := .tuple #[.slice none 0 0, .int .i64 10]) (by simp [results, Try.f33, go_sem]) rfl ⟨rfl, B.out⟩
set_option maxRecDepth 100000 in
set_option maxHeartbeats 400000 in
theorem rsetr33_hi (A : Option Addr) (n cap P R : Nat) (a : Int) (f z : Int) (w : World) (h0 : ¬ f < 0) (hf : (R : Int) ≤ f) (F : Hid (Shp w (.slice A n cap) a P R 0)) :
    Calls Try.prog 33 #[.slice A n cap, .int .i64 a, .int .i64 f, .int .u64 z] w fun e w' => e = .returned (.tuple #[.slice none 0 0, .int .i64 10]) ∧ Below w.heap.size w w' := by
  unfold Shp at F
  have q : decide (f < 0) = false := decide_eq_false h0
  have q1 : decide ((R : Int) ≤ f) = true := decide_eq_true hf
  go_enter Try.func33, Try.ntmps33
  go_upto_region 2 with (go_at_call 16; refine F.out.mono ?_; rintro e w1 ⟨rfl, hb1⟩)
  have B := Lib.hid (hb1.alloc hb1.size (.cells #[.int .i64 P, .int .i64 R] 24))
  obtain ⟨t0, t1, -, -⟩ := two_free (heap_alloc_new w1 (.cells #[.int .i64 P, .int .i64 R] 24))
  clear hb1
  generalize w1.heap.size = g at *
  generalize w1.alloc (.cells #[.int .i64 P, .int .i64 R] 24) = W2 at *
  go_wp2
  exact bodyPost_ret (v := .tuple #[.slice none 0 0, .int .i64 10]) (by simp [results, Try.f33, go_sem]) rfl ⟨rfl, B.out⟩
set_option maxRecDepth 100000 in
set_option maxHeartbeats 400000 in
theorem rpointer23_far (A : Option Addr) (ws : List Int) (cap k P R i : Nat) (z : Int) (w : World) (h : WAt w (.slice A ws.length cap) ws) (hu : ∀ z ∈ ws, Hd.UI z) (ho : ObOk ws k P R) (hi : i < P) (hz : ws.getD (k + 1 + i) 0 = z) (hd : 1600 < z) (F : Hid (Shp w (.slice A ws.length cap) k P R 0)) :
    Calls Try.prog 23 #[.slice A ws.length cap, .int .i64 k, .int .i64 i] w fun e w' => e = .returned (.tuple #[.int .i64 0, .int .i64 6]) ∧ Below w.heap.size w w' := by
  unfold Shp at F
  have h1 := ho.one
  have h2 := ho.fit
  have h3 := ho.len
  obtain ⟨b, off, rfl, hc⟩ := word_at h (i := k + 1 + i) (by omega)
  have hC := Lib.hid hc
  have hzu := get_nat hu (k + 1 + i)
  rw [hz] at hC hzu
  obtain ⟨u0, u1⟩ := hzu
  have q3 : decide (1600 < z) = true := decide_eq_true hd
  clear hc hz
  clear h hu ho
  have q1 : decide ((i : Int) < 0) = false := decide_eq_false (by omega)
  have q2 : decide ((P : Int) ≤ (i : Int)) = false := decide_eq_false (by omega)
  go_enter Try.func23, Try.ntmps23
  go_upto_region 2 with (go_at_call 16; refine F.out.mono ?_; rintro e w1 ⟨rfl, hb1⟩)
  have B := Lib.hid (hb1.alloc hb1.size (.cells #[.int .i64 P, .int .i64 R] 24))
  obtain ⟨t0, t1, -, -⟩ := two_free (heap_alloc_new w1 (.cells #[.int .i64 P, .int .i64 R] 24))
  clear hb1
  generalize w1.heap.size = g at *
  generalize w1.alloc (.cells #[.int .i64 P, .int .i64 R] 24) = W2 at *
  have d := hC.out W2 B.out
  have i1 : (0 : Int) ≤ (k : Int) + 1 + (i : Int) := by omega
  have i2 : (k : Int) + 1 + (i : Int) < (ws.length : Int) := by omega
  have i3 : ((k : Int) + 1 + (i : Int)).toNat = k + 1 + i := by omega
  go_wp2
  exact bodyPost_ret (v := .tuple #[.int .i64 0, .int .i64 6]) (by simp [results, Try.f23, go_sem]) rfl ⟨rfl, B.out⟩
set_option maxRecDepth 100000 in
set_option maxHeartbeats 400000 in
theorem rpointer23_ok (A : Option Addr) (ws : List Int) (cap k P R i : Nat) (z : Int) (w : World) (h : WAt w (.slice A ws.length cap) ws) (hu : ∀ z ∈ ws, Hd.UI z) (ho : ObOk ws k P R) (hi : i < P) (hz : ws.getD (k + 1 + i) 0 = z) (hd : ¬ 1600 < z) (F : Hid (Shp w (.slice A ws.length cap) k P R 0)) :
    Calls Try.prog 23 #[.slice A ws.length cap, .int .i64 k, .int .i64 i] w fun e w' => e = .returned (.tuple #[.int .i64 z, .int .i64 0]) ∧ Below w.heap.size w w' := by
  unfold Shp at F
  have h1 := ho.one
  have h2 := ho.fit
  have h3 := ho.len
  obtain ⟨b, off, rfl, hc⟩ := word_at h (i := k + 1 + i) (by omega)
  have hC := Lib.hid hc
  have hzu := get_nat hu (k + 1 + i)
  rw [hz] at hC hzu
  obtain ⟨u0, u1⟩ := hzu
  have q3 : decide (1600 < z) = false := decide_eq_false hd
  clear hc hz
  clear h hu ho
  have q1 : decide ((i : Int) < 0) = false := decide_eq_false (by omega)
  have q2 : decide ((P : Int) ≤ (i : Int)) = false := decide_eq_false (by omega)
  go_enter Try.func23, Try.ntmps23
  go_upto_region 2 with (go_at_call 16; refine F.out.mono ?_; rintro e w1 ⟨rfl, hb1⟩)
  have B := Lib.hid (hb1.alloc hb1.size (.cells #[.int .i64 P, .int .i64 R] 24))
  obtain ⟨t0, t1, -, -⟩ := two_free (heap_alloc_new w1 (.cells #[.int .i64 P, .int .i64 R] 24))
  clear hb1
  generalize w1.heap.size = g at *
  generalize w1.alloc (.cells #[.int .i64 P, .int .i64 R] 24) = W2 at *
  have d := hC.out W2 B.out
  have i1 : (0 : Int) ≤ (k : Int) + 1 + (i : Int) := by omega
  have i2 : (k : Int) + 1 + (i : Int) < (ws.length : Int) := by omega
  have i3 : ((k : Int) + 1 + (i : Int)).toNat = k + 1 + i := by omega
  go_wp2
  exact bodyPost_ret (v := .tuple #[.int .i64 z, .int .i64 0]) (by simp [results, Try.f23, go_sem]) rfl ⟨rfl, B.out⟩
set_option maxRecDepth 100000 in
set_option maxHeartbeats 400000 in
theorem rraw25_ok (A : Option Addr) (ws : List Int) (cap k P R i : Nat) (z : Int) (w : World) (h : WAt w (.slice A ws.length cap) ws) (hu : ∀ z ∈ ws, Hd.UI z) (ho : ObOk ws k P R) (hi : i < R) (hz : ws.getD (k + 1 + P + i) 0 = z) (F : Hid (Shp w (.slice A ws.length cap) k P R 0)) :
    Calls Try.prog 25 #[.slice A ws.length cap, .int .i64 k, .int .i64 i] w fun e w' => e = .returned (.tuple #[.int .u64 z, .int .i64 0]) ∧ Below w.heap.size w w' := by
  unfold Shp at F
  have h1 := ho.one
  have h2 := ho.fit
  have h3 := ho.len
  obtain ⟨b, off, rfl, hc⟩ := word_at h (i := k + 1 + P + i) (by omega)
  have hC := Lib.hid hc
  rw [hz] at hC
  clear hc hz
  clear h hu ho
  have q1 : decide ((i : Int) < 0) = false := decide_eq_false (by omega)
  have q2 : decide ((R : Int) ≤ (i : Int)) = false := decide_eq_false (by omega)
  go_enter Try.func25, Try.ntmps25
  go_upto_region 2 with (go_at_call 16; refine F.out.mono ?_; rintro e w1 ⟨rfl, hb1⟩)
  have B := Lib.hid (hb1.alloc hb1.size (.cells #[.int .i64 P, .int .i64 R] 24))
  obtain ⟨t0, t1, -, -⟩ := two_free (heap_alloc_new w1 (.cells #[.int .i64 P, .int .i64 R] 24))
  clear hb1
  generalize w1.heap.size = g at *
  generalize w1.alloc (.cells #[.int .i64 P, .int .i64 R] 24) = W2 at *
  have d := hC.out W2 B.out
  have i1 : (0 : Int) ≤ (k : Int) + 1 + (P : Int) + (i : Int) := by omega
  have i2 : (k : Int) + 1 + (P : Int) + (i : Int) < (ws.length : Int) := by omega
  have i3 : ((k : Int) + 1 + (P : Int) + (i : Int)).toNat = k + 1 + P + i := by omega
  go_wp2
  exact bodyPost_ret (v := .tuple #[.int .u64 z, .int .i64 0]) (by simp [results, Try.f25, go_sem]) rfl ⟨rfl, B.out⟩
set_option maxRecDepth 100000 in
set_option maxHeartbeats 400000 in
theorem rsetp31_neg (A : Option Addr) (ws : List Int) (cap k P R i : Nat) (z : Int) (w : World) (h : WAt w (.slice A ws.length cap) ws) (hu : ∀ z ∈ ws, Hd.UI z) (ho : ObOk ws k P R) (hi : i < P) (hz : z < 0) (F : Hid (Shp w (.slice A ws.length cap) k P R 0)) :
    Calls Try.prog 31 #[.slice A ws.length cap, .int .i64 k, .int .i64 i, .int .i64 z] w fun e w' => e = .returned (.tuple #[.slice none 0 0, .int .i64 7]) ∧ Below w.heap.size w w' := by
  unfold Shp at F
  have h1 := ho.one
  have h2 := ho.fit
  have h3 := ho.len
  have q3 : decide (z < 0) = true := decide_eq_true hz
  clear h hu ho
  have q1 : decide ((i : Int) < 0) = false := decide_eq_false (by omega)
  have q2 : decide ((P : Int) ≤ (i : Int)) = false := decide_eq_false (by omega)
  go_enter Try.func31, Try.ntmps31
  go_upto_region 2 with (go_at_call 16; refine F.out.mono ?_; rintro e w1 ⟨rfl, hb1⟩)
  have B := Lib.hid (hb1.alloc hb1.size (.cells #[.int .i64 P, .int .i64 R] 24))
  obtain ⟨t0, t1, -, -⟩ := two_free (heap_alloc_new w1 (.cells #[.int .i64 P, .int .i64 R] 24))
  clear hb1
  generalize w1.heap.size = g at *
  generalize w1.alloc (.cells #[.int .i64 P, .int .i64 R] 24) = W2 at *
  go_wp2
  exact bodyPost_ret (v := .tuple #[.slice none 0 0, .int .i64 7]) (by simp [results, Try.f31, go_sem]) rfl ⟨rfl, B.out⟩
set_option maxRecDepth 100000 in
set_option maxHeartbeats 400000 in
theorem rsetp31_far (A : Option Addr) (ws : List Int) (cap k P R i : Nat) (z : Int) (w : World) (h : WAt w (.slice A ws.length cap) ws) (hu : ∀ z ∈ ws, Hd.UI z) (ho : ObOk ws k P R) (hi : i < P) (hz0 : ¬ z < 0) (hz : (ws.length : Int) ≤ z) (F : Hid (Shp w (.slice A ws.length cap) k P R 0)) :
    Calls Try.prog 31 #[.slice A ws.length cap, .int .i64 k, .int .i64 i, .int .i64 z] w fun e w' => e = .returned (.tuple #[.slice none 0 0, .int .i64 7]) ∧ Below w.heap.size w w' := by
  unfold Shp at F
  have h1 := ho.one
  have h2 := ho.fit
  have h3 := ho.len
  have q3 : decide (z < 0) = false := decide_eq_false hz0
  have q4 : decide ((ws.length : Int) ≤ z) = true := decide_eq_true hz
  clear h hu ho
  have q1 : decide ((i : Int) < 0) = false := decide_eq_false (by omega)
  have q2 : decide ((P : Int) ≤ (i : Int)) = false := decide_eq_false (by omega)
  go_enter Try.func31, Try.ntmps31
  go_upto_region 2 with (go_at_call 16; refine F.out.mono ?_; rintro e w1 ⟨rfl, hb1⟩)
  have B := Lib.hid (hb1.alloc hb1.size (.cells #[.int .i64 P, .int .i64 R] 24))
  obtain ⟨t0, t1, -, -⟩ := two_free (heap_alloc_new w1 (.cells #[.int .i64 P, .int .i64 R] 24))
  clear hb1
  generalize w1.heap.size = g at *
  generalize w1.alloc (.cells #[.int .i64 P, .int .i64 R] 24) = W2 at *
  go_wp2
  exact bodyPost_ret (v := .tuple #[.slice none 0 0, .int .i64 7]) (by simp [results, Try.f31, go_sem]) rfl ⟨rfl, B.out⟩
set_option maxRecDepth 100000 in
set_option maxHeartbeats 400000 in
theorem rsetp31_ok (A : Option Addr) (ws : List Int) (cap k P R i : Nat) (z : Int) (w : World) (h : WAt w (.slice A ws.length cap) ws) (hu : ∀ z ∈ ws, Hd.UI z) (ho : ObOk ws k P R) (hi : i < P) (hz0 : 0 ≤ z) (hz : z < ws.length) (F : Hid (Shp w (.slice A ws.length cap) k P R 0)) :
    Calls Try.prog 31 #[.slice A ws.length cap, .int .i64 k, .int .i64 i, .int .i64 z] w fun e w' => CAns w (ws.set (k + 1 + i) z, 0) e w' := by
  unfold Shp at F
  have h1 := ho.one
  have h2 := ho.fit
  have h3 := ho.len
  have S := Lib.hid (fun W (hb : Below w.heap.size w W) => rset47 _ ws ((k : Int) + 1 + (i : Int)) z W (h.below hb) (by omega))
  have e := wr_set (f := (i : Int)) ho.chk (show 1 ≤ k + 1 by omega) (show k + 1 + P ≤ ws.length by omega) z (by omega)
  rw [show ((k + 1 : Nat) : Int) = (k : Int) + 1 by omega, Int.toNat_natCast] at e
  rw [e] at S
  have q3 : decide (z < 0) = false := decide_eq_false (by omega)
  have q4 : decide ((ws.length : Int) ≤ z) = false := decide_eq_false (by omega)
  generalize ws.set (k + 1 + i) z = rs at *
  clear e
  clear h hu ho
  have q1 : decide ((i : Int) < 0) = false := decide_eq_false (by omega)
  have q2 : decide ((P : Int) ≤ (i : Int)) = false := decide_eq_false (by omega)
  go_enter Try.func31, Try.ntmps31
  go_upto_region 2 with (go_at_call 16; refine F.out.mono ?_; rintro e w1 ⟨rfl, hb1⟩)
  have B := Lib.hid (hb1.alloc hb1.size (.cells #[.int .i64 P, .int .i64 R] 24))
  obtain ⟨t0, t1, -, -⟩ := two_free (heap_alloc_new w1 (.cells #[.int .i64 P, .int .i64 R] 24))
  clear hb1
  generalize w1.heap.size = g at *
  generalize w1.alloc (.cells #[.int .i64 P, .int .i64 R] 24) = W2 at *
  have hwr : IntKind.i64.wrap ((k : Int) + 1 + (i : Int)) = (k : Int) + 1 + (i : Int) := IntWalk.i64_in _ (by omega)
  go_wp2_with (go_at_call 47; refine (S.out _ B.out).mono ?_; rintro e w2 ⟨u, rfl, ho, hb2⟩)
  exact bodyPost_ret (v := .tuple #[u, .int .i64 0]) (by simp [results, Try.f31, go_sem]) rfl ⟨u, rfl, own_mono ho B.out.size, below_end B.out hb2⟩
set_option maxRecDepth 100000 in
set_option maxHeartbeats 400000 in
theorem rsetr33_ok (A : Option Addr) (ws : List Int) (cap k P R i : Nat) (z : Int) (w : World) (h : WAt w (.slice A ws.length cap) ws) (hu : ∀ z ∈ ws, Hd.UI z) (ho : ObOk ws k P R) (hi : i < R)  (F : Hid (Shp w (.slice A ws.length cap) k P R 0)) :
    Calls Try.prog 33 #[.slice A ws.length cap, .int .i64 k, .int .i64 i, .int .u64 z] w fun e w' => CAns w (ws.set (k + 1 + P + i) z, 0) e w' := by
  unfold Shp at F
  have h1 := ho.one
  have h2 := ho.fit
  have h3 := ho.len
  have S := Lib.hid (fun W (hb : Below w.heap.size w W) => rset47 _ ws ((k : Int) + 1 + (P : Int) + (i : Int)) z W (h.below hb) (by omega))
  have e := wr_set (f := (i : Int)) ho.chk (show 1 ≤ k + 1 + P by omega) (show k + 1 + P + R ≤ ws.length by omega) z (by omega)
  rw [show ((k + 1 + P : Nat) : Int) = (k : Int) + 1 + (P : Int) by omega, Int.toNat_natCast] at e
  rw [e] at S
  generalize ws.set (k + 1 + P + i) z = rs at *
  clear e
  clear h hu ho
  have q1 : decide ((i : Int) < 0) = false := decide_eq_false (by omega)
  have q2 : decide ((R : Int) ≤ (i : Int)) = false := decide_eq_false (by omega)
  go_enter Try.func33, Try.ntmps33
  go_upto_region 2 with (go_at_call 16; refine F.out.mono ?_; rintro e w1 ⟨rfl, hb1⟩)
  have B := Lib.hid (hb1.alloc hb1.size (.cells #[.int .i64 P, .int .i64 R] 24))
  obtain ⟨t0, t1, -, -⟩ := two_free (heap_alloc_new w1 (.cells #[.int .i64 P, .int .i64 R] 24))
  clear hb1
  generalize w1.heap.size = g at *
  generalize w1.alloc (.cells #[.int .i64 P, .int .i64 R] 24) = W2 at *
  go_wp2_with (go_at_call 47; refine (S.out _ B.out).mono ?_; rintro e w2 ⟨u, rfl, ho, hb2⟩)
  exact bodyPost_ret (v := .tuple #[u, .int .i64 0]) (by simp [results, Try.f33, go_sem]) rfl ⟨u, rfl, own_mono ho B.out.size, below_end B.out hb2⟩
theorem shp_of {v : Value} {ws : List Int} {a : Int} {w : World} (h : Ar w v ws) {P R E : Int} (e : objF ws a = (P, R, E)) : Hid (Shp w v a P R E) := Lib.hid (by
  have := rshape16 v ws a w h
  rw [e] at this
  exact this)
theorem rpointer23 (v : Value) (ws : List Int) (a f : Int) (w : World) (h : Ar w v ws) :
    Calls Try.prog 23 #[v, .int .i64 a, .int .i64 f] w fun e w' => e = .returned (.tuple #[.int .i64 (ptrF ws a f).1, .int .i64 (ptrF ws a f).2]) ∧ Below w.heap.size w w' := by
  have hs := fun {P R E : Int} => shp_of (P := P) (R := R) (E := E) (a := a) h
  have hu := h.ui
  obtain ⟨A, cap, rfl, h1, h2⟩ := h.open
  rcases obj_cases ws a with ⟨E, hE, e⟩ | ⟨k, P, R, rfl, ho⟩
  · have T : ptrF ws a f = (0, E) := by unfold ptrF; rw [e, if_neg hE]
    rw [T]; exact rpointer23_err A _ cap a E f w hE (hs e)
  · have T : ptrF ws k f = gtF (part ws (k + 1) P) f := by unfold ptrF; rw [ho.is, if_pos rfl]; simp only [Int.toNat_natCast]
    rw [T]
    have hl : (part ws (k + 1) P).length = P := part_length (by have := ho.fit; omega)
    by_cases hf : 0 ≤ f ∧ f < (P : Int)
    · obtain ⟨i, rfl⟩ : ∃ i : Nat, f = (i : Int) := ⟨f.toNat, by omega⟩
      have hi : i < P := by omega
      have T2 : gtF (part ws (k + 1) P) (i : Int) = adrF (ws.getD (k + 1 + i) 0) := by
        unfold gtF rdF; rw [hl, if_pos hf, if_pos rfl, Int.toNat_natCast, part_get hi]
      rw [T2]
      by_cases hz : 1600 < ws.getD (k + 1 + i) 0
      · rw [show adrF (ws.getD (k + 1 + i) 0) = (0, 6) from if_pos hz]; exact rpointer23_far A ws cap k P R i _ w h1 hu ho hi rfl hz (hs ho.is)
      · rw [show adrF (ws.getD (k + 1 + i) 0) = (ws.getD (k + 1 + i) 0, 0) from if_neg hz]; exact rpointer23_ok A ws cap k P R i _ w h1 hu ho hi rfl hz (hs ho.is)
    · have T2 : gtF (part ws (k + 1) P) f = (0, 10) := by unfold gtF rdF; rw [hl, if_neg hf, if_neg (by decide)]
      rw [T2]
      by_cases h0 : f < 0
      · exact rpointer23_lo A _ cap P R k f w h0 (hs ho.is)
      · exact rpointer23_hi A _ cap P R k f w h0 (by omega) (hs ho.is)
theorem rraw25 (v : Value) (ws : List Int) (a f : Int) (w : World) (h : Ar w v ws) :
    Calls Try.prog 25 #[v, .int .i64 a, .int .i64 f] w fun e w' => e = .returned (.tuple #[.int .u64 (rawF ws a f).1, .int .i64 (rawF ws a f).2]) ∧ Below w.heap.size w w' := by
  have hs := fun {P R E : Int} => shp_of (P := P) (R := R) (E := E) (a := a) h
  have hu := h.ui
  obtain ⟨A, cap, rfl, h1, h2⟩ := h.open
  rcases obj_cases ws a with ⟨E, hE, e⟩ | ⟨k, P, R, rfl, ho⟩
  · have T : rawF ws a f = (0, E) := by unfold rawF; rw [e, if_neg hE]
    rw [T]; exact rraw25_err A _ cap a E f w hE (hs e)
  · have T : rawF ws k f = rdF (part ws (k + 1 + P) R) f := by unfold rawF; rw [ho.is, if_pos rfl]; simp only [Int.toNat_natCast]
    rw [T]
    have hl : (part ws (k + 1 + P) R).length = R := part_length (by have := ho.fit; omega)
    by_cases hf : 0 ≤ f ∧ f < (R : Int)
    · obtain ⟨i, rfl⟩ : ∃ i : Nat, f = (i : Int) := ⟨f.toNat, by omega⟩
      have hi : i < R := by omega
      have T2 : rdF (part ws (k + 1 + P) R) (i : Int) = (ws.getD (k + 1 + P + i) 0, 0) := by
        unfold rdF; rw [hl, if_pos hf, Int.toNat_natCast, part_get hi]
      rw [T2]
      exact rraw25_ok A ws cap k P R i _ w h1 hu ho hi rfl (hs ho.is)
    · have T2 : rdF (part ws (k + 1 + P) R) f = (0, 10) := by unfold rdF; rw [hl, if_neg hf]
      rw [T2]
      by_cases h0 : f < 0
      · exact rraw25_lo A _ cap P R k f w h0 (hs ho.is)
      · exact rraw25_hi A _ cap P R k f w h0 (by omega) (hs ho.is)
theorem nil_ans {w : World} {E : Int} {e : Ending} {w' : World} (h : e = .returned (.tuple #[.slice none 0 0, .int .i64 E]) ∧ Below w.heap.size w w') : CAns w ([], E) e w' := ⟨_, h.1, World.ownsRow_nil _ _ _ _, h.2⟩
theorem rsetp31 (v : Value) (ws : List Int) (a f z : Int) (w : World) (h : Ar w v ws) :
    Calls Try.prog 31 #[v, .int .i64 a, .int .i64 f, .int .i64 z] w fun e w' => CAns w (spF ws a f z) e w' := by
  have hs := fun {P R E : Int} => shp_of (P := P) (R := R) (E := E) (a := a) h
  have hu := h.ui
  obtain ⟨A, cap, rfl, h1, h2⟩ := h.open
  rcases obj_cases ws a with ⟨E, hE, e⟩ | ⟨k, P, R, rfl, ho⟩
  · have T : spF ws a f z = ([], E) := by unfold spF; rw [e, if_neg hE]
    rw [T]; exact (rsetp31_err A _ cap a E f z w hE (hs e)).mono (fun _ _ => nil_ans)
  · have T : spF ws k f z = stF ws (k + 1) P f z := by unfold spF; rw [ho.is, if_pos rfl]; simp only [Int.toNat_natCast]
    rw [T]
    by_cases hf : 0 ≤ f ∧ f < (P : Int)
    · obtain ⟨i, rfl⟩ : ∃ i : Nat, f = (i : Int) := ⟨f.toNat, by omega⟩
      have hi : i < P := by omega
      by_cases hz : 0 ≤ z ∧ z < ws.length
      · have T2 : stF ws (k + 1) P (i : Int) z = (ws.set (k + 1 + i) z, 0) := by unfold stF; rw [if_pos hf, if_pos hz, Int.toNat_natCast]
        rw [T2]
        exact rsetp31_ok A ws cap k P R i z w h1 hu ho hi hz.1 hz.2 (hs ho.is)
      · have T2 : stF ws (k + 1) P (i : Int) z = ([], 7) := by unfold stF; rw [if_pos hf, if_neg hz]
        rw [T2]
        by_cases h0 : z < 0
        · exact (rsetp31_neg A ws cap k P R i z w h1 hu ho hi h0 (hs ho.is)).mono (fun _ _ => nil_ans)
        · exact (rsetp31_far A ws cap k P R i z w h1 hu ho hi h0 (by omega) (hs ho.is)).mono (fun _ _ => nil_ans)
    · have T2 : stF ws (k + 1) P f z = ([], 10) := by unfold stF; rw [if_neg hf]
      rw [T2]
      by_cases h0 : f < 0
      · exact (rsetp31_lo A _ cap P R k f z w h0 (hs ho.is)).mono (fun _ _ => nil_ans)
      · exact (rsetp31_hi A _ cap P R k f z w h0 (by omega) (hs ho.is)).mono (fun _ _ => nil_ans)
theorem rsetr33 (v : Value) (ws : List Int) (a f z : Int) (w : World) (h : Ar w v ws) :
    Calls Try.prog 33 #[v, .int .i64 a, .int .i64 f, .int .u64 z] w fun e w' => CAns w (srF ws a f z) e w' := by
  have hs := fun {P R E : Int} => shp_of (P := P) (R := R) (E := E) (a := a) h
  have hu := h.ui
  obtain ⟨A, cap, rfl, h1, h2⟩ := h.open
  rcases obj_cases ws a with ⟨E, hE, e⟩ | ⟨k, P, R, rfl, ho⟩
  · have T : srF ws a f z = ([], E) := by unfold srF; rw [e, if_neg hE]
    rw [T]; exact (rsetr33_err A _ cap a E f z w hE (hs e)).mono (fun _ _ => nil_ans)
  · have T : srF ws k f z = wrF ws (k + 1 + P) R f z := by unfold srF; rw [ho.is, if_pos rfl]; simp only [Int.toNat_natCast]
    rw [T]
    by_cases hf : 0 ≤ f ∧ f < (R : Int)
    · obtain ⟨i, rfl⟩ : ∃ i : Nat, f = (i : Int) := ⟨f.toNat, by omega⟩
      have hi : i < R := by omega
      have T2 : wrF ws (k + 1 + P) R (i : Int) z = (ws.set (k + 1 + P + i) z, 0) := by unfold wrF; rw [if_pos hf, Int.toNat_natCast]
      rw [T2]
      exact rsetr33_ok A ws cap k P R i z w h1 hu ho hi (hs ho.is)
    · have T2 : wrF ws (k + 1 + P) R f z = ([], 10) := by unfold wrF; rw [if_neg hf]
      rw [T2]
      by_cases h0 : f < 0
      · exact (rsetr33_lo A _ cap P R k f z w h0 (hs ho.is)).mono (fun _ _ => nil_ans)
      · exact (rsetr33_hi A _ cap P R k f z w h0 (by omega) (hs ho.is)).mono (fun _ _ => nil_ans)
end Ytmgoonahpndfoaa
end Go.Proofs
