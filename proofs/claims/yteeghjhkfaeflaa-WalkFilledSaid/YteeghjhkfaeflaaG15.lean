/- The reference's Pointer, Raw, SetPointer and SetRaw. -/
import Derived.Test.YteeghjhkfaeflaaG14
namespace Go.Proofs
namespace Yteeghjhkfaeflaa
open Go.RowKit

/-- a word of the arena, in a later world -/
theorem word_at {w : World} {A : Option Addr} {ws : List Int} {cap i : Nat} (h : WAt w (.slice A ws.length cap) ws) (hi : i < ws.length) :
    ∃ b off, A = some ⟨b, off, none⟩ ∧ ∀ W, Below w.heap.size w W → W.cell? ⟨b, off + i, none⟩ = some (.int .u64 (ws.getD i 0)) := by
  obtain ⟨A', cap', e, hA⟩ := h
  simp only [Value.slice.injEq] at e
  obtain ⟨rfl, _, rfl⟩ := e
  obtain ⟨b, off, rfl, hc⟩ := hA (by omega)
  have hd := hc i _ (wc_get ws i hi)
  exact ⟨b, off, rfl, fun W hb => (hb.cell (p := ⟨b, off + i, none⟩) (cell_lt hd)).trans hd⟩
theorem get_nat {ws : List Int} (hu : ∀ z ∈ ws, Hd.UI z) (i : Nat) : Hd.UI (ws.getD i 0) := by
  rw [List.getD_eq_getElem?_getD]
  cases hh : ws[i]? with
  | none => exact ⟨by decide, by decide⟩
  | some z => exact hu z (List.mem_of_getElem? hh)
/-- the reference's Shape, called -/
def Shp (w : World) (v : Value) (a P R E : Int) : Prop := Calls Try.prog 32 #[v, .int .i64 a] w fun e w' => e = .returned (.tuple #[.agg #[.int .i64 P, .int .i64 R], .int .i64 E]) ∧ Below w.heap.size w w'
set_option maxRecDepth 100000 in
set_option maxHeartbeats 400000 in
theorem rpointer23_err (A : Option Addr) (n cap : Nat) (a E : Int) (f : Int) (w : World) (hE : E ≠ 0) (F : Hid (Shp w (.slice A n cap) a 0 0 E)) :
    Calls Try.prog 68 #[.slice A n cap, .int .i64 a, .int .i64 f] w fun e w' => e = .returned (.tuple #[.int .i64 0, .int .i64 E]) ∧ Below w.heap.size w w' := by
  unfold Shp at F
  have q : (E != 0) = true := by simpa using hE
  have q2 : (E == 0) = false := by simpa using hE
  clear hE
  go_enter Try.func68, Try.ntmps68
  go_wp2_with (go_at_call 32; refine F.out.mono ?_; rintro e w1 ⟨rfl, hb1⟩)
  exact bodyPost_ret (v := .tuple #[.int .i64 0, .int .i64 E]) (by simp [results, Try.f68, go_sem]) rfl ⟨rfl, hb1.alloc hb1.size _⟩
set_option maxRecDepth 100000 in
set_option maxHeartbeats 400000 in
theorem rpointer23_lo (A : Option Addr) (n cap P R : Nat) (a : Int) (f : Int) (w : World) (hf : f < 0) (F : Hid (Shp w (.slice A n cap) a P R 0)) :
    Calls Try.prog 68 #[.slice A n cap, .int .i64 a, .int .i64 f] w fun e w' => e = .returned (.tuple #[.int .i64 0, .int .i64 10]) ∧ Below w.heap.size w w' := by
  unfold Shp at F
  have q : decide (f < 0) = true := decide_eq_true hf
  have q' : f < 0 := hf
  go_enter Try.func68, Try.ntmps68
  go_upto_region 2 with (go_at_call 32; refine F.out.mono ?_; rintro e w1 ⟨rfl, hb1⟩)
  have B := Lib.hid (hb1.alloc hb1.size (.cells #[.int .i64 P, .int .i64 R] 51))
  obtain ⟨t0, t1, -, -⟩ := two_free (heap_alloc_new w1 (.cells #[.int .i64 P, .int .i64 R] 51))
  clear hb1
  generalize w1.heap.size = g at *
  generalize w1.alloc (.cells #[.int .i64 P, .int .i64 R] 51) = W2 at *
  go_wp2
  exact bodyPost_ret (v := .tuple #[.int .i64 0, .int .i64 10]) (by simp [results, Try.f68, go_sem]) rfl ⟨rfl, B.out⟩
set_option maxRecDepth 100000 in
set_option maxHeartbeats 400000 in
theorem rpointer23_hi (A : Option Addr) (n cap P R : Nat) (a : Int) (f : Int) (w : World) (h0 : ¬ f < 0) (hf : (P : Int) ≤ f) (F : Hid (Shp w (.slice A n cap) a P R 0)) :
    Calls Try.prog 68 #[.slice A n cap, .int .i64 a, .int .i64 f] w fun e w' => e = .returned (.tuple #[.int .i64 0, .int .i64 10]) ∧ Below w.heap.size w w' := by
  unfold Shp at F
  have q : decide (f < 0) = false := decide_eq_false h0
  have q1 : decide ((P : Int) ≤ f) = true := decide_eq_true hf
  go_enter Try.func68, Try.ntmps68
  go_upto_region 2 with (go_at_call 32; refine F.out.mono ?_; rintro e w1 ⟨rfl, hb1⟩)
  have B := Lib.hid (hb1.alloc hb1.size (.cells #[.int .i64 P, .int .i64 R] 51))
  obtain ⟨t0, t1, -, -⟩ := two_free (heap_alloc_new w1 (.cells #[.int .i64 P, .int .i64 R] 51))
  clear hb1
  generalize w1.heap.size = g at *
  generalize w1.alloc (.cells #[.int .i64 P, .int .i64 R] 51) = W2 at *
  go_wp2
  exact bodyPost_ret (v := .tuple #[.int .i64 0, .int .i64 10]) (by simp [results, Try.f68, go_sem]) rfl ⟨rfl, B.out⟩
set_option maxRecDepth 100000 in
set_option maxHeartbeats 400000 in
theorem rpointer23_far (A : Option Addr) (ws : List Int) (cap k P R i : Nat) (z : Int) (w : World) (h : WAt w (.slice A ws.length cap) ws) (hu : ∀ z ∈ ws, Hd.UI z) (ho : ObOk ws k P R) (hi : i < P) (hz : ws.getD (k + 1 + i) 0 = z) (hd : 1600 < z) (F : Hid (Shp w (.slice A ws.length cap) k P R 0)) :
    Calls Try.prog 68 #[.slice A ws.length cap, .int .i64 k, .int .i64 i] w fun e w' => e = .returned (.tuple #[.int .i64 0, .int .i64 6]) ∧ Below w.heap.size w w' := by
  unfold Shp at F
  have h1 := ho.one
  have h2 := ho.fit
  have h3 := ho.len
  obtain ⟨b, off, rfl, hc⟩ := word_at h (i := k + 1 + i) (by omega)
  have hC := Lib.hid hc
  have hzu := get_nat hu (k + 1 + i)
  rw [hz] at hC hzu
  obtain ⟨u0, u1⟩ := hzu
  have q3 : decide (1600 < z) = true := decide_eq_true hd
  clear hc hz
  clear h hu ho
  have q1 : decide ((i : Int) < 0) = false := decide_eq_false (by omega)
  have q2 : decide ((P : Int) ≤ (i : Int)) = false := decide_eq_false (by omega)
  go_enter Try.func68, Try.ntmps68
  go_upto_region 2 with (go_at_call 32; refine F.out.mono ?_; rintro e w1 ⟨rfl, hb1⟩)
  have B := Lib.hid (hb1.alloc hb1.size (.cells #[.int .i64 P, .int .i64 R] 51))
  obtain ⟨t0, t1, -, -⟩ := two_free (heap_alloc_new w1 (.cells #[.int .i64 P, .int .i64 R] 51))
  clear hb1
  generalize w1.heap.size = g at *
  generalize w1.alloc (.cells #[.int .i64 P, .int .i64 R] 51) = W2 at *
  have d := hC.out W2 B.out
  have i1 : (0 : Int) ≤ (k : Int) + 1 + (i : Int) := by omega
  have i2 : (k : Int) + 1 + (i : Int) < (ws.length : Int) := by omega
  have i3 : ((k : Int) + 1 + (i : Int)).toNat = k + 1 + i := by omega
  go_wp2
  exact bodyPost_ret (v := .tuple #[.int .i64 0, .int .i64 6]) (by simp [results, Try.f68, go_sem]) rfl ⟨rfl, B.out⟩
set_option maxRecDepth 100000 in
set_option maxHeartbeats 400000 in
theorem rpointer23_ok (A : Option Addr) (ws : List Int) (cap k P R i : Nat) (z : Int) (w : World) (h : WAt w (.slice A ws.length cap) ws) (hu : ∀ z ∈ ws, Hd.UI z) (ho : ObOk ws k P R) (hi : i < P) (hz : ws.getD (k + 1 + i) 0 = z) (hd : ¬ 1600 < z) (F : Hid (Shp w (.slice A ws.length cap) k P R 0)) :
    Calls Try.prog 68 #[.slice A ws.length cap, .int .i64 k, .int .i64 i] w fun e w' => e = .returned (.tuple #[.int .i64 z, .int .i64 0]) ∧ Below w.heap.size w w' := by
  unfold Shp at F
  have h1 := ho.one
  have h2 := ho.fit
  have h3 := ho.len
  obtain ⟨b, off, rfl, hc⟩ := word_at h (i := k + 1 + i) (by omega)
  have hC := Lib.hid hc
  have hzu := get_nat hu (k + 1 + i)
  rw [hz] at hC hzu
  obtain ⟨u0, u1⟩ := hzu
  have q3 : decide (1600 < z) = false := decide_eq_false hd
  clear hc hz
  clear h hu ho
  have q1 : decide ((i : Int) < 0) = false := decide_eq_false (by omega)
  have q2 : decide ((P : Int) ≤ (i : Int)) = false := decide_eq_false (by omega)
  go_enter Try.func68, Try.ntmps68
  go_upto_region 2 with (go_at_call 32; refine F.out.mono ?_; rintro e w1 ⟨rfl, hb1⟩)
  have B := Lib.hid (hb1.alloc hb1.size (.cells #[.int .i64 P, .int .i64 R] 51))
  obtain ⟨t0, t1, -, -⟩ := two_free (heap_alloc_new w1 (.cells #[.int .i64 P, .int .i64 R] 51))
  clear hb1
  generalize w1.heap.size = g at *
  generalize w1.alloc (.cells #[.int .i64 P, .int .i64 R] 51) = W2 at *
  have d := hC.out W2 B.out
  have i1 : (0 : Int) ≤ (k : Int) + 1 + (i : Int) := by omega
  have i2 : (k : Int) + 1 + (i : Int) < (ws.length : Int) := by omega
  have i3 : ((k : Int) + 1 + (i : Int)).toNat = k + 1 + i := by omega
  go_wp2
  exact bodyPost_ret (v := .tuple #[.int .i64 z, .int .i64 0]) (by simp [results, Try.f68, go_sem]) rfl ⟨rfl, B.out⟩
theorem shp_of {v : Value} {ws : List Int} {a : Int} {w : World} (h : Ar w v ws) {P R E : Int} (e : objF ws a = (P, R, E)) : Hid (Shp w v a P R E) := Lib.hid (by
  have := rshape16 v ws a w h
  rw [e] at this
  exact this)
theorem rpointer23 (v : Value) (ws : List Int) (a f : Int) (w : World) (h : Ar w v ws) :
    Calls Try.prog 68 #[v, .int .i64 a, .int .i64 f] w fun e w' => e = .returned (.tuple #[.int .i64 (ptrF ws a f).1, .int .i64 (ptrF ws a f).2]) ∧ Below w.heap.size w w' := by
  have hs := fun {P R E : Int} => shp_of (P := P) (R := R) (E := E) (a := a) h
  have hu := h.ui
  obtain ⟨A, cap, rfl, h1, h2⟩ := h.open
  rcases obj_cases ws a with ⟨E, hE, e⟩ | ⟨k, P, R, rfl, ho⟩
  · have T : ptrF ws a f = (0, E) := by unfold ptrF; rw [e, if_neg hE]
    rw [T]; exact rpointer23_err A _ cap a E f w hE (hs e)
  · have T : ptrF ws k f = gtF (part ws (k + 1) P) f := by unfold ptrF; rw [ho.is, if_pos rfl]; simp only [Int.toNat_natCast]
    rw [T]
    have hl : (part ws (k + 1) P).length = P := part_length (by have := ho.fit; omega)
    by_cases hf : 0 ≤ f ∧ f < (P : Int)
    · obtain ⟨i, rfl⟩ : ∃ i : Nat, f = (i : Int) := ⟨f.toNat, by omega⟩
      have hi : i < P := by omega
      have T2 : gtF (part ws (k + 1) P) (i : Int) = adrF (ws.getD (k + 1 + i) 0) := by
        unfold gtF rdF; rw [hl, if_pos hf, if_pos rfl, Int.toNat_natCast, part_get hi]
      rw [T2]
      by_cases hz : 1600 < ws.getD (k + 1 + i) 0
      · rw [show adrF (ws.getD (k + 1 + i) 0) = (0, 6) from if_pos hz]; exact rpointer23_far A ws cap k P R i _ w h1 hu ho hi rfl hz (hs ho.is)
      · rw [show adrF (ws.getD (k + 1 + i) 0) = (ws.getD (k + 1 + i) 0, 0) from if_neg hz]; exact rpointer23_ok A ws cap k P R i _ w h1 hu ho hi rfl hz (hs ho.is)
    · have T2 : gtF (part ws (k + 1) P) f = (0, 10) := by unfold gtF rdF; rw [hl, if_neg hf, if_neg (by decide)]
      rw [T2]
      by_cases h0 : f < 0
      · exact rpointer23_lo A _ cap P R k f w h0 (hs ho.is)
      · exact rpointer23_hi A _ cap P R k f w h0 (by omega) (hs ho.is)
theorem nil_ans {w : World} {E : Int} {e : Ending} {w' : World} (h : e = .returned (.tuple #[.slice none 0 0, .int .i64 E]) ∧ Below w.heap.size w w') : CAns w ([], E) e w' := ⟨_, h.1, World.ownsRow_nil _ _ _ _, h.2⟩
end Yteeghjhkfaeflaa
end Go.Proofs
