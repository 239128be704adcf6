/- OnesCount and checkSize. -/
import Derived.Test.YtjkphacidpongaaSlN
import Derived.Test.YtjkphacidpongaaSlE
import Derived.Test.YtjkphacidpongaaSlR
namespace Go.Proofs
namespace Ytjkphacidpongaa
open Go.RowKit
set_option maxRecDepth 100000 in
set_option maxHeartbeats 1000000 in
theorem ones68 (n : Int) (w : World) : Calls Try.prog 117 #[.int .u64 n] w fun e w' => e = .returned (.int .i64 (onesF n)) ∧ w = w' := by
  obtain ⟨x1, h1⟩ : ∃ x, on1 n = x := ⟨_, rfl⟩
  obtain ⟨x2, h2⟩ : ∃ x, on2 x1 = x := ⟨_, rfl⟩
  obtain ⟨x3, h3⟩ : ∃ x, on3 x2 = x := ⟨_, rfl⟩
  obtain ⟨x4, h4⟩ : ∃ x, on4 x3 = x := ⟨_, rfl⟩
  obtain ⟨x5, h5⟩ : ∃ x, on5 x4 = x := ⟨_, rfl⟩
  obtain ⟨x6, h6⟩ : ∃ x, on6 x5 = x := ⟨_, rfl⟩
  obtain ⟨x7, h7⟩ : ∃ x, on7 x6 = x := ⟨_, rfl⟩
  have T := Lib.hid (show onesF n = x7 by unfold onesF; rw [h1, h2, h3, h4, h5, h6, h7])
  have H1 := Lib.hid h1
  have H2 := Lib.hid h2
  have H3 := Lib.hid h3
  have H4 := Lib.hid h4
  have H5 := Lib.hid h5
  have H6 := Lib.hid h6
  have H7 := Lib.hid h7
  clear h1 h2 h3 h4 h5 h6 h7
  go_enter Try.func117, Try.ntmps117
  go_upto_region 2 with fail
  rw [show IntKind.u64.wrap (bits BinOp.and IntKind.u64 (n / 2) 6148914691236517205 + bits BinOp.and IntKind.u64 n 6148914691236517205) = x1 from H1.out]
  go_upto_region 3 with fail
  rw [show IntKind.u64.wrap (bits BinOp.and IntKind.u64 (x1 / 4) 3689348814741910323 + bits BinOp.and IntKind.u64 x1 3689348814741910323) = x2 from H2.out]
  go_upto_region 4 with fail
  rw [show bits BinOp.and IntKind.u64 (IntKind.u64.wrap (x2 / 16 + x2)) 1085102592571150095 = x3 from H3.out]
  go_upto_region 5 with fail
  rw [show IntKind.u64.wrap (x3 + x3 / 256) = x4 from H4.out]
  go_upto_region 6 with fail
  rw [show IntKind.u64.wrap (x4 + x4 / 65536) = x5 from H5.out]
  go_upto_region 7 with fail
  rw [show IntKind.u64.wrap (x5 + x5 / 4294967296) = x6 from H6.out]
  go_wp2
  refine bodyPost_ret (v := .int .i64 x7) (by have := H7.out; unfold on7 at this; rw [IntWalk.i64_left] at this; simpa [results, Try.f117, go_sem] using this) rfl ⟨by rw [T.out], rfl⟩
set_option maxRecDepth 100000 in
theorem ones63 (n : Int) (w : World) : Calls Try.prog 103 #[.int .u64 n] w fun e w' => e = .returned (.int .i64 (onesF n)) ∧ w = w' := by
  have H := Lib.hid (ones68 n w)
  generalize onesF n = x at *
  go_enter Try.func103, Try.ntmps103
  go_wp2_with (go_at_call 117; refine H.out.mono ?_; rintro e w1 ⟨rfl, rfl⟩)
  go_ret
  exact ⟨rfl, rfl⟩
def sizeE (n : Nat) : Int := if 8192 < n then 3 else if isPow n = true then 0 else 6
theorem ones_pow {n : Nat} (h : 8 ≤ n) (h2 : n ≤ 8192) : (onesF n != 1) = !isPow n := by
  have := List.all_eq_true.1 ones_all n (by simp; omega)
  have e : (onesF n == 1) = [1, 2, 4, 8, 16, 32, 64, 128, 256, 512, 1024, 2048, 4096, 8192].contains n := by simpa using this
  unfold bne
  rw [e, isPow]
  congr 1
  rw [Bool.eq_iff_iff]
  simp only [List.contains_eq_mem, List.mem_cons, List.not_mem_nil, or_false, decide_eq_true_eq]
  omega
theorem pow_no {n : Nat} (h : n < 8) : isPow n = false := by
  cases hp : isPow n with
  | false => rfl
  | true => have := pow_lo hp; omega
set_option maxRecDepth 100000 in
set_option maxHeartbeats 1000000 in
theorem csize54 (n : Nat) (hn : n ≤ 4611686018427387904) (w : World) : Calls Try.prog 83 #[.int .i64 n] w fun e w' => e = .returned (.int .i64 (sizeE n)) ∧ w = w' := by
  by_cases h1 : 8192 < n
  · have e : sizeE n = 3 := by unfold sizeE; rw [if_pos h1]
    rw [e]
    have q : decide ((8192 : Int) < (n : Int)) = true := decide_eq_true (by omega)
    have q' : 8192 < (n : Int) := by omega
    clear h1 e
    go_enter Try.func83, Try.ntmps83
    go_wp2
    go_ret
    exact ⟨rfl, rfl⟩
  have q : decide ((8192 : Int) < (n : Int)) = false := decide_eq_false (by omega)
  by_cases h2 : n < 8
  · have e : sizeE n = 6 := by unfold sizeE; rw [if_neg h1, if_neg (by rw [pow_no h2]; simp)]
    rw [e]
    have q2 : decide ((n : Int) < 8) = true := decide_eq_true (by omega)
    clear h1 h2 e
    go_enter Try.func83, Try.ntmps83
    go_wp2
    go_ret
    exact ⟨rfl, rfl⟩
  have q2 : decide ((n : Int) < 8) = false := decide_eq_false (by omega)
  have qp := ones_pow (by omega : 8 ≤ n) (by omega)
  have H := Lib.hid (ones63 n w)
  have hw : IntKind.u64.wrap (n : Int) = n := IntWalk.u64_in _ (by omega)
  have e : sizeE n = if isPow n = true then 0 else 6 := by unfold sizeE; rw [if_neg h1]
  rw [e]
  generalize onesF n = x at *
  cases hp : isPow n with
  | true =>
    rw [hp] at qp
    have q3 : (x != 1) = false := qp
    rw [if_pos rfl]
    clear h1 h2 e qp hp
    go_enter Try.func83, Try.ntmps83
    go_wp2_with (go_at_call 103; refine H.out.mono ?_; rintro e w1 ⟨rfl, rfl⟩)
    go_ret
    exact ⟨rfl, rfl⟩
  | false =>
    rw [hp] at qp
    have q3 : (x != 1) = true := qp
    rw [if_neg (by simp)]
    clear h1 h2 e qp hp
    go_enter Try.func83, Try.ntmps83
    go_wp2_with (go_at_call 103; refine H.out.mono ?_; rintro e w1 ⟨rfl, rfl⟩)
    go_ret
    exact ⟨rfl, rfl⟩
end Ytjkphacidpongaa
end Go.Proofs
