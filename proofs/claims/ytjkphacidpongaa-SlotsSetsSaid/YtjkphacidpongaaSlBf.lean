/- The reference's add whole, and Check. -/
import Derived.Test.YtjkphacidpongaaSlBe
namespace Go.Proofs
namespace Ytjkphacidpongaa
open Go.RowKit

/-- the doubling loop ends at a power that is the length just if the length is one -/
theorem pow_end {n len : Nat} (h : isPow n = true) (h1 : n = 8 ∨ n < 2 * len) (h2 : len < n) : isPow len = false := by
  cases hp : isPow len with
  | false => rfl
  | true =>
    exfalso
    simp only [isPow, List.contains_eq_mem, List.mem_cons, List.not_mem_nil, or_false, decide_eq_true_eq] at h hp
    rcases h with rfl | rfl | rfl | rfl | rfl | rfl | rfl | rfl | rfl | rfl | rfl <;> omega
theorem pow_small {n : Nat} (h : isPow n = true) (h2 : n < 8192) : isPow (n * 2) = true := by
  simp only [isPow, List.contains_eq_mem, List.mem_cons, List.not_mem_nil, or_false, decide_eq_true_eq] at h ⊢
  omega
theorem atF_neg {cs : List Int} {a : Int} : decide (atF cs a < 0) = !hasB cs a := by
  unfold atF
  cases hasB cs a with
  | true => rw [if_pos rfl]; simp
  | false => rw [if_neg (by simp)]; rfl
theorem atF_pos {cs : List Int} {a : Int} : decide (0 ≤ atF cs a) = hasB cs a := by
  unfold atF
  cases hasB cs a with
  | true => rw [if_pos rfl]; simp
  | false => rw [if_neg (by simp)]; rfl
theorem chk_pow {cs : List Int} (h : ¬ 8192 < cs.length) (h2 : isPow cs.length = false) : chkF cs = (-1, 6) := by unfold chkF; rw [if_neg h, if_pos h2]
theorem chk_long {cs : List Int} (h : 8192 < cs.length) : chkF cs = (-1, 3) := by unfold chkF; rw [if_pos h]
theorem size_ok {n : Nat} (h : ¬ 8192 < n) (h2 : isPow n = true) : sizeE n = 0 := by unfold sizeE; rw [if_neg h, if_pos h2]
set_option maxRecDepth 100000 in
set_option maxHeartbeats 1000000 in
theorem rcheck14_bad (v : Value) (cs : List Int) (w : World) (h : IAt w v cs) (hm : cs.length ≤ 100000) (hb : 8192 < cs.length ∨ isPow cs.length = false) :
    Calls Try.prog 11 #[sv v] w fun e w' => e = .returned (.tuple #[.int .i64 (chkF cs).1, .int .i64 (chkF cs).2]) ∧ Below w.heap.size w w' := by
  have h0 := heap_alloc_new w (.cells #[v] 26)
  have hb0 := alloc_below w (.cells #[v] 26)
  obtain ⟨A, cap, rfl, -⟩ := h
  have c0 := (one_cell h0).1
  have B := Lib.hid hb0
  by_cases h1 : 8192 < cs.length
  · rw [chk_long h1]
    unfold sv
    generalize cs.length = n at *
    have q : decide ((8192 : Int) < (n : Int)) = true := decide_eq_true (by omega)
    have q' : (8192 : Int) < (n : Int) := by omega
    clear h0 hb0 hb h1
    go_enter Try.func11, Try.ntmps11
    go_wp2
    refine bodyPost_ret (v := .tuple #[.int .i64 (-1), .int .i64 3]) (by simp [results, Try.f11, go_sem]) rfl ⟨rfl, B.out⟩
  · have hp : isPow cs.length = false := hb.resolve_left h1
    rw [chk_pow h1 hp]
    unfold sv
    have PE := Lib.hid (fun n (h : isPow n = true) (h1 : n = 8 ∨ n < 2 * cs.length) (h2 : n = cs.length) => (show False by rw [h2, hp] at h; cases h))
    generalize cs.length = m at *
    have q : decide ((8192 : Int) < (m : Int)) = false := decide_eq_false (by omega)
    have q' : ¬ (8192 : Int) < (m : Int) := by omega
    have P8 := Lib.hid (show isPow 8 = true by decide)
    have PS := Lib.hid (fun n (h : isPow n = true) (h2 : n < 8192) => pow_small h h2)
    have PL := Lib.hid (fun n (h : isPow n = true) => pow_lo h)
    clear h0 hb0 hb hp
    go_enter Try.func11, Try.ntmps11
    go_upto_region 4 with fail
    generalize w.alloc (.cells #[.slice A m cap] 26) = W0 at *
    go_wp2
    go_loopw [5] (fun i wr => ∃ n : Nat, i = .int .i64 n ∧ Hid (isPow n = true) ∧ Hid (n = 8 ∨ n < 2 * m) ∧ n ≤ 8192 ∧ 8 ≤ n ∧ Hid (W0 = wr)) (fun i _ => m - (intOf i).toNat)
    case atStart => exact ⟨8, rfl, P8, Lib.hid (.inl rfl), by omega, by omega, Lib.hid rfl⟩
    case round =>
      obtain ⟨n, rfl, HP, HN, hn, hn8, hw⟩ := hrel
      obtain rfl := hw.out
      by_cases hlt : n < m
      · have hlt' : (n : Int) < (m : Int) := by omega
        have HP2 := Lib.hid (PS.out n HP.out (by omega))
        have hw1 : IntKind.i64.wrap ((n : Int) * 2) = (n : Int) * 2 := IntWalk.i64_in _ (by omega)
        go_wp2
        refine ⟨⟨n * 2, by simp, HP2, Lib.hid (.inr (by omega)), (PL.out _ HP2.out).2, by omega, Lib.hid trivial⟩, ?_⟩
        show m - ((n : Int) * 2).toNat < m - ((n : Int)).toNat
        omega
      · have hlt' : ¬ (n : Int) < (m : Int) := by omega
        have hne : n ≠ m := fun e => PE.out n HP.out HN.out e
        have q2 : ((n : Int) != (m : Int)) = true := by simp; omega
        go_wp2
        refine bodyPost_ret (v := .tuple #[.int .i64 (-1), .int .i64 6]) (by simp [results, Try.f11, go_sem]) rfl ⟨rfl, B.out⟩
end Ytjkphacidpongaa
end Go.Proofs
