/- Digits, the reference's. -/
import Derived.Test.YtoebnjciioiccaaDoorCtB
import Derived.Deep.RegionWith
import Derived.Lib.ItoaMem
import Derived.Lib.ItoaLen
namespace Go.Proofs
namespace YtoebnjciioiccaaDoor
namespace Ct
open Go.RowKit

theorem conv_one (c : Nat) (hc : c < 256) (B cap : Nat) (W : World) (h : W.cell? ⟨B, 0, none⟩ = some (.int .u8 (c : Int))) :
    (convert 67 9 (.slice (some ⟨B, 0, none⟩) 1 cap)).run Tryd.prog W = .ok (.string ⟨#[UInt8.ofNat c]⟩) W := by
  refine run_convert_bytes_back W 67 9 5 ⟨B, 0, none⟩ cap [UInt8.ofNat c] Tryd.underlying67 Tryd.underlying5 Tryd.underlying9 (fun j hj => ?_)
  match j, hj with
  | 0, _ =>
    have e : (⟨B, 0, none⟩ : Addr).add 0 = ⟨B, 0, none⟩ := by simp [Addr.add]
    rw [e, h]
    simp [UInt8.toNat_ofNat', Nat.mod_eq_of_lt hc]
theorem below_one (w : World) (cs : Array Value) (t : TypeId) : Below w.heap.size w (w.alloc (.cells cs t)) := (Below.refl _ _).alloc (Nat.le_refl _) _
theorem rdig_small (u : Nat) (hu : u < 10) (w : World) :
    Calls Tryd.prog 45 #[.int .i64 (u : Int)] w fun e w' => e = .returned (.string ⟨(Lib.decDigits u).toArray⟩) ∧ Below w.heap.size w w' := by
  have T := Lib.hid (Lib.decDigits_one hu)
  have q : decide ((9 : Int) < (u : Int)) = false := decide_eq_false (by omega)
  have q2 : decide ((u : Int) < -9) = false := decide_eq_false (by omega)
  have q3 : decide ((u : Int) < 0) = false := decide_eq_false (by omega)
  have hc := conv_one (48 + u) (by omega)
  have e : (((48 + u : Nat)) : Int) = 48 + (u : Int) := by omega
  rw [e] at hc
  clear e
  obtain ⟨ch, hch⟩ : ∃ ch, UInt8.ofNat (48 + u) = ch := ⟨_, rfl⟩
  rw [hch] at hc T
  clear hch
  go_enter Tryd.func45, Tryd.ntmps45
  go_wp2
  go_ret
  exact ⟨by rw [T.out]; rfl, below_one _ _ _⟩
theorem new_kept {w w' : World} {v : Value} {t : TypeId} (hb : Below ((w.alloc (.cells #[v] t)).drew).heap.size ((w.alloc (.cells #[v] t)).drew) w') : w'.cell? ⟨w.heap.size, 0, none⟩ = some v :=
  (hb.cell (p := ⟨w.heap.size, 0, none⟩) (by simp)).trans (by simp)
theorem below_drew_l {w w' : World} (hb : Below w.drew.heap.size w.drew w') : Below w.heap.size w w' := ⟨hb.os, hb.tape, hb.output, hb.size, hb.block⟩
theorem below_alloc_l {w w' : World} {o : Obj} (hb : Below (w.alloc o).heap.size (w.alloc o) w') : Below w.heap.size w w' :=
  ((Below.refl _ w).alloc (Nat.le_refl _) o).trans (hb.mono (by simp))
set_option maxRecDepth 100000 in
theorem rdig_pos (n : Int) (r : List UInt8) (hr : r.length ≤ 100) (h0 : 10 ≤ n) (h1 : n ≤ 9223372036854775807) (IH : ∀ (x : Int) (w : World), x = n / 10 → Calls Tryd.prog 45 #[.int .i64 x] w fun e w' => e = .returned (.string ⟨r.toArray⟩) ∧ Below w.heap.size w w') (w : World) :
    Calls Tryd.prog 45 #[.int .i64 n] w fun e w' => e = .returned (.string ⟨(r ++ [UInt8.ofNat (48 + n.natAbs % 10)]).toArray⟩) ∧ Below w.heap.size w w' := by
  have q : decide ((9 : Int) < n) = true := decide_eq_true (by omega)
  have q3 : decide (n % 10 < 0) = false := decide_eq_false (by omega)
  have hc := conv_one (48 + n.natAbs % 10) (by omega)
  have e : (((48 + n.natAbs % 10 : Nat)) : Int) = 48 + n % 10 := by omega
  rw [e] at hc
  clear e
  generalize UInt8.ofNat (48 + n.natAbs % 10) = ch at *
  have H := Lib.hid IH
  clear IH
  have w1 : IntKind.i64.wrap (n.tdiv 10) = n / 10 := by
    rw [Int.tdiv_eq_ediv_of_nonneg (by omega)]
    exact IntWalk.i64_in _ (by omega)
  have w2 : IntKind.i64.wrap (48 + n % 10) = 48 + n % 10 := IntWalk.i64_in _ (by omega)
  have w3 : IntKind.u8.wrap (48 + n % 10) = 48 + n % 10 := IntWalk.u8_in _ (by omega)
  go_enter Tryd.func45, Tryd.ntmps45
  go_wp2
  go_region_with (go_at_call 45; refine (H.out _ _ rfl).mono ?_; rintro e w' ⟨rfl, hb⟩; try (have hcx := new_kept hb))
  all_goals go_wp2
  all_goals go_ret
  all_goals refine ⟨rfl, ?_⟩
  all_goals first
    | exact below_drew_l hb
    | exact below_alloc_l (below_drew_l hb)
    | exact (below_drew_l hb).alloc (below_drew_l hb).size _
    | trace_state
set_option maxRecDepth 100000 in
set_option maxHeartbeats 1600000 in
theorem rdig_neg (n : Int) (r : List UInt8) (hr : r.length ≤ 100) (h0 : -9223372036854775808 ≤ n) (h1 : n ≤ -10) (IH : ∀ (x : Int) (w : World), x = n.tdiv 10 → Calls Tryd.prog 45 #[.int .i64 x] w fun e w' => e = .returned (.string ⟨r.toArray⟩) ∧ Below w.heap.size w w') (w : World) :
    Calls Tryd.prog 45 #[.int .i64 n] w fun e w' => e = .returned (.string ⟨(r ++ [UInt8.ofNat (48 + n.natAbs % 10)]).toArray⟩) ∧ Below w.heap.size w w' := by
  have q : decide ((9 : Int) < n) = false := decide_eq_false (by omega)
  have q2 : decide (n < -9) = true := decide_eq_true (by omega)
  have hc := conv_one (48 + n.natAbs % 10) (by omega)
  generalize UInt8.ofNat (48 + n.natAbs % 10) = ch at *
  have H := Lib.hid IH
  clear IH
  have t1 : n.tmod 10 = -((n.natAbs % 10 : Nat) : Int) := by
    have e : n = -((n.natAbs : Nat) : Int) := by omega
    rw [e, Int.neg_tmod, Int.natAbs_neg, Int.natAbs_natCast]
    simp [Int.tmod_eq_emod_of_nonneg]
  have d1 : -922337203685477580 ≤ n.tdiv 10 ∧ n.tdiv 10 ≤ 0 := by
    have e := Int.tmod_add_mul_tdiv n 10
    omega
  have w1 : IntKind.i64.wrap (n.tdiv 10) = n.tdiv 10 := IntWalk.i64_in _ (by omega)
  have hm : n.natAbs % 10 < 10 := by omega
  generalize hmm : n.natAbs % 10 = m at *
  clear hmm
  have e : (((48 + m : Nat)) : Int) = 48 + (m : Int) := by omega
  rw [e] at hc
  clear e
  have w2 : IntKind.i64.wrap (48 + (m : Int)) = 48 + (m : Int) := IntWalk.i64_in _ (by omega)
  have w3 : IntKind.u8.wrap (48 + (m : Int)) = 48 + (m : Int) := IntWalk.u8_in _ (by omega)
  by_cases hz : 0 < m
  · go_enter Tryd.func45, Tryd.ntmps45
    go_wp2
    go_region_with (go_at_call 45; refine (H.out _ _ rfl).mono ?_; rintro e w' ⟨rfl, hb⟩; try (have hcx := new_kept hb))
    all_goals go_wp2
    all_goals go_ret
    all_goals refine ⟨rfl, ?_⟩
    all_goals first
      | exact below_drew_l hb
      | exact below_alloc_l (below_drew_l hb)
      | exact (below_drew_l hb).alloc (below_drew_l hb).size _
  · have hm0 : m = 0 := by omega
    subst hm0
    simp only [Int.natCast_zero, Int.neg_zero, Int.add_zero] at t1 hc
    clear w2 w3 hz hm
    have w4 : IntKind.i64.wrap 48 = 48 := IntWalk.i64_in _ (by omega)
    have w5 : IntKind.u8.wrap 48 = 48 := IntWalk.u8_in _ (by omega)
    go_enter Tryd.func45, Tryd.ntmps45
    go_wp2
    go_region_with (go_at_call 45; refine (H.out _ _ rfl).mono ?_; rintro e w' ⟨rfl, hb⟩; try (have hcx := new_kept hb))
    all_goals go_wp2
    all_goals go_ret
    all_goals refine ⟨rfl, ?_⟩
    all_goals first
      | exact below_drew_l hb
      | exact below_alloc_l (below_drew_l hb)
      | exact (below_drew_l hb).alloc (below_drew_l hb).size _
theorem decDigits_step (u : Nat) (h : 10 ≤ u) : Lib.decDigits u = Lib.decDigits (u / 10) ++ [UInt8.ofNat (48 + u % 10)] := by
  rw [Lib.decDigits, dif_neg (by omega)]
theorem tdiv_neg10 (n : Int) (h : n ≤ 0) : n.tdiv 10 = -((n.natAbs / 10 : Nat) : Int) := by
  have e : n = -((n.natAbs : Nat) : Int) := by omega
  conv => lhs; rw [e]
  rw [Int.neg_tdiv, Int.tdiv_eq_ediv_of_nonneg (by omega)]
  omega
theorem itoa_step (n : Int) (h : 10 ≤ n ∨ n ≤ -10) : Lib.itoa n = Lib.itoa (n.tdiv 10) ++ [UInt8.ofNat (48 + n.natAbs % 10)] := by
  rcases h with h | h
  · have e : n = ((n.toNat : Nat) : Int) := by omega
    have e2 : n.tdiv 10 = ((n.toNat / 10 : Nat) : Int) := by rw [Int.tdiv_eq_ediv_of_nonneg (by omega)]; omega
    have e3 : n.natAbs = n.toNat := by omega
    rw [e2, e3, Lib.itoa_nonneg, ← decDigits_step _ (by omega), ← Lib.itoa_nonneg, ← e]
  · have e : n = -((n.natAbs : Nat) : Int) := by omega
    have e2 : n.tdiv 10 = -((n.natAbs / 10 : Nat) : Int) := by
      conv => lhs; rw [e]
      rw [Int.neg_tdiv, Int.tdiv_eq_ediv_of_nonneg (by omega)]
      omega
    rw [e2, Lib.itoa_neg _ (by omega), List.cons_append, ← decDigits_step _ (by omega), ← Lib.itoa_neg _ (by omega), ← e]
set_option maxRecDepth 100000 in
theorem rdig_minus (n : Int) (h0 : -9 ≤ n) (h1 : n < 0) (w : World) :
    Calls Tryd.prog 45 #[.int .i64 n] w fun e w' => e = .returned (.string ⟨(Lib.itoa n).toArray⟩) ∧ Below w.heap.size w w' := by
  have q : decide ((9 : Int) < n) = false := decide_eq_false (by omega)
  have q2 : decide (n < -9) = false := decide_eq_false (by omega)
  have q3 : decide (n < 0) = true := decide_eq_true (by omega)
  obtain ⟨u, rfl⟩ : ∃ u : Nat, n = -(u : Int) := ⟨n.natAbs, by omega⟩
  have hu : u < 10 := by omega
  have T := Lib.hid (Lib.itoa_neg u (by omega))
  obtain ⟨d, hd⟩ : ∃ d, Lib.decDigits u = [d] := ⟨_, Lib.decDigits_one hu⟩
  have HS : ∀ W : World, Calls Tryd.prog 45 #[.int .i64 (u : Int)] W fun e w' => e = .returned (.string ⟨#[d]⟩) ∧ Below W.heap.size W w' := fun W => by
    have := rdig_small u hu W
    rw [hd] at this
    exact this
  have H := Lib.hid HS
  have D := Lib.hid hd
  clear HS hd
  go_enter Tryd.func45, Tryd.ntmps45
  go_wp2_with (go_at_call 45; refine (H.out _).mono ?_; rintro e w' ⟨rfl, hb⟩)
  go_ret
  exact ⟨by rw [T.out, D.out]; rfl, hb⟩
theorem rdig : ∀ (f : Nat) (n : Int), n.natAbs ≤ f → -9223372036854775808 ≤ n → n ≤ 9223372036854775807 → ∀ w : World,
    Calls Tryd.prog 45 #[.int .i64 n] w fun e w' => e = .returned (.string ⟨(Lib.itoa n).toArray⟩) ∧ Below w.heap.size w w' := by
  intro f
  induction f with
  | zero =>
    intro n hf _ _ w
    obtain rfl : n = 0 := by omega
    exact rdig_small 0 (by omega) w
  | succ f ih =>
    intro n hf h0 h1 w
    by_cases hp : 10 ≤ n
    · have e2 : n.tdiv 10 = n / 10 := Int.tdiv_eq_ediv_of_nonneg (by omega)
      rw [itoa_step n (.inl hp), e2]
      exact rdig_pos n _ (Nat.le_trans (Lib.itoa_length_le _ (by omega) (by omega)) (by omega)) hp h1 (fun x W hx => by subst hx; exact ih _ (by omega) (by omega) (by omega) W) w
    · by_cases hn : n ≤ -10
      · have e := tdiv_neg10 n (by omega)
        have hb : -922337203685477580 ≤ n.tdiv 10 ∧ n.tdiv 10 ≤ 0 := by omega
        rw [itoa_step n (.inr hn)]
        exact rdig_neg n _ (Nat.le_trans (Lib.itoa_length_le _ (by omega) (by omega)) (by omega)) h0 hn (fun x W hx => by subst hx; exact ih _ (by omega) (by omega) (by omega) W) w
      · by_cases hz : n < 0
        · exact rdig_minus n (by omega) hz w
        · obtain ⟨u, rfl⟩ : ∃ u : Nat, n = (u : Int) := ⟨n.toNat, by omega⟩
          rw [Lib.itoa_nonneg]
          exact rdig_small u (by omega) w
theorem rdig18 (n : Int) (h0 : -9223372036854775808 ≤ n) (h1 : n ≤ 9223372036854775807) (w : World) :
    Calls Tryd.prog 45 #[.int .i64 n] w fun e w' => e = .returned (.string ⟨(Lib.itoa n).toArray⟩) ∧ Below w.heap.size w w' := rdig _ n (Nat.le_refl _) h0 h1 w
end Ct
end YtoebnjciioiccaaDoor
end Go.Proofs
