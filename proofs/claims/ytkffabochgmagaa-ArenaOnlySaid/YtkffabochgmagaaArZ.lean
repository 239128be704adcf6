/- Zero, cmp.Or and Differ. -/
import Derived.Test.YtkffabochgmagaaArC
import Derived.Test.YtkffabochgmagaaArS
namespace Go.Proofs
namespace Ytkffabochgmagaa
open Go.RowKit

theorem part_diff {len : Nat} {a b : Int} (hl : len ≤ 1601) (h1 : -9223372036854775808 ≤ a) (h2 : a ≤ 9223372036854775807) (h3 : -9223372036854775808 ≤ b) (h4 : b ≤ 9223372036854775807) : partB len a (IntKind.i64.wrap (b - a)) = partB len a (b - a) := by
  by_cases ha : 1 ≤ a ∧ a ≤ len
  · by_cases hs : -9223372036854775808 ≤ b - a
    · have : IntKind.i64.wrap (b - a) = b - a := by
        simp [IntKind.wrap, IntKind.signed, IntKind.bits]
        omega
      rw [this]
    · have : IntKind.i64.wrap (b - a) = b - a + 18446744073709551616 := by
        simp [IntKind.wrap, IntKind.signed, IntKind.bits]
        omega
      rw [this, Bool.eq_iff_iff, partB_spec, partB_spec]
      omega
  · rw [Bool.eq_iff_iff, partB_spec, partB_spec]
    omega

theorem all_zero (zs : List Int) (k m : Nat) (h : k + m ≤ zs.length) : ((zs.take (k + m)).drop k).all (fun z => decide (z = 0)) = decide (∀ q, q < m → zs.getD (k + q) 0 = 0) := by
  rw [Bool.eq_iff_iff, List.all_eq_true, decide_eq_true_eq]
  constructor
  · intro hall q hq
    have hx : ((zs.take (k + m)).drop k)[q]? = some (zs.getD (k + q) 0) := by
      rw [List.getElem?_drop, List.getElem?_take, if_pos (by omega), List.getD_eq_getElem?_getD, List.getElem?_eq_getElem (by omega)]
      rfl
    have := hall _ (List.mem_of_getElem? hx)
    simpa using this
  · intro hq x hx
    obtain ⟨q, hq2⟩ := List.getElem?_of_mem hx
    rw [List.getElem?_drop, List.getElem?_take] at hq2
    split at hq2
    · have := hq q (by omega)
      rw [List.getD_eq_getElem?_getD, hq2] at this
      simpa using this
    · cases hq2
set_option maxRecDepth 100000 in
set_option maxHeartbeats 1000000 in
theorem zero24_ok (A : Option Addr) (cap : Nat) (zs : List Int) (k l : Nat) (w : World) (h : WAt w (.slice A zs.length cap) zs) (hcap : zs.length < cap + 1) (hc : chkF zs = 0) (hk1 : 1 ≤ k) (hkl : k ≤ l) (hl : l ≤ zs.length) (hkz : k < zs.length) :
    Calls Try.prog 24 #[.slice A zs.length cap, .int .i64 k, .int .i64 l] w fun e w' => e = .returned (.tuple #[.bool (zeroF zs k l).1, .int .i64 (zeroF zs k l).2]) ∧ w = w' := by
  have hll : 1 ≤ zs.length ∧ zs.length ≤ 1601 := by
    apply Classical.byContradiction
    intro hn
    rw [chk_long (by omega)] at hc
    cases hc
  have C14 := check14 _ zs w h (by omega)
  rw [hc] at C14
  have C := Lib.hid C14
  have hp : partB zs.length k ((l : Int) - (k : Int)) = true := partB_spec.2 (by omega)
  have PX := Lib.hid (show ∀ (n : Int) (W : World), n = (l : Int) - (k : Int) → Calls Try.prog 36 #[.slice A zs.length cap, .int .i64 (k : Int), .int .i64 n] W fun e w' => e = .returned (.bool true) ∧ W = w' from fun n W hn => by
    subst hn
    have := part36 A zs.length cap k ((l : Int) - (k : Int)) W (by omega)
    rw [hp] at this
    exact this)
  have T := Lib.hid (show zeroF zs k l = (((zs.take l).drop k).all (fun z => decide (z = 0)), 0) by unfold zeroF; rw [if_neg (by simp [hc]), if_pos hp]; rfl)
  obtain ⟨A', cap', e, hA⟩ := h
  simp only [Value.slice.injEq] at e
  obtain ⟨rfl, _, rfl⟩ := e
  obtain ⟨b, off, rfl, hcell⟩ := hA (by omega)
  have HC := Lib.hid hcell
  have h1 : (k : Int) ≤ (l : Int) := by omega
  have h2 : (l : Int) ≤ (zs.length : Int) := by omega
  have h3 : (0 : Int) ≤ (k : Int) := by omega
  have h4 : (0 : Int) ≤ (l : Int) := by omega
  have h5 : (k : Int) ≤ (zs.length : Int) := by omega
  have h6 : (l : Int) ≤ (cap : Int) := by omega
  have h7 : (k : Int) ≤ (cap : Int) := by omega
  clear hp C14 hc hA hcell
  have h8 : (k : Int) < (cap : Int) := by omega
  obtain ⟨m, hm⟩ : ∃ m, l - k = m := ⟨_, rfl⟩
  have hlm := Lib.hid (show l = k + m by omega)
  have AZ := Lib.hid (all_zero zs k m (by omega))
  have hmz : k + m ≤ zs.length := by omega
  go_enter Try.func24, Try.ntmps24
  go_wp2_with (first
    | (go_at_call 14; refine C.out.mono ?_; rintro e w' ⟨rfl, rfl⟩)
    | (go_at_call 36; refine (PX.out _ _ rfl).mono ?_; rintro e w' ⟨rfl, rfl⟩))
  go_loopw [28] (fun i wr => ∃ j : Nat, j ≤ m ∧ i = .int .i64 j ∧ Hid (w = wr) ∧ Hid (∀ q, q < j → zs.getD (k + q) 0 = 0)) (fun i _ => m - (intOf i).toNat)
  case atStart => exact ⟨0, by omega, rfl, Lib.hid rfl, Lib.hid (fun q hq => by omega)⟩
  case round =>
    obtain ⟨j, hj, rfl, hw, HZ⟩ := hrel
    by_cases hlt : j < m
    · have hlt' : (j : Int) < (m : Int) := by omega
      have d : wr.cell? ⟨b, off + k + j, none⟩ = some (.int .u64 (zs.getD (k + j) 0)) := by rw [← hw.out, Nat.add_assoc]; exact HC.out _ _ (wc_get zs (k + j) (by omega))
      by_cases hz : zs.getD (k + j) 0 = 0
      · have H2 := Lib.hid (show ∀ q, q < j + 1 → zs.getD (k + q) 0 = 0 from fun q hq => by
          rcases Nat.lt_or_ge q j with h | h
          · exact HZ.out q h
          · obtain rfl : q = j := by omega
            exact hz)
        rw [hz] at d
        clear hz
        go_wp2
        refine ⟨⟨j + 1, by omega, by simp, hw, H2⟩, ?_⟩
        show m - ((j : Int) + 1).toNat < m - ((j : Int)).toNat
        omega
      · have F := Lib.hid (show zeroF zs k l = (false, 0) by
          rw [T.out, hlm.out, AZ.out, decide_eq_false (fun h => hz (h j hlt))])
        have qz : (zs.getD (k + j) 0 != 0) = true := by simpa using hz
        clear hz
        generalize zs.getD (k + j) 0 = z at *
        go_wp2
        exact bodyPost_ret (v := .tuple #[.bool false, .int .i64 0]) (by simp [results, Try.f24, go_sem]) rfl ⟨by rw [F.out], hw.out⟩
    · have ek : j = m := by omega
      subst ek
      have F := Lib.hid (show zeroF zs k l = (true, 0) by
        rw [T.out, hlm.out, AZ.out, decide_eq_true HZ.out])
      go_wp2
      exact bodyPost_ret (v := .tuple #[.bool true, .int .i64 0]) (by simp [results, Try.f24, go_sem]) rfl ⟨by rw [F.out], hw.out⟩
end Ytkffabochgmagaa
end Go.Proofs
