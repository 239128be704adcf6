/- The document's Place and Car. -/
import Derived.Test.YtjkphacidpongaaGreatG12
namespace Go.Proofs
namespace YtjkphacidpongaaGreat
namespace Cf
open Go.RowKit

set_option maxRecDepth 100000 in
set_option maxHeartbeats 1000000 in
theorem place29_bad (C N S K Q a : Int) (hg : ¬ good C N S K Q) (w : World) :
    Calls Tryz.prog 72 #[.agg #[.int .i64 C, .int .i64 N, .int .i64 S, .int .i64 K, .int .i64 Q], .int .i64 a] w fun e w' => e = .returned (.tuple #[.int .i64 0, .int .i64 0, .int .i64 7]) ∧ Below w.heap.size w w' := by
  have F17 := Lib.hid (words17_bad C N S K Q hg)
  clear hg
  go_enter Tryz.func72, Tryz.ntmps72
  go_wp2_with (go_at_call 71; refine (F17.out _).mono ?_; rintro e w1 ⟨rfl, hb1⟩)
  go_ret3
  exact ⟨rfl, below_alloc_l hb1⟩
set_option maxRecDepth 100000 in
set_option maxHeartbeats 1000000 in
theorem place29_out (C N S K Q a : Int) (hg : good C N S K Q) (ha : a < 1 ∨ 1 + S + N * C - 1 < a) (w : World) :
    Calls Tryz.prog 72 #[.agg #[.int .i64 C, .int .i64 N, .int .i64 S, .int .i64 K, .int .i64 Q], .int .i64 a] w fun e w' => e = .returned (.tuple #[.int .i64 0, .int .i64 0, .int .i64 7]) ∧ Below w.heap.size w w' := by
  have F17 := Lib.hid (words17_good C N S K Q hg)
  obtain ⟨c0, c1, n0, n1, z0, z1, k0, k1, q0, q1⟩ := hg
  have m := mul_range (show 0 ≤ N by omega) n1 (show 0 ≤ C by omega) c1
  obtain ⟨m0, m1⟩ := m
  simp only [Int.reduceMul] at m1
  go_enter Tryz.func72, Tryz.ntmps72
  go_wp2_with (first
    | (go_at_call 71; refine (F17.out _).mono ?_; rintro e w1 ⟨rfl, hb1⟩)
    | (go_at_call 79; refine (in37_no _ _ _ (by omega) _).mono ?_; rintro e w' ⟨rfl, rfl⟩))
  go_ret3
  exact ⟨rfl, below_alloc_l hb1⟩
set_option maxRecDepth 100000 in
set_option maxHeartbeats 4000000 in
theorem place29_in (C N S K Q a : Int) (hg : good C N S K Q) (ha0 : 1 ≤ a) (ha1 : a < 1 + S + N * C) (w : World) :
    Calls Tryz.prog 72 #[.agg #[.int .i64 C, .int .i64 N, .int .i64 S, .int .i64 K, .int .i64 Q], .int .i64 a] w fun e w' => e = .returned (.tuple #[.int .i64 (placeC C S a), .int .i64 (placeO C S a), .int .i64 0]) ∧ Below w.heap.size w w' := by
  have HG := Lib.hid hg
  have F17 := Lib.hid (words17_good C N S K Q hg)
  have s0 := Lib.hid (box_new w C N S K Q)
  obtain ⟨c0, c1, n0, n1, z0, z1, k0, k1, q0, q1⟩ := hg
  have m := mul_range (show 0 ≤ N by omega) n1 (show 0 ≤ C by omega) c1
  obtain ⟨m0, m1⟩ := m
  simp only [Int.reduceMul] at m1
  go_enter Tryz.func72, Tryz.ntmps72
  go_wp2_with (first
    | (go_at_call 71; refine (F17.out _).mono ?_; rintro e w1 ⟨rfl, hb1⟩; have s1 := Lib.hid (box_below s0.out hb1); clear hb1)
    | (go_at_call 79; refine (in37_yes _ _ _ (by omega) (by omega) _).mono ?_; rintro e w' ⟨rfl, rfl⟩))
  go_loopw [9] (fun cr wr => ∃ c : Int, -1 ≤ c ∧ c ≤ N ∧ cr = .int .i64 c ∧ startV C S c ≤ a ∧ Hid (wr.cell? ⟨w.heap.size, 0, none⟩ = some (.int .i64 C) ∧ wr.cell? ⟨w.heap.size, 1, none⟩ = some (.int .i64 N) ∧ wr.cell? ⟨w.heap.size, 2, none⟩ = some (.int .i64 S) ∧ wr.cell? ⟨w.heap.size, 3, none⟩ = some (.int .i64 K) ∧ wr.cell? ⟨w.heap.size, 4, none⟩ = some (.int .i64 Q) ∧ w.heap.size < wr.heap.size ∧ Below w.heap.size w wr)) (fun cr _ => (N - intOf cr).toNat)
  case atStart => exact ⟨-1, by omega, by omega, rfl, ha0, s1⟩
  case round =>
    obtain ⟨c, hc0, hc1, rfl, hst, hs⟩ := hrel
    obtain ⟨a0, a1, a2, a3, a4, hz, _⟩ := hs.out
    have hlt : c < N := by
      have NV : startV C S N = 1 + S + N * C := by unfold startV; rw [if_neg (by omega)]
      rcases Int.lt_or_eq_of_le hc1 with h | h
      · exact h
      · subst h; omega
    have hic : inCar N c := ⟨hc0, hlt⟩
    have r := start_range C N S K Q c HG.out hic
    have FS := Lib.hid (space25_in C N S K Q c ⟨HG.out, hic⟩)
    have NX := Lib.hid (start_next C S c hc0)
    have PO := Lib.hid (place_of C N S K Q c a HG.out hic hst)
    obtain ⟨p, hp⟩ : ∃ p, startV C S c = p := ⟨_, rfl⟩
    obtain ⟨q, hq⟩ : ∃ q, endV C S c = q := ⟨_, rfl⟩
    rw [hp] at FS r PO hst
    rw [hq] at FS r PO NX
    clear hp hq hic
    obtain ⟨p0, p1, p2⟩ := r
    by_cases hin : a < q
    · have P1 := Lib.hid (PO.out hin).2.1
      have P2 := Lib.hid (PO.out hin).2.2
      go_wp2_with (go_at_call 63; refine (FS.out _).mono ?_; rintro e w2 ⟨rfl, hb⟩; have s2 := Lib.hid (box_below hs.out hb); clear hb)
      go_ret3
      exact ⟨by rw [P1.out, P2.out]; rfl, s2.out.2.2.2.2.2.2⟩
    · go_wp2_with (go_at_call 63; refine (FS.out _).mono ?_; rintro e w2 ⟨rfl, hb⟩; have s2 := Lib.hid (box_below hs.out hb); clear hb)
      go_roundw
      case rel => exact ⟨c + 1, by omega, by omega, by go_num, by rw [NX.out]; omega, s2⟩
      case measure => simp [intOf]; omega
theorem car27_of (C N S K Q a p o e : Int) (H : Hid (∀ W : World, Calls Tryz.prog 72 #[.agg #[.int .i64 C, .int .i64 N, .int .i64 S, .int .i64 K, .int .i64 Q], .int .i64 a] W fun E w' => E = .returned (.tuple #[.int .i64 p, .int .i64 o, .int .i64 e]) ∧ Below W.heap.size W w')) (w : World) :
    Calls Tryz.prog 35 #[.agg #[.int .i64 C, .int .i64 N, .int .i64 S, .int .i64 K, .int .i64 Q], .int .i64 a] w fun E w' => E = .returned (.tuple #[.int .i64 p, .int .i64 e]) ∧ Below w.heap.size w w' := by
  go_enter Tryz.func35, Tryz.ntmps35
  go_wp2_with (go_at_call 72; refine (H.out _).mono ?_; rintro e w1 ⟨rfl, hb1⟩)
  go_ret2
  exact ⟨rfl, below_alloc_l hb1⟩

def placeOk (C N S K Q a : Int) : Prop := good C N S K Q ∧ inWords C N S a
instance (C N S K Q a : Int) : Decidable (placeOk C N S K Q a) := by unfold placeOk; infer_instance
def plC (C N S K Q a : Int) : Int := if placeOk C N S K Q a then placeC C S a else 0
def plO (C N S K Q a : Int) : Int := if placeOk C N S K Q a then placeO C S a else 0
def plE (C N S K Q a : Int) : Int := if placeOk C N S K Q a then 0 else 7
theorem place28 (C N S K Q a : Int) (w : World) :
    Calls Tryz.prog 100 #[.agg #[.int .i64 C, .int .i64 N, .int .i64 S, .int .i64 K, .int .i64 Q], .int .i64 a] w fun e w' => e = .returned (.tuple #[.int .i64 (plC C N S K Q a), .int .i64 (plO C N S K Q a), .int .i64 (plE C N S K Q a)]) ∧ Below w.heap.size w w' := by
  unfold plC plO plE
  by_cases hy : placeOk C N S K Q a
  · rw [if_pos hy, if_pos hy, if_pos hy]; exact place28_in C N S K Q a hy.1 hy.2 w
  · rw [if_neg hy, if_neg hy, if_neg hy]
    by_cases hg : good C N S K Q
    · exact place28_out C N S K Q a hg (fun h => hy ⟨hg, h⟩) w
    · exact place28_bad C N S K Q a hg w
theorem place29 (C N S K Q a : Int) (w : World) :
    Calls Tryz.prog 72 #[.agg #[.int .i64 C, .int .i64 N, .int .i64 S, .int .i64 K, .int .i64 Q], .int .i64 a] w fun e w' => e = .returned (.tuple #[.int .i64 (plC C N S K Q a), .int .i64 (plO C N S K Q a), .int .i64 (plE C N S K Q a)]) ∧ Below w.heap.size w w' := by
  unfold plC plO plE
  by_cases hy : placeOk C N S K Q a
  · rw [if_pos hy, if_pos hy, if_pos hy]; exact place29_in C N S K Q a hy.1 hy.2.1 hy.2.2 w
  · rw [if_neg hy, if_neg hy, if_neg hy]
    by_cases hg : good C N S K Q
    · exact place29_out C N S K Q a hg (by have : ¬ inWords C N S a := fun h => hy ⟨hg, h⟩; unfold inWords at this; omega) w
    · exact place29_bad C N S K Q a hg w
end Cf
end YtjkphacidpongaaGreat
end Go.Proofs
