/- The program's Shape and Target; the reference's Shape, Target and Kind. -/
import Derived.Test.YtekhkgcdgkfflaaHdE
namespace Go.Proofs
namespace Ytekhkgcdgkfflaa
open Go.RowKit

theorem tgt19 (v : Int) (hv : UI v) (w : World) :
    Calls Try.prog 19 #[.int .u64 v] w fun e w' => e = .returned (.tuple #[.int .i64 (tgtV v), .int .i64 (tgtE v)]) ∧ Below w.heap.size w w' := by
  have K := Lib.hid (fun W => read31 v hv W)
  generalize tgtV v = a at *
  generalize tgtE v = b at *
  go_enter Try.func19, Try.ntmps19
  go_wp2_with (go_at_call 31; refine (K.out _).mono ?_; rintro e w1 ⟨rfl, hb1⟩)
  go_ret2
  exact ⟨rfl, hb1⟩
set_option maxRecDepth 100000 in
theorem shp17 (v : Int) (hv : UI v) (w : World) :
    Calls Try.prog 17 #[.int .u64 v] w fun e w' => e = .returned (.tuple #[.agg #[.int .i64 (shpP v), .int .i64 (shpR v)], .int .i64 (shpE v)]) ∧ Below w.heap.size w w' := by
  have K := Lib.hid (fun W => read29 v hv W)
  generalize shpP v = P at *
  generalize shpR v = R at *
  generalize shpE v = E at *
  go_enter Try.func17, Try.ntmps17
  go_wp2_with (go_at_call 29; refine (K.out _).mono ?_; rintro e w1 ⟨rfl, hb1⟩; obtain ⟨hc1, hf1⟩ := bcell hb1; have hb2 := below_end (alloc_below _ _) hb1)
  have c0 : w1.cell? ⟨w.heap.size, 0, none⟩ = some (.int .i64 0) := by rw [hc1 _ _ (by simp)]; simp
  have c1 : w1.cell? ⟨w.heap.size, 1, none⟩ = some (.int .i64 0) := by rw [hc1 _ _ (by simp)]; simp
  obtain ⟨e0, e1⟩ := two_set (.int .i64 P) (.int .i64 R) c0 c1
  have hB : Below w.heap.size w ((w1.setCell ⟨w.heap.size, 0, none⟩ (.int .i64 P)).setCell ⟨w.heap.size, 1, none⟩ (.int .i64 R)) := (hb2.setCell (Nat.le_refl _) _).setCell (Nat.le_refl _) _
  clear c0 c1 hc1 hf1
  generalize (w1.setCell ⟨w.heap.size, 0, none⟩ (.int .i64 P)).setCell ⟨w.heap.size, 1, none⟩ (.int .i64 R) = W3 at *
  exact bodyPost_ret (v := .tuple #[.agg #[.int .i64 P, .int .i64 R], .int .i64 E]) (by simp [results, Try.f17, go_sem, e0, e1]) rfl ⟨rfl, hB⟩
set_option maxRecDepth 100000 in
theorem rtgt20 (v : Int) (hv : UI v) (w : World) :
    Calls Try.prog 20 #[.int .u64 v] w fun e w' => e = .returned (.tuple #[.int .i64 (tgtV v), .int .i64 (tgtE v)]) ∧ w = w' := by
  obtain ⟨u0, u1⟩ := hv
  by_cases hk : kindV v = 2
  · have T := Lib.hid (show tgtV v = v / 256 ∧ tgtE v = 0 from ⟨if_pos hk, if_pos hk⟩)
    obtain ⟨h1, h2, h3⟩ := kind_two.1 hk
    have q1 : (v % 256 != 2) = false := by simpa using h1
    have q2 : decide (1600 < v / 256) = false := decide_eq_false (by omega)
    have q3 : decide (v / 256 < 1) = false := decide_eq_false (by omega)
    rw [T.out.1, T.out.2]
    clear T hk h1 h2 h3
    go_enter Try.func20, Try.ntmps20
    go_wp2
    go_ret2
    exact ⟨rfl, rfl⟩
  · have T := Lib.hid (show tgtV v = 0 ∧ tgtE v = 6 from ⟨if_neg hk, if_neg hk⟩)
    have hn : ¬ (v % 256 = 2 ∧ 1 ≤ v / 256 ∧ v / 256 ≤ 1600) := fun h => hk (kind_two.2 h)
    rw [T.out.1, T.out.2]
    clear T hk
    by_cases h1 : v % 256 = 2
    · have q1 : (v % 256 != 2) = false := by simpa using h1
      by_cases h2 : 1600 < v / 256
      · have q2 : decide (1600 < v / 256) = true := decide_eq_true h2
        clear h1 hn
        go_enter Try.func20, Try.ntmps20
        go_wp2
        go_ret2
        exact ⟨rfl, rfl⟩
      · have q2 : decide (1600 < v / 256) = false := decide_eq_false h2
        have q3 : decide (v / 256 < 1) = true := decide_eq_true (by omega)
        clear h1 hn
        go_enter Try.func20, Try.ntmps20
        go_wp2
        go_ret2
        exact ⟨rfl, rfl⟩
    · have q1 : (v % 256 != 2) = true := by simpa using h1
      clear h1 hn
      go_enter Try.func20, Try.ntmps20
      go_wp2
      go_ret2
      exact ⟨rfl, rfl⟩
theorem ref_shape {v : Int} (hv : UI v) :
    (kindV v = 1 ∧ chkV (v / 256 % 256) (v / 65536 % 256) = 0 ∧ (packE (v / 256 % 256) (v / 65536 % 256) != v) = false ∧ v / 65536 % 256 = v / 65536) ∨
    (kindV v ≠ 1 ∧ ((chkV (v / 256 % 256) (v / 65536 % 256) != 0) = true ∨ (chkV (v / 256 % 256) (v / 65536 % 256) = 0 ∧ (packE (v / 256 % 256) (v / 65536 % 256) != v) = true))) := by
  obtain ⟨u0, u1⟩ := hv
  by_cases hk : kindV v = 1
  · left
    have ho := kind_one.1 hk
    obtain ⟨h1, h2⟩ := obj_spec.1 ho
    obtain ⟨m1, m2, m3⟩ := obj_mod ho
    have e : v / 65536 % 256 = v / 65536 := by omega
    refine ⟨hk, by rw [e]; exact h1, ?_, e⟩
    rw [e, show packE (v / 256 % 256) (v / 65536) = packV (v / 256 % 256) (v / 65536) from if_pos h1, h2]; simp
  · right
    refine ⟨hk, ?_⟩
    by_cases h1 : chkV (v / 256 % 256) (v / 65536 % 256) = 0
    · right
      refine ⟨h1, ?_⟩
      rw [show packE (v / 256 % 256) (v / 65536 % 256) = packV (v / 256 % 256) (v / 65536 % 256) from if_pos h1]
      simp only [bne_iff_ne, ne_eq]
      intro h2
      obtain ⟨z0, z1, z2⟩ := chk_zero.1 h1
      have h3 := h2
      unfold packV at h3
      have e : v / 65536 % 256 = v / 65536 := by omega
      rw [e] at h1 h2
      exact hk (kind_one.2 (obj_spec.2 ⟨h1, h2⟩))
    · left; simpa using h1
set_option maxRecDepth 100000 in
set_option maxHeartbeats 400000 in
theorem rshp18 (v : Int) (hv : UI v) (w : World) :
    Calls Try.prog 18 #[.int .u64 v] w fun e w' => e = .returned (.tuple #[.agg #[.int .i64 (shpP v), .int .i64 (shpR v)], .int .i64 (shpE v)]) ∧ Below w.heap.size w w' := by
  have C := ref_shape hv
  obtain ⟨u0, u1⟩ := hv
  have b1 : 0 ≤ v / 256 % 256 ∧ v / 256 % 256 ≤ 255 := by omega
  have b2 : 0 ≤ v / 65536 % 256 ∧ v / 65536 % 256 ≤ 255 := by omega
  obtain ⟨b10, b11⟩ := b1
  obtain ⟨b20, b21⟩ := b2
  have PK := Lib.hid (fun W => pack13 (v / 256 % 256) (v / 65536 % 256) ⟨by omega, by omega⟩ ⟨by omega, by omega⟩ W)
  rcases C with ⟨hk, hc, q1, hr⟩ | ⟨hk, q1⟩
  · have T := Lib.hid (show shpP v = v / 256 % 256 ∧ shpR v = v / 65536 % 256 ∧ shpE v = 0 from ⟨if_pos hk, (if_pos hk).trans hr.symm, if_pos hk⟩)
    rw [T.out.1, T.out.2.1, T.out.2.2]
    rw [hc] at PK
    clear T hk hc hr
    generalize packE (v / 256 % 256) (v / 65536 % 256) = p at *
    go_enter Try.func18, Try.ntmps18
    go_wp2_with (go_at_call 13; refine (PK.out _).mono ?_; rintro e w1 ⟨rfl, hb1⟩; obtain ⟨hc1, hf1⟩ := bcell hb1)
    have hb2 := below_end (below_end (alloc_below _ _) (alloc_below _ _)) hb1
    have c0 : w1.cell? ⟨w.heap.size, 0, none⟩ = some (.int .i64 0) := by rw [hc1 _ _ (by simp; omega)]; simp
    have c1 : w1.cell? ⟨w.heap.size, 1, none⟩ = some (.int .i64 0) := by rw [hc1 _ _ (by simp; omega)]; simp
    obtain ⟨e0, e1⟩ := two_set (.int .i64 (v / 256 % 256)) (.int .i64 (v / 65536 % 256)) c0 c1
    have hB : Below w.heap.size w ((w1.setCell ⟨w.heap.size, 0, none⟩ (.int .i64 (v / 256 % 256))).setCell ⟨w.heap.size, 1, none⟩ (.int .i64 (v / 65536 % 256))) := (hb2.setCell (Nat.le_refl _) _).setCell (Nat.le_refl _) _
    clear c0 c1 hc1 hf1 hb2
    generalize (w1.setCell ⟨w.heap.size, 0, none⟩ (.int .i64 (v / 256 % 256))).setCell ⟨w.heap.size, 1, none⟩ (.int .i64 (v / 65536 % 256)) = W3 at *
    exact bodyPost_ret (v := .tuple #[.agg #[.int .i64 (v / 256 % 256), .int .i64 (v / 65536 % 256)], .int .i64 0]) (by simp [results, Try.f18, go_sem, e0, e1]) rfl ⟨rfl, hB⟩
  · have T := Lib.hid (show shpP v = 0 ∧ shpR v = 0 ∧ shpE v = 6 from ⟨if_neg hk, if_neg hk, if_neg hk⟩)
    rw [T.out.1, T.out.2.1, T.out.2.2]
    clear T hk
    generalize packE (v / 256 % 256) (v / 65536 % 256) = p at *
    generalize chkV (v / 256 % 256) (v / 65536 % 256) = c at *
    rcases q1 with q1 | ⟨hc, q1⟩
    all_goals
      (try subst hc)
      go_enter Try.func18, Try.ntmps18
      go_wp2_with (go_at_call 13; refine (PK.out _).mono ?_; rintro e w1 ⟨rfl, hb1⟩; obtain ⟨hc1, hf1⟩ := bcell hb1)
      have hb2 := below_end (below_end (alloc_below _ _) (alloc_below _ _)) hb1
      have c0 : w1.cell? ⟨w.heap.size, 0, none⟩ = some (.int .i64 0) := by rw [hc1 _ _ (by simp; omega)]; simp
      have c1 : w1.cell? ⟨w.heap.size, 1, none⟩ = some (.int .i64 0) := by rw [hc1 _ _ (by simp; omega)]; simp
      obtain ⟨e0, e1⟩ := two_set (.int .i64 (0)) (.int .i64 (0)) c0 c1
      have hB : Below w.heap.size w ((w1.setCell ⟨w.heap.size, 0, none⟩ (.int .i64 (0))).setCell ⟨w.heap.size, 1, none⟩ (.int .i64 (0))) := (hb2.setCell (Nat.le_refl _) _).setCell (Nat.le_refl _) _
      clear c0 c1 hc1 hf1 hb2
      generalize (w1.setCell ⟨w.heap.size, 0, none⟩ (.int .i64 (0))).setCell ⟨w.heap.size, 1, none⟩ (.int .i64 (0)) = W3 at *
      exact bodyPost_ret (v := .tuple #[.agg #[.int .i64 (0), .int .i64 (0)], .int .i64 6]) (by simp [results, Try.f18, go_sem, e0, e1]) rfl ⟨rfl, hB⟩
theorem kind_val (v : Int) : (kindV v = 1 ∧ shpE v = 0) ∨ (kindV v = 2 ∧ (shpE v == 0) = false ∧ tgtE v = 0) ∨ (kindV v = 0 ∧ (shpE v == 0) = false ∧ (tgtE v == 0) = false) := by
  rcases kind_range v with h | h | h
  · right; right
    exact ⟨h, by unfold shpE; rw [if_neg (by omega)]; rfl, by unfold tgtE; rw [if_neg (by omega)]; rfl⟩
  · left; exact ⟨h, if_pos h⟩
  · right; left
    exact ⟨h, by unfold shpE; rw [if_neg (by omega)]; rfl, if_pos h⟩
set_option maxRecDepth 100000 in
set_option maxHeartbeats 400000 in
theorem rkind22 (v : Int) (hv : UI v) (w : World) :
    Calls Try.prog 22 #[.int .u64 v] w fun e w' => e = .returned (.int .i64 (kindV v)) ∧ Below w.heap.size w w' := by
  have S := Lib.hid (fun W => rshp18 v hv W)
  have G := Lib.hid (fun W => rtgt20 v hv W)
  have C := kind_val v
  clear hv
  generalize shpE v = se at *
  generalize shpP v = P at *
  generalize shpR v = R at *
  generalize tgtE v = te at *
  generalize tgtV v = a at *
  rcases C with ⟨hk, hs⟩ | ⟨hk, q1, ht⟩ | ⟨hk, q1, q2⟩
  all_goals
    (try subst hs)
    (try subst ht)
    rw [hk]
    clear hk
    go_enter Try.func22, Try.ntmps22
    go_wp2_with (first
      | (go_at_call 18; refine (S.out _).mono ?_; rintro e w1 ⟨rfl, hb1⟩)
      | (go_at_call 20; refine (G.out _).mono ?_; rintro e w' ⟨rfl, rfl⟩))
    go_ret
    exact ⟨rfl, by first | exact (hb1.alloc hb1.size _) | exact ((hb1.alloc hb1.size _).setCell hb1.size _).setCell hb1.size _⟩
end Ytekhkgcdgkfflaa
end Go.Proofs
