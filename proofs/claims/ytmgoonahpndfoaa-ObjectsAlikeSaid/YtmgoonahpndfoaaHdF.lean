/- The program's Shape and Target; the reference's Shape, Target and Kind. -/
import Derived.Test.YtmgoonahpndfoaaHdE
namespace Go.Proofs
namespace Ytmgoonahpndfoaa
namespace Hd
open Go.RowKit

set_option maxRecDepth 100000 in
theorem shp63 (v : Int) (hv : UI v) (w : World) :
    Calls Try.prog 63 #[.int .u64 v] w fun e w' => e = .returned (.tuple #[.agg #[.int .i64 (shpP v), .int .i64 (shpR v)], .int .i64 (shpE v)]) ∧ Below w.heap.size w w' := by
  have K := Lib.hid (fun W => read75 v hv W)
  generalize shpP v = P at *
  generalize shpR v = R at *
  generalize shpE v = E at *
  go_enter Try.func63, Try.ntmps63
  go_wp2_with (go_at_call 75; refine (K.out _).mono ?_; rintro e w1 ⟨rfl, hb1⟩; obtain ⟨hc1, hf1⟩ := bcell hb1; have hb2 := below_end (alloc_below _ _) hb1)
  have c0 : w1.cell? ⟨w.heap.size, 0, none⟩ = some (.int .i64 0) := by rw [hc1 _ _ (by simp)]; simp
  have c1 : w1.cell? ⟨w.heap.size, 1, none⟩ = some (.int .i64 0) := by rw [hc1 _ _ (by simp)]; simp
  obtain ⟨e0, e1⟩ := two_set (.int .i64 P) (.int .i64 R) c0 c1
  have hB : Below w.heap.size w ((w1.setCell ⟨w.heap.size, 0, none⟩ (.int .i64 P)).setCell ⟨w.heap.size, 1, none⟩ (.int .i64 R)) := (hb2.setCell (Nat.le_refl _) _).setCell (Nat.le_refl _) _
  clear c0 c1 hc1 hf1
  generalize (w1.setCell ⟨w.heap.size, 0, none⟩ (.int .i64 P)).setCell ⟨w.heap.size, 1, none⟩ (.int .i64 R) = W3 at *
  exact bodyPost_ret (v := .tuple #[.agg #[.int .i64 P, .int .i64 R], .int .i64 E]) (by simp [results, Try.f63, go_sem, e0, e1]) rfl ⟨rfl, hB⟩
theorem ref_shape {v : Int} (hv : UI v) :
    (kindV v = 1 ∧ chkV (v / 256 % 256) (v / 65536 % 256) = 0 ∧ (packE (v / 256 % 256) (v / 65536 % 256) != v) = false ∧ v / 65536 % 256 = v / 65536) ∨
    (kindV v ≠ 1 ∧ ((chkV (v / 256 % 256) (v / 65536 % 256) != 0) = true ∨ (chkV (v / 256 % 256) (v / 65536 % 256) = 0 ∧ (packE (v / 256 % 256) (v / 65536 % 256) != v) = true))) := by
  obtain ⟨u0, u1⟩ := hv
  by_cases hk : kindV v = 1
  · left
    have ho := kind_one.1 hk
    obtain ⟨h1, h2⟩ := obj_spec.1 ho
    obtain ⟨m1, m2, m3⟩ := obj_mod ho
    have e : v / 65536 % 256 = v / 65536 := by omega
    refine ⟨hk, by rw [e]; exact h1, ?_, e⟩
    rw [e, show packE (v / 256 % 256) (v / 65536) = packV (v / 256 % 256) (v / 65536) from if_pos h1, h2]; simp
  · right
    refine ⟨hk, ?_⟩
    by_cases h1 : chkV (v / 256 % 256) (v / 65536 % 256) = 0
    · right
      refine ⟨h1, ?_⟩
      rw [show packE (v / 256 % 256) (v / 65536 % 256) = packV (v / 256 % 256) (v / 65536 % 256) from if_pos h1]
      simp only [bne_iff_ne, ne_eq]
      intro h2
      obtain ⟨z0, z1, z2⟩ := chk_zero.1 h1
      have h3 := h2
      unfold packV at h3
      have e : v / 65536 % 256 = v / 65536 := by omega
      rw [e] at h1 h2
      exact hk (kind_one.2 (obj_spec.2 ⟨h1, h2⟩))
    · left; simpa using h1
set_option maxRecDepth 100000 in
set_option maxHeartbeats 400000 in
theorem rshp50 (v : Int) (hv : UI v) (w : World) :
    Calls Try.prog 50 #[.int .u64 v] w fun e w' => e = .returned (.tuple #[.agg #[.int .i64 (shpP v), .int .i64 (shpR v)], .int .i64 (shpE v)]) ∧ Below w.heap.size w w' := by
  have C := ref_shape hv
  obtain ⟨u0, u1⟩ := hv
  have b1 : 0 ≤ v / 256 % 256 ∧ v / 256 % 256 ≤ 255 := by omega
  have b2 : 0 ≤ v / 65536 % 256 ∧ v / 65536 % 256 ≤ 255 := by omega
  obtain ⟨b10, b11⟩ := b1
  obtain ⟨b20, b21⟩ := b2
  have PK := Lib.hid (fun W => pack46 (v / 256 % 256) (v / 65536 % 256) ⟨by omega, by omega⟩ ⟨by omega, by omega⟩ W)
  rcases C with ⟨hk, hc, q1, hr⟩ | ⟨hk, q1⟩
  · have T := Lib.hid (show shpP v = v / 256 % 256 ∧ shpR v = v / 65536 % 256 ∧ shpE v = 0 from ⟨if_pos hk, (if_pos hk).trans hr.symm, if_pos hk⟩)
    rw [T.out.1, T.out.2.1, T.out.2.2]
    rw [hc] at PK
    clear T hk hc hr
    generalize packE (v / 256 % 256) (v / 65536 % 256) = p at *
    go_enter Try.func50, Try.ntmps50
    go_wp2_with (go_at_call 46; refine (PK.out _).mono ?_; rintro e w1 ⟨rfl, hb1⟩; obtain ⟨hc1, hf1⟩ := bcell hb1)
    have hb2 := below_end (below_end (alloc_below _ _) (alloc_below _ _)) hb1
    have c0 : w1.cell? ⟨w.heap.size, 0, none⟩ = some (.int .i64 0) := by rw [hc1 _ _ (by simp; omega)]; simp
    have c1 : w1.cell? ⟨w.heap.size, 1, none⟩ = some (.int .i64 0) := by rw [hc1 _ _ (by simp; omega)]; simp
    obtain ⟨e0, e1⟩ := two_set (.int .i64 (v / 256 % 256)) (.int .i64 (v / 65536 % 256)) c0 c1
    have hB : Below w.heap.size w ((w1.setCell ⟨w.heap.size, 0, none⟩ (.int .i64 (v / 256 % 256))).setCell ⟨w.heap.size, 1, none⟩ (.int .i64 (v / 65536 % 256))) := (hb2.setCell (Nat.le_refl _) _).setCell (Nat.le_refl _) _
    clear c0 c1 hc1 hf1 hb2
    generalize (w1.setCell ⟨w.heap.size, 0, none⟩ (.int .i64 (v / 256 % 256))).setCell ⟨w.heap.size, 1, none⟩ (.int .i64 (v / 65536 % 256)) = W3 at *
    exact bodyPost_ret (v := .tuple #[.agg #[.int .i64 (v / 256 % 256), .int .i64 (v / 65536 % 256)], .int .i64 0]) (by simp [results, Try.f50, go_sem, e0, e1]) rfl ⟨rfl, hB⟩
  · have T := Lib.hid (show shpP v = 0 ∧ shpR v = 0 ∧ shpE v = 6 from ⟨if_neg hk, if_neg hk, if_neg hk⟩)
    rw [T.out.1, T.out.2.1, T.out.2.2]
    clear T hk
    generalize packE (v / 256 % 256) (v / 65536 % 256) = p at *
    generalize chkV (v / 256 % 256) (v / 65536 % 256) = c at *
    rcases q1 with q1 | ⟨hc, q1⟩
    all_goals
      (try subst hc)
      go_enter Try.func50, Try.ntmps50
      go_wp2_with (go_at_call 46; refine (PK.out _).mono ?_; rintro e w1 ⟨rfl, hb1⟩; obtain ⟨hc1, hf1⟩ := bcell hb1)
      have hb2 := below_end (below_end (alloc_below _ _) (alloc_below _ _)) hb1
      have c0 : w1.cell? ⟨w.heap.size, 0, none⟩ = some (.int .i64 0) := by rw [hc1 _ _ (by simp; omega)]; simp
      have c1 : w1.cell? ⟨w.heap.size, 1, none⟩ = some (.int .i64 0) := by rw [hc1 _ _ (by simp; omega)]; simp
      obtain ⟨e0, e1⟩ := two_set (.int .i64 (0)) (.int .i64 (0)) c0 c1
      have hB : Below w.heap.size w ((w1.setCell ⟨w.heap.size, 0, none⟩ (.int .i64 (0))).setCell ⟨w.heap.size, 1, none⟩ (.int .i64 (0))) := (hb2.setCell (Nat.le_refl _) _).setCell (Nat.le_refl _) _
      clear c0 c1 hc1 hf1 hb2
      generalize (w1.setCell ⟨w.heap.size, 0, none⟩ (.int .i64 (0))).setCell ⟨w.heap.size, 1, none⟩ (.int .i64 (0)) = W3 at *
      exact bodyPost_ret (v := .tuple #[.agg #[.int .i64 (0), .int .i64 (0)], .int .i64 6]) (by simp [results, Try.f50, go_sem, e0, e1]) rfl ⟨rfl, hB⟩
end Hd
end Ytmgoonahpndfoaa
end Go.Proofs
