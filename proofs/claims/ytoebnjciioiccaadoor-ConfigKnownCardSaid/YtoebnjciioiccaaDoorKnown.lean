/- The law ConfigKnown. -/
import Derived.Test.YtoebnjciioiccaaDoorCar
namespace Go.Proofs
namespace YtoebnjciioiccaaDoor
open Go.RowKit

theorem kn18 (w : World) : Calls Tryd.prog 18 #[.agg #[.int .i64 8, .int .i64 7, .int .i64 4, .int .i64 1, .int .i64 2]] w fun e w' => e = .returned (.tuple #[.int .i64 4, .int .i64 0]) ∧ Below w.heap.size w w' := by
  have h := largest18_good 8 7 4 1 2 goodA w
  exact h
theorem kn20 (w : World) : Calls Tryd.prog 20 #[.agg #[.int .i64 8, .int .i64 7, .int .i64 4, .int .i64 1, .int .i64 2]] w fun e w' => e = .returned (.tuple #[.int .i64 8, .int .i64 0]) ∧ Below w.heap.size w w' := by
  have h := budget20_good 8 7 4 1 2 goodA w
  exact h
theorem kn24 (w : World) : Calls Tryd.prog 24 #[.agg #[.int .i64 8, .int .i64 7, .int .i64 4, .int .i64 1, .int .i64 2], .int .i64 (-1)] w fun e w' => e = .returned (.tuple #[.int .i64 1, .int .i64 5, .int .i64 0]) ∧ Below w.heap.size w w' := by
  have h := space24_nur 8 7 4 1 2 goodA w
  exact h
theorem kn28_4 (w : World) : Calls Tryd.prog 28 #[.agg #[.int .i64 8, .int .i64 7, .int .i64 4, .int .i64 1, .int .i64 2], .int .i64 4] w fun e w' => e = .returned (.tuple #[.int .i64 (-1), .int .i64 3, .int .i64 0]) ∧ Below w.heap.size w w' := by
  have h := place28_in 8 7 4 1 2 4 goodA (by decide) w
  exact h
theorem kn28_5 (w : World) : Calls Tryd.prog 28 #[.agg #[.int .i64 8, .int .i64 7, .int .i64 4, .int .i64 1, .int .i64 2], .int .i64 5] w fun e w' => e = .returned (.tuple #[.int .i64 0, .int .i64 0, .int .i64 0]) ∧ Below w.heap.size w w' := by
  have h := place28_in 8 7 4 1 2 5 goodA (by decide) w
  exact h
theorem kn28_60 (w : World) : Calls Tryd.prog 28 #[.agg #[.int .i64 8, .int .i64 7, .int .i64 4, .int .i64 1, .int .i64 2], .int .i64 60] w fun e w' => e = .returned (.tuple #[.int .i64 6, .int .i64 7, .int .i64 0]) ∧ Below w.heap.size w w' := by
  have h := place28_in 8 7 4 1 2 60 goodA (by decide) w
  exact h
theorem kn26 (w : World) : Calls Tryd.prog 26 #[.agg #[.int .i64 8, .int .i64 7, .int .i64 4, .int .i64 1, .int .i64 2], .int .i64 61] w fun e w' => e = .returned (.tuple #[.int .i64 0, .int .i64 7]) ∧ Below w.heap.size w w' := by
  exact car26_of 8 7 4 1 2 61 0 0 7 (Lib.hid (place28_out 8 7 4 1 2 61 goodA (by decide))) w
theorem kn30 (w : World) : Calls Tryd.prog 30 #[.agg #[.int .i64 8, .int .i64 7, .int .i64 4, .int .i64 1, .int .i64 2], .int .i64 (-1), .int .i64 4] w fun e w' => e = .returned (.tuple #[.int .i64 0, .int .i64 7]) ∧ Below w.heap.size w w' := by
  have h := addr30 8 7 4 1 2 (-1) 4 w
  have e1 : addrR 8 7 4 1 2 (-1) 4 = 0 := by decide
  have e2 : addrE 8 7 4 1 2 (-1) 4 = 7 := by decide
  rwa [e1, e2] at h
theorem kn11_4 (w : World) : Calls Tryd.prog 11 #[.agg #[.int .i64 8, .int .i64 7, .int .i64 4, .int .i64 1, .int .i64 2], .int .i64 4] w fun e w' => e = .returned (.tuple #[.bool true, .int .i64 0]) ∧ Below w.heap.size w w' := by
  exact fits11_yes 8 7 4 1 2 4 goodA (by decide) (by decide) w
theorem kn11_5 (w : World) : Calls Tryd.prog 11 #[.agg #[.int .i64 8, .int .i64 7, .int .i64 4, .int .i64 1, .int .i64 2], .int .i64 5] w fun e w' => e = .returned (.tuple #[.bool false, .int .i64 0]) ∧ Below w.heap.size w w' := by
  exact fits11_no 8 7 4 1 2 5 goodA (by decide) w
theorem kn13 (w : World) : Calls Tryd.prog 13 #[.agg #[.int .i64 8, .int .i64 6, .int .i64 4, .int .i64 1, .int .i64 2]] w fun e w' => e = .returned (.int .i64 7) ∧ Below w.heap.size w w' :=
  chk13_bad 8 6 4 1 2 (by decide) w

set_option maxRecDepth 100000 in
set_option maxHeartbeats 4000000 in
theorem known10 (w : World) : Calls Tryd.prog 10 #[] w fun e w' => e = .returned (.bool true) ∧ Below w.heap.size w w' := by
  have hB0 := Below.refl w.heap.size w
  go_enter Tryd.func10, Tryd.ntmps10
  go_wp2_with (first
    | (go_at_call 36; refine (small36 _).mono ?_; rintro e w1 ⟨rfl, rfl⟩)
    | (go_at_call 18; refine (kn18 _).mono ?_; rintro e w1 ⟨rfl, hb1⟩; have hB1 := hB0.trans (below_alloc_l hb1); clear hb1)
    | (go_at_call 20; refine (kn20 _).mono ?_; rintro e w2 ⟨rfl, hb2⟩; have hB2 := hB1.trans ((below_alloc_l hb2).mono hB1.size); clear hb2)
    | (go_at_call 24; refine (kn24 _).mono ?_; rintro e w3 ⟨rfl, hb3⟩; have hB3 := hB2.trans ((below_alloc_l hb3).mono hB2.size); clear hb3))
  have H8 := Lib.hid (show (((w3.alloc (.cells #[.int .i64 4, .int .i64 5, .int .i64 60] 45)).alloc (.cells #[.int .i64 (-1), .int .i64 0, .int .i64 6] 45)).alloc (.cells #[.int .i64 3, .int .i64 0, .int .i64 7] 45)).heap[w3.heap.size]? = some (.cells #[.int .i64 4, .int .i64 5, .int .i64 60] 45 (0, 0)) from (Below.heap_alloc _ _ _ (by simp; omega)).trans (heap_alloc2_old _ _ _))
  have H9 := Lib.hid (show (((w3.alloc (.cells #[.int .i64 4, .int .i64 5, .int .i64 60] 45)).alloc (.cells #[.int .i64 (-1), .int .i64 0, .int .i64 6] 45)).alloc (.cells #[.int .i64 3, .int .i64 0, .int .i64 7] 45)).heap[w3.heap.size + 1]? = some (.cells #[.int .i64 (-1), .int .i64 0, .int .i64 6] 45 (0, 0)) from (Below.heap_alloc _ _ _ (by simp)).trans (heap_alloc2_new _ _ _))
  have H10 := Lib.hid (show (((w3.alloc (.cells #[.int .i64 4, .int .i64 5, .int .i64 60] 45)).alloc (.cells #[.int .i64 (-1), .int .i64 0, .int .i64 6] 45)).alloc (.cells #[.int .i64 3, .int .i64 0, .int .i64 7] 45)).heap[w3.heap.size + 1 + 1]? = some (.cells #[.int .i64 3, .int .i64 0, .int .i64 7] 45 (0, 0)) from by
    have := heap_alloc_new ((w3.alloc (.cells #[.int .i64 4, .int .i64 5, .int .i64 60] 45)).alloc (.cells #[.int .i64 (-1), .int .i64 0, .int .i64 6] 45)) (.cells #[.int .i64 3, .int .i64 0, .int .i64 7] 45)
    simpa using this)
  have HB := Lib.hid (((hB3.alloc hB3.size (.cells #[.int .i64 4, .int .i64 5, .int .i64 60] 45)).alloc (by have := hB3.size; simp; omega) (.cells #[.int .i64 (-1), .int .i64 0, .int .i64 6] 45)).alloc (by have := hB3.size; simp; omega) (.cells #[.int .i64 3, .int .i64 0, .int .i64 7] 45))
  clear hB0 hB1 hB2
  go_loopw [11] (fun i wr => ∃ k : Nat, k ≤ 3 ∧ i = .int .i64 k ∧ Hid (wr.heap[w3.heap.size]? = some (.cells #[.int .i64 4, .int .i64 5, .int .i64 60] 45 (0, 0))) ∧ Hid (wr.heap[w3.heap.size + 1]? = some (.cells #[.int .i64 (-1), .int .i64 0, .int .i64 6] 45 (0, 0))) ∧ Hid (wr.heap[w3.heap.size + 1 + 1]? = some (.cells #[.int .i64 3, .int .i64 0, .int .i64 7] 45 (0, 0))) ∧ Hid (Below w.heap.size w wr)) (fun i _ => 3 - (intOf i).toNat)
  case atStart => exact ⟨0, by omega, rfl, H8, H9, H10, HB⟩
  case round =>
    obtain ⟨k, hk, hi, R8, R9, R10, RB⟩ := hrel
    match k, hk, hi with
    | 0, _, hi =>
      obtain rfl : _ = Value.int .i64 0 := hi
      have g8 : wr.cell? ⟨w3.heap.size, 0, none⟩ = some (.int .i64 4) := cell_of_row _ _ 0 _ _ _ R8.out
      have z8 := heap_lt R8.out
      go_upto_region 10 with (fail)
      go_region_held3 (fun W => W.cell? ⟨w3.heap.size, 0, none⟩ = some (.int .i64 4)) (first | exact g8 | exact (World.cell?_alloc_past _ _ _ z8).trans g8 | exact (hb.cell (p := ⟨w3.heap.size, 0, none⟩) (by simp; omega)).trans ((World.cell?_alloc_past _ _ _ z8).trans g8))
        (first
          | (go_at_call 36; refine (small36 _).mono ?_; rintro e w4 ⟨rfl, rfl⟩)
          | (go_at_call 28; refine (kn28_4 _).mono ?_; rintro e w5 ⟨rfl, hb⟩))
      have hb' := Lib.hid (below_alloc_l (w := wr.drew) hb)
      have S8 := Lib.hid ((hb'.out.block _ z8).trans R8.out)
      have S9 := Lib.hid ((hb'.out.block _ (heap_lt R9.out)).trans R9.out)
      have S10 := Lib.hid ((hb'.out.block _ (heap_lt R10.out)).trans R10.out)
      have SB := Lib.hid (RB.out.trans ((below_drew_l hb'.out).mono RB.out.size))
      have g9 : w5.cell? ⟨w3.heap.size + 1, 0, none⟩ = some (.int .i64 (-1)) := cell_of_row _ _ 0 _ _ _ S9.out
      have g10 : w5.cell? ⟨w3.heap.size + 1 + 1, 0, none⟩ = some (.int .i64 3) := cell_of_row _ _ 0 _ _ _ S10.out
      clear hb hb'
      go_wp2_with fail
      go_roundw
      case rel => exact ⟨1, by omega, rfl, S8, S9, S10, SB⟩
      case measure => simp [intOf]
    | 1, _, hi =>
      obtain rfl : _ = Value.int .i64 1 := hi
      have g8 : wr.cell? ⟨w3.heap.size, 1, none⟩ = some (.int .i64 5) := cell_of_row _ _ 1 _ _ _ R8.out
      have z8 := heap_lt R8.out
      go_upto_region 10 with (fail)
      go_region_held3 (fun W => W.cell? ⟨w3.heap.size, 1, none⟩ = some (.int .i64 5)) (first | exact g8 | exact (World.cell?_alloc_past _ _ _ z8).trans g8 | exact (hb.cell (p := ⟨w3.heap.size, 1, none⟩) (by simp; omega)).trans ((World.cell?_alloc_past _ _ _ z8).trans g8))
        (first
          | (go_at_call 36; refine (small36 _).mono ?_; rintro e w4 ⟨rfl, rfl⟩)
          | (go_at_call 28; refine (kn28_5 _).mono ?_; rintro e w5 ⟨rfl, hb⟩))
      have hb' := Lib.hid (below_alloc_l (w := wr.drew) hb)
      have S8 := Lib.hid ((hb'.out.block _ z8).trans R8.out)
      have S9 := Lib.hid ((hb'.out.block _ (heap_lt R9.out)).trans R9.out)
      have S10 := Lib.hid ((hb'.out.block _ (heap_lt R10.out)).trans R10.out)
      have SB := Lib.hid (RB.out.trans ((below_drew_l hb'.out).mono RB.out.size))
      have g9 : w5.cell? ⟨w3.heap.size + 1, 1, none⟩ = some (.int .i64 0) := cell_of_row _ _ 1 _ _ _ S9.out
      have g10 : w5.cell? ⟨w3.heap.size + 1 + 1, 1, none⟩ = some (.int .i64 0) := cell_of_row _ _ 1 _ _ _ S10.out
      clear hb hb'
      go_wp2_with fail
      go_roundw
      case rel => exact ⟨2, by omega, rfl, S8, S9, S10, SB⟩
      case measure => simp [intOf]
    | 2, _, hi =>
      obtain rfl : _ = Value.int .i64 2 := hi
      have g8 : wr.cell? ⟨w3.heap.size, 2, none⟩ = some (.int .i64 60) := cell_of_row _ _ 2 _ _ _ R8.out
      have z8 := heap_lt R8.out
      go_upto_region 10 with (fail)
      go_region_held3 (fun W => W.cell? ⟨w3.heap.size, 2, none⟩ = some (.int .i64 60)) (first | exact g8 | exact (World.cell?_alloc_past _ _ _ z8).trans g8 | exact (hb.cell (p := ⟨w3.heap.size, 2, none⟩) (by simp; omega)).trans ((World.cell?_alloc_past _ _ _ z8).trans g8))
        (first
          | (go_at_call 36; refine (small36 _).mono ?_; rintro e w4 ⟨rfl, rfl⟩)
          | (go_at_call 28; refine (kn28_60 _).mono ?_; rintro e w5 ⟨rfl, hb⟩))
      have hb' := Lib.hid (below_alloc_l (w := wr.drew) hb)
      have S8 := Lib.hid ((hb'.out.block _ z8).trans R8.out)
      have S9 := Lib.hid ((hb'.out.block _ (heap_lt R9.out)).trans R9.out)
      have S10 := Lib.hid ((hb'.out.block _ (heap_lt R10.out)).trans R10.out)
      have SB := Lib.hid (RB.out.trans ((below_drew_l hb'.out).mono RB.out.size))
      have g9 : w5.cell? ⟨w3.heap.size + 1, 2, none⟩ = some (.int .i64 6) := cell_of_row _ _ 2 _ _ _ S9.out
      have g10 : w5.cell? ⟨w3.heap.size + 1 + 1, 2, none⟩ = some (.int .i64 7) := cell_of_row _ _ 2 _ _ _ S10.out
      clear hb hb'
      go_wp2_with fail
      go_roundw
      case rel => exact ⟨3, by omega, rfl, S8, S9, S10, SB⟩
      case measure => simp [intOf]
    | 3, _, hi =>
      obtain rfl : _ = Value.int .i64 3 := hi
      clear R8 R9 R10
      go_upto_region 17 with (first
        | (go_at_call 36; refine (small36 _).mono ?_; rintro e w6 ⟨rfl, rfl⟩)
        | (go_at_call 26; refine (kn26 _).mono ?_; rintro e w6 ⟨rfl, hb⟩; have D6 := Lib.hid (RB.out.trans ((below_alloc_l hb).mono RB.out.size)); clear hb)
        | (go_at_call 30; refine (kn30 _).mono ?_; rintro e w7 ⟨rfl, hb⟩; have D7 := Lib.hid (D6.out.trans ((below_alloc_l hb).mono D6.out.size)); clear hb))
      have F7 := Lib.hid (show ((w7.alloc (.cells #[.int .i64 8, .int .i64 7, .int .i64 4, .int .i64 1, .int .i64 2] 23)).alloc (.cells #[.int .i64 8, .int .i64 6, .int .i64 4, .int .i64 1, .int .i64 2] 23)).heap[w7.heap.size + 1]? = some (.cells #[.int .i64 8, .int .i64 6, .int .i64 4, .int .i64 1, .int .i64 2] 23 (0, 0)) from heap_alloc2_new _ _ _)
      have E7 := Lib.hid ((D7.out.alloc D7.out.size (.cells #[.int .i64 8, .int .i64 7, .int .i64 4, .int .i64 1, .int .i64 2] 23)).alloc (by have := D7.out.size; simp; omega) (.cells #[.int .i64 8, .int .i64 6, .int .i64 4, .int .i64 1, .int .i64 2] 23))
      go_upto_region 18 with (first
        | (go_at_call 36; refine (small36 _).mono ?_; rintro e w6 ⟨rfl, rfl⟩)
        | (go_at_call 11; refine (kn11_4 _).mono ?_; rintro e w8 ⟨rfl, hb⟩; have F8 := Lib.hid (((below_alloc_l hb).block (w7.heap.size + 1) (by simp)).trans F7.out); have E8 := Lib.hid (E7.out.trans ((below_alloc_l hb).mono E7.out.size)); clear hb))
      go_upto_region 19 with (first
        | (go_at_call 36; refine (small36 _).mono ?_; rintro e w6 ⟨rfl, rfl⟩)
        | (go_at_call 11; refine (kn11_5 _).mono ?_; rintro e w9 ⟨rfl, hb⟩; have F9 := Lib.hid (((below_alloc_l hb).block (w7.heap.size + 1) (heap_lt F8.out)).trans F8.out); have E9 := Lib.hid (E8.out.trans ((below_alloc_l hb).mono E8.out.size)); clear hb))
      have f0 : w9.cell? ⟨w7.heap.size + 1, 0, none⟩ = some (.int .i64 8) := cell_of_row _ _ 0 _ _ _ F9.out
      have f1 : w9.cell? ⟨w7.heap.size + 1, 1, none⟩ = some (.int .i64 6) := cell_of_row _ _ 1 _ _ _ F9.out
      have f2 : w9.cell? ⟨w7.heap.size + 1, 2, none⟩ = some (.int .i64 4) := cell_of_row _ _ 2 _ _ _ F9.out
      have f3 : w9.cell? ⟨w7.heap.size + 1, 3, none⟩ = some (.int .i64 1) := cell_of_row _ _ 3 _ _ _ F9.out
      have f4 : w9.cell? ⟨w7.heap.size + 1, 4, none⟩ = some (.int .i64 2) := cell_of_row _ _ 4 _ _ _ F9.out
      go_wp2_with (first
        | (go_at_call 13; refine (kn13 _).mono ?_; rintro e w10 ⟨rfl, hb10⟩)
        | (go_at_call 15; refine (awake15 _).mono ?_; rintro e w11 ⟨rfl, hb11⟩))
      go_ret
      exact ⟨rfl, (E9.out.trans (hb10.mono E9.out.size)).trans (hb11.mono (E9.out.trans (hb10.mono E9.out.size)).size)⟩
end YtoebnjciioiccaaDoor
end Go.Proofs
