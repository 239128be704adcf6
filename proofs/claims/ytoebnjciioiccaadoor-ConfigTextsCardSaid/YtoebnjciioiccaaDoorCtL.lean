/- Parse of Print is the config; Print of Parse is the text. -/
import Derived.Test.YtoebnjciioiccaaDoorCtZ
namespace Go.Proofs
namespace YtoebnjciioiccaaDoor
namespace Ct
open Go.RowKit

theorem parts_ten (C N S K Q : Int) : partsL [C, N, S, K, Q] 5 = [limB 0, Lib.itoa N, limB 1, Lib.itoa C, limB 2, Lib.itoa S, limB 3, Lib.itoa K, limB 4, Lib.itoa Q] := rfl
theorem itoa_good (n : Int) (h0 : 0 ≤ n) (h1 : n ≤ 64) : decL (Lib.itoa n) = true ∧ intVal (Lib.itoa n) = n ∧ (32 : UInt8) ∉ Lib.itoa n := by
  obtain ⟨u, rfl⟩ : ∃ u : Nat, n = (u : Int) := ⟨n.toNat, by omega⟩
  exact itoa_back u (by omega)
theorem name_list (k : Nat) : (limName k).toList = limB k := by
  rw [ByteArray.toList_eq]
  match k with
  | 0 | 1 | 2 | 3 | _ + 4 => rfl
theorem q_list (L : List UInt8) (j : Nat) : (qOf L j).toList = (spl L).getD j [] := by
  rw [ByteArray.toList_eq]; simp [qOf]
theorem wd_iff (L : List UInt8) (k : Nat) : wdOf L k = true ↔ (spl L).getD (2 * k) [] = limB k := by
  unfold wdOf
  rw [q_list, name_list]
  simp
theorem text_parts (C N S K Q : Int) (hg : good C N S K Q) : spl (textL [C, N, S, K, Q]) = partsL [C, N, S, K, Q] 5 := by
  obtain ⟨c0, c1, n0, n1, s0, s1, k0, k1, q0, q1⟩ := hg
  have iC := (itoa_good C (by omega) (by omega)).2.2
  have iN := (itoa_good N (by omega) (by omega)).2.2
  have iS := (itoa_good S (by omega) (by omega)).2.2
  have iK := (itoa_good K (by omega) (by omega)).2.2
  have iQ := (itoa_good Q (by omega) (by omega)).2.2
  unfold textL
  refine spl_join _ (by rw [parts_ten]; simp) ?_
  rw [parts_ten]
  intro p hp
  simp only [List.mem_cons, List.not_mem_nil, or_false] at hp
  rcases hp with rfl | rfl | rfl | rfl | rfl | rfl | rfl | rfl | rfl | rfl
  · decide
  · exact iN
  · decide
  · exact iC
  · decide
  · exact iS
  · decide
  · exact iK
  · decide
  · exact iQ
/-- Parse of Print -/
theorem parse_print (C N S K Q : Int) (hg : good C N S K Q) : pE (textL [C, N, S, K, Q]) = 0 ∧ pC (textL [C, N, S, K, Q]) = [C, N, S, K, Q] := by
  have hp := text_parts C N S K Q hg
  obtain ⟨c0, c1, n0, n1, s0, s1, k0, k1, q0, q1⟩ := hg
  have iC := itoa_good C (by omega) (by omega)
  have iN := itoa_good N (by omega) (by omega)
  have iS := itoa_good S (by omega) (by omega)
  have iK := itoa_good K (by omega) (by omega)
  have iQ := itoa_good Q (by omega) (by omega)
  generalize textL [C, N, S, K, Q] = L at *
  rw [parts_ten] at hp
  have g0 : (spl L).getD (2 * 0 + 1) [] = Lib.itoa N := by rw [hp]; rfl
  have g1 : (spl L).getD (2 * 1 + 1) [] = Lib.itoa C := by rw [hp]; rfl
  have g2 : (spl L).getD (2 * 2 + 1) [] = Lib.itoa S := by rw [hp]; rfl
  have g3 : (spl L).getD (2 * 3 + 1) [] = Lib.itoa K := by rw [hp]; rfl
  have g4 : (spl L).getD (2 * 4 + 1) [] = Lib.itoa Q := by rw [hp]; rfl
  have e0 : eOf L 0 = 0 := by unfold eOf; rw [g0]; exact (intF_zero _ _ _ iN.1 (by decide) (by decide)).2 (by rw [iN.2.1]; simp only [limLow, limHigh]; omega)
  have e1 : eOf L 1 = 0 := by unfold eOf; rw [g1]; exact (intF_zero _ _ _ iC.1 (by decide) (by decide)).2 (by rw [iC.2.1]; simp only [limLow, limHigh]; omega)
  have e2 : eOf L 2 = 0 := by unfold eOf; rw [g2]; exact (intF_zero _ _ _ iS.1 (by decide) (by decide)).2 (by rw [iS.2.1]; simp only [limLow, limHigh]; omega)
  have e3 : eOf L 3 = 0 := by unfold eOf; rw [g3]; exact (intF_zero _ _ _ iK.1 (by decide) (by decide)).2 (by rw [iK.2.1]; simp only [limLow, limHigh]; omega)
  have e4 : eOf L 4 = 0 := by unfold eOf; rw [g4]; exact (intF_zero _ _ _ iQ.1 (by decide) (by decide)).2 (by rw [iQ.2.1]; simp only [limLow, limHigh]; omega)
  have x0 : xOf L 0 = N := by have := intF_val _ _ _ e0; unfold xOf; rw [this, g0, iN.2.1]
  have x1 : xOf L 1 = C := by have := intF_val _ _ _ e1; unfold xOf; rw [this, g1, iC.2.1]
  have x2 : xOf L 2 = S := by have := intF_val _ _ _ e2; unfold xOf; rw [this, g2, iS.2.1]
  have x3 : xOf L 3 = K := by have := intF_val _ _ _ e3; unfold xOf; rw [this, g3, iK.2.1]
  have x4 : xOf L 4 = Q := by have := intF_val _ _ _ e4; unfold xOf; rw [this, g4, iQ.2.1]
  have hE : ∀ j, j < 5 → eOf L j = 0 := all5.2 ⟨e0, e1, e2, e3, e4⟩
  have hW : ∀ j, j < 5 → wdOf L j = true := all5.2 ⟨(wd_iff L 0).2 (by rw [hp]; rfl), (wd_iff L 1).2 (by rw [hp]; rfl), (wd_iff L 2).2 (by rw [hp]; rfl), (wd_iff L 3).2 (by rw [hp]; rfl), (wd_iff L 4).2 (by rw [hp]; rfl)⟩
  have hf : formG L := ⟨by rw [hp]; rfl, fun j hj => ⟨hW j hj, by rw [hE j hj]; decide⟩⟩
  have hz := pE_ok hf hE
  refine ⟨hz, ?_⟩
  unfold pC
  rw [if_pos hz]
  show [xOf L 1, xOf L 0, xOf L 2, xOf L 3, xOf L 4] = _
  rw [x0, x1, x2, x3, x4]
theorem pE_zero {L : List UInt8} (h : pE L = 0) : formG L ∧ ∀ j, j < 5 → eOf L j = 0 := by
  unfold pE at h
  split at h
  · rename_i hf
    split at h
    · rename_i he; exact ⟨hf, he⟩
    · exact absurd h (by decide)
  · exact absurd h (by decide)
theorem list_ten {l : List (List UInt8)} (h : l.length = 10) : l = [l.getD 0 [], l.getD 1 [], l.getD 2 [], l.getD 3 [], l.getD 4 [], l.getD 5 [], l.getD 6 [], l.getD 7 [], l.getD 8 [], l.getD 9 []] := by
  match l, h with
  | [_, _, _, _, _, _, _, _, _, _], _ => rfl
/-- Print of Parse -/
theorem print_parse (L : List UInt8) (h : pE L = 0) : ∃ C N S K Q, pC L = [C, N, S, K, Q] ∧ good C N S K Q ∧ textL [C, N, S, K, Q] = L := by
  obtain ⟨⟨hl, hf⟩, hE⟩ := pE_zero h
  have D := dec_of_form hf
  have a : ∀ j, j < 5 → limLow j ≤ intVal ((spl L).getD (2 * j + 1) []) ∧ intVal ((spl L).getD (2 * j + 1) []) ≤ limHigh j := fun j hj =>
    (intF_zero _ _ _ (D j hj) (by unfold limLow; split <;> decide) (by unfold limHigh; split <;> decide)).1 (hE j hj)
  have v : ∀ j, j < 5 → xOf L j = intVal ((spl L).getD (2 * j + 1) []) := fun j hj => intF_val _ _ _ (hE j hj)
  have b : ∀ j, j < 5 → limLow j ≤ xOf L j ∧ xOf L j ≤ limHigh j := fun j hj => by rw [v j hj]; exact a j hj
  have t : ∀ j, j < 5 → (spl L).getD (2 * j + 1) [] = Lib.itoa (xOf L j) := fun j hj => by
    have hb := b j hj
    have l0 : 1 ≤ limLow j := by unfold limLow; split <;> decide
    have h0 : limHigh j ≤ 64 := by unfold limHigh; split <;> decide
    have := dec_small (xOf L j).toNat (by omega) _ (D j hj) (by rw [← v j hj]; omega)
    rw [this]
    congr 1
    omega
  have wn : ∀ j, j < 5 → (spl L).getD (2 * j) [] = limB j := fun j hj => (wd_iff L j).1 (hf j hj).1
  refine ⟨xOf L 1, xOf L 0, xOf L 2, xOf L 3, xOf L 4, ?_, ?_, ?_⟩
  · unfold pC; rw [if_pos h]; rfl
  · have b0 := b 0 (by omega)
    have b1 := b 1 (by omega)
    have b2 := b 2 (by omega)
    have b3 := b 3 (by omega)
    have b4 := b 4 (by omega)
    simp only [limLow, limHigh] at b0 b1 b2 b3 b4
    unfold good
    omega
  · have e : spl L = partsL [xOf L 1, xOf L 0, xOf L 2, xOf L 3, xOf L 4] 5 := by
      rw [list_ten hl, parts_ten, ← t 0 (by omega), ← t 1 (by omega), ← t 2 (by omega), ← t 3 (by omega), ← t 4 (by omega), ← wn 0 (by omega), ← wn 1 (by omega), ← wn 2 (by omega), ← wn 3 (by omega), ← wn 4 (by omega)]
    unfold textL
    rw [← e, join_spl]
end Ct
end YtoebnjciioiccaaDoor
end Go.Proofs
