/- The parts of a stretch, as plain facts. -/
import Derived.Test.YteeghjhkfaeflaaQWlE
namespace Go.Proofs
namespace Yteeghjhkfaeflaa
open Go.RowKit

theorem goW_cut {ws : List Int} {t cut : Int} : ∀ (k : Nat) (a : Int), (t - a).toNat < k → (goW ws t k a).2 = none → a ≤ cut → cut < t →
    (rfndF ws cut (goW ws t k a).1 = (cut, 0) ∧ (goW ws cut k a).2 = none ∧ (goW ws t k cut).2 = none ∧ (goW ws t k a).1 = (goW ws cut k a).1 ++ (goW ws t k cut).1) ∨
    ∃ x, x ≠ cut ∧ rfndF ws cut (goW ws t k a).1 = (x, 0) ∧ (goW ws cut k a).2 = some x
  | 0, _, h, _, _, _ => by omega
  | k + 1, a, hk, hn, h1, h2 => by
    have hlt : a < t := by omega
    by_cases hg : (sizF ws a).2 ≠ 0 ∨ t - a < (sizF ws a).1
    · rw [goW_gap k hlt hg] at hn; cases hn
    have h3 : (sizF ws a).2 = 0 := Classical.byContradiction fun hn => hg (.inl hn)
    have h5 := siz_ok h3
    by_cases e : a = cut
    · subst e
      left
      refine ⟨?_, by rw [goW_stop _ (Int.lt_irrefl _)], hn, by rw [goW_stop (top := a) _ (Int.lt_irrefl _)]; rfl⟩
      rw [goW_step k hlt hg]
      dsimp only
      rw [rfndF, if_pos ⟨Int.le_refl _, by omega⟩]
    have hac : a < cut := by omega
    by_cases hs : cut < a + (sizF ws a).1
    · right
      refine ⟨a, e, ?_, ?_⟩
      · rw [goW_step k hlt hg]
        dsimp only
        rw [rfndF, if_pos ⟨by omega, hs⟩]
      · rw [goW_gap k hac (.inr (by omega))]
    have hg2 : ¬ ((sizF ws a).2 ≠ 0 ∨ cut - a < (sizF ws a).1) := by
      rintro (h | h)
      · exact h h3
      · omega
    rw [goW_step k hlt hg] at hn ⊢
    rw [goW_step k hac hg2]
    have ef : goW ws t (k + 1) cut = goW ws t k cut := goW_fuel _ _ _ (by omega) (by omega)
    rw [ef]
    have er : ∀ l, rfndF ws cut (a :: l) = rfndF ws cut l := fun l => by rw [rfndF, if_neg (by omega)]
    rw [er]
    dsimp only at *
    rcases goW_cut k (a + (sizF ws a).1) (by omega) hn (by omega) h2 with ⟨i1, i2, i3, i4⟩ | ⟨x, i1, i2, i3⟩
    · exact .inl ⟨i1, i2, i3, by rw [i4]; rfl⟩
    · exact .inr ⟨x, i1, i2, i3⟩
theorem str_part {ws : List Int} {f t a b : Int} (h : strF ws f t = 0) (h1 : f ≤ a) (h2 : a ≤ b) (h3 : b ≤ t) : strF ws a b = 0 := by
  obtain ⟨c1, c2, c3, c4, c5⟩ := str_ok h
  unfold strF
  rw [if_neg (by simp [c1]), if_neg (by omega)]
theorem wc_mk {ws : List Int} {f t : Int} (h : strF ws f t = 0) : wcF ws f t = gapE (wlk ws f t).2 := by unfold wcF; rw [if_pos h]
theorem vis_mk {ws : List Int} {f t : Int} (h : strF ws f t = 0) : visL ws f t = (wlk ws f t).1 := by unfold visL; rw [if_pos h]
theorem cut_parts {ws : List Int} {f t cut : Int} (h : (wcF ws f t).2 = 0) (h1 : f ≤ cut) (h2 : cut < t) :
    (findF ws f t cut = (cut, 0) ∧ (wcF ws f cut).2 = 0 ∧ (wcF ws cut t).2 = 0 ∧ visL ws f t = visL ws f cut ++ visL ws cut t) ∨ ∃ x, x ≠ cut ∧ findF ws f t cut = (x, 0) ∧ wcF ws f cut = (x, 6) := by
  obtain ⟨c1, c2, c3, -⟩ := wc_zero h
  have s1 := str_part c1 (Int.le_refl _) h1 (by omega)
  have s2 := str_part c1 h1 (by omega) (Int.le_refl _)
  rw [find_eq h, wc_mk s1, wc_mk s2, vis_mk c1, vis_mk s1, vis_mk s2]
  unfold wlk at *
  have e1 : goW ws cut ((cut - f).toNat + 1) f = goW ws cut ((t - f).toNat + 1) f := goW_fuel _ _ _ (by omega) (by omega)
  have e2 : goW ws t ((t - cut).toNat + 1) cut = goW ws t ((t - f).toNat + 1) cut := goW_fuel _ _ _ (by omega) (by omega)
  rw [e1, e2]
  rcases goW_cut ((t - f).toNat + 1) f (by omega) c2 h1 h2 with ⟨i1, i2, i3, i4⟩ | ⟨x, i1, i2, i3⟩
  · exact .inl ⟨i1, by rw [i2]; rfl, by rw [i3]; rfl, i4⟩
  · exact .inr ⟨x, i1, i2, by rw [i3]; rfl⟩
theorem refs_fine {ws : List Int} {f t : Int} (h : (wcF ws f t).2 = 0) (hr : ∀ x ∈ visL ws f t, (refF ws x).2 = 0) : refsF ws f t = ((visL ws f t).flatMap (fun x => (refF ws x).1), 0) := by
  have e : refsF ws f t = if errsF (fun x => (refF ws x).2) (visL ws f t) = 0 then ((visL ws f t).flatMap (fun x => (refF ws x).1), 0) else ([], errsF (fun x => (refF ws x).2) (visL ws f t)) := col_ok _ _ h
  rw [e, if_pos (errs_all hr)]
theorem refs_parts {ws : List Int} {f t cut : Int} (h : (wcF ws f t).2 = 0) (h1 : (wcF ws f cut).2 = 0) (h2 : (wcF ws cut t).2 = 0) (h3 : visL ws f t = visL ws f cut ++ visL ws cut t) :
    ((refsF ws f t).2 = 0 ∧ (refsF ws f cut).2 = 0 ∧ (refsF ws cut t).2 = 0 ∧ (refsF ws f t).1 = (refsF ws f cut).1 ++ (refsF ws cut t).1) ∨ ((refsF ws f t).2 ≠ 0 ∧ ((refsF ws f cut).2 ≠ 0 ∨ (refsF ws cut t).2 ≠ 0)) := by
  by_cases hr : (refsF ws f t).2 = 0
  · left
    obtain ⟨-, g1, g2⟩ := refs_good hr
    rw [h3] at g1 g2
    have p1 := refs_fine h1 (fun x hx => g1 x (List.mem_append.2 (.inl hx)))
    have p2 := refs_fine h2 (fun x hx => g1 x (List.mem_append.2 (.inr hx)))
    rw [p1, p2, g2]
    exact ⟨rfl, rfl, rfl, by rw [List.flatMap_append]⟩
  · right
    refine ⟨hr, Classical.byContradiction fun hn => hr ?_⟩
    obtain ⟨n1, n2⟩ := not_or.1 hn
    obtain ⟨-, g1, -⟩ := refs_good (Classical.not_not.1 n1)
    obtain ⟨-, g2, -⟩ := refs_good (Classical.not_not.1 n2)
    rw [refs_fine h (fun x hx => by
      rw [h3] at hx
      rcases List.mem_append.1 hx with hx | hx
      · exact g1 x hx
      · exact g2 x hx)]
theorem vis_lt {ws : List Int} {f t : Int} (h : (wcF ws f t).2 = 0) (hne : visL ws f t ≠ []) : f < t ∧ 1 ≤ f ∧ t ≤ 1601 := by
  obtain ⟨c1, c2, c3, -⟩ := wc_zero h
  obtain ⟨-, d1, d2, d3, d4⟩ := str_ok c1
  refine ⟨Classical.byContradiction fun hn => hne ?_, d1, by omega⟩
  rw [c3]
  unfold wlk
  rw [goW_stop _ hn]
end Yteeghjhkfaeflaa
end Go.Proofs
