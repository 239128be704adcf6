/- Plain facts for the law of orders. -/
import Derived.Test.YtjanicngedkhnaaSlChA
namespace Go.Proofs
namespace Ytjanicngedkhnaa

/-- l turned round, laid from the end on, after k steps -/
def rvA (l : List Int) : Nat → List Int
  | 0 => List.replicate l.length 0
  | k + 1 => (rvA l k).set (l.length - 1 - k) (l.getD k 0)
theorem rvA_len (l : List Int) : ∀ k, (rvA l k).length = l.length
  | 0 => by simp [rvA]
  | k + 1 => by rw [rvA, List.length_set]; exact rvA_len l k
theorem rvA_get (l : List Int) : ∀ k j, k ≤ l.length → j < l.length → l.length - 1 - j < k → (rvA l k).getD j 0 = l.getD (l.length - 1 - j) 0
  | 0, _, _, _, h => by omega
  | k + 1, j, hk, hj, h => by
    rw [rvA]
    by_cases e : l.length - 1 - k = j
    · subst e
      have e2 : l.length - 1 - (l.length - 1 - k) = k := by omega
      rw [e2]
      simp [List.getD_eq_getElem?_getD, rvA_len, show l.length - 1 - k < l.length by omega]
    · have := rvA_get l k j (by omega) hj (by omega)
      rw [← this]
      simp [List.getD_eq_getElem?_getD, e]
theorem rvA_mem (l : List Int) (x : Int) : x ∈ rvA l l.length ↔ x ∈ l := by
  have hl := rvA_len l l.length
  constructor
  · intro h
    obtain ⟨j, hj, e⟩ := List.mem_iff_getElem.1 h
    have h1 := rvA_get l l.length j (Nat.le_refl _) (by omega) (by omega)
    have h2 : (rvA l l.length).getD j 0 = (rvA l l.length)[j] := by simp [List.getD_eq_getElem?_getD, hj]
    rw [← e, ← h2, h1]
    exact getD_mem (by omega)
  · intro h
    obtain ⟨j, hj, e⟩ := List.mem_iff_getElem.1 h
    have h1 := rvA_get l l.length (l.length - 1 - j) (Nat.le_refl _) (by omega) (by omega)
    have e2 : l.length - 1 - (l.length - 1 - j) = j := by omega
    rw [e2] at h1
    have h2 : l.getD j 0 = l[j] := by simp [List.getD_eq_getElem?_getD, hj]
    rw [← e, ← h2, ← h1]
    exact getD_mem (by omega)
theorem list_good {c : List Int} (h : Good c) : listA c = (srt c, 0) := by
  unfold listA rangeA
  rw [if_neg (by rw [chk_of_good h]; simp)]
  have : inF 1 1601 (srt c) = srt c := by
    unfold inF
    rw [List.filter_eq_self]
    intro x hx
    have := (mem_srt.1 hx).1
    simp only [Bool.and_eq_true, decide_eq_true_eq]; omega
  rw [this]
theorem of_rev (l r : List Int) (hr : ∀ x, x ∈ r ↔ x ∈ l) (hl : r.length = l.length) : (∃ L L' S, ofA l = (L, 0) ∧ ofA r = (L', 0) ∧ listA L = (S, 0) ∧ listA L' = (S, 0) ∧ L.length ≤ 8192 ∧ L'.length ≤ 8192 ∧ S.length ≤ 1600) ∨ (∃ L L' e, ofA l = (L, e) ∧ ofA r = (L', e) ∧ e ≠ 0 ∧ L.length ≤ 8192 ∧ L'.length ≤ 8192) := by
  unfold ofA
  rw [hl]
  by_cases h : 4000 < l.length
  · rw [if_pos h, if_pos h]; exact .inr ⟨_, _, _, rfl, rfl, by decide, Nat.zero_le _, Nat.zero_le _⟩
  · rw [if_neg h, if_neg h]
    by_cases h2 : l.all isA = true
    · have h3 : r.all isA = true := by
        rw [List.all_eq_true] at h2 ⊢
        exact fun x hx => h2 x ((hr x).1 hx)
      rw [if_pos h2, if_pos h3]
      obtain ⟨g1, m1⟩ := adds_ok l new_good (all_isA.1 h2)
      obtain ⟨g2, m2⟩ := adds_ok r new_good (all_isA.1 h3)
      refine .inl ⟨_, _, _, rfl, rfl, list_good g1, ?_, g1.tab.hi, g2.tab.hi, srt_len _⟩
      rw [list_good g2]
      rw [srt_congr (c := r.foldl addF newF) (d := l.foldl addF newF) fun x hx => by rw [m2 x hx, m1 x hx, hr x]]
    · have h3 : ¬ r.all isA = true := by
        rw [List.all_eq_true] at h2 ⊢
        exact fun h => h2 fun x hx => h x ((hr x).2 hx)
      rw [if_neg h2, if_neg h3]; exact .inr ⟨_, _, _, rfl, rfl, by decide, Nat.zero_le _, Nat.zero_le _⟩
/-- Join both ways: where both are good -/
theorem join_both (cs ts : List Int) : (∃ M M' S, Good cs ∧ Good ts ∧ joinA cs ts = (M, 0) ∧ joinA ts cs = (M', 0) ∧ listA M = (S, 0) ∧ listA M' = (S, 0) ∧ M.length ≤ 8192 ∧ M'.length ≤ 8192 ∧ S.length ≤ 1600 ∧ ∀ x ∈ S, (1 ≤ x ∧ x ≤ 1600) ∧ (hasB cs x = true ∨ hasB ts x = true)) ∨ (∃ M M' e e', joinA cs ts = (M, e) ∧ joinA ts cs = (M', e') ∧ e ≠ 0 ∧ e' ≠ 0 ∧ M.length ≤ 8192 ∧ M'.length ≤ 8192) := by
  by_cases hg : (chkF cs).2 ≠ 0
  · rw [join_1 hg]
    by_cases hg2 : (chkF ts).2 ≠ 0
    · rw [join_1 hg2]; exact .inr ⟨_, _, _, _, rfl, rfl, hg, hg2, Nat.zero_le _, Nat.zero_le _⟩
    · rw [join_2 hg2 hg]; exact .inr ⟨_, _, _, _, rfl, rfl, hg, hg, Nat.zero_le _, Nat.zero_le _⟩
  · by_cases hg2 : (chkF ts).2 ≠ 0
    · rw [join_2 hg hg2, join_1 hg2]; exact .inr ⟨_, _, _, _, rfl, rfl, hg2, hg2, Nat.zero_le _, Nat.zero_le _⟩
    · rw [join_3 hg hg2, join_3 hg2 hg]
      have hC := good_of_chk (Classical.byContradiction hg)
      have hT := good_of_chk (Classical.byContradiction hg2)
      obtain ⟨g1, m1⟩ := adds_ok (srt ts) hC (fun x hx => (mem_srt.1 hx).1)
      obtain ⟨g2, m2⟩ := adds_ok (srt cs) hT (fun x hx => (mem_srt.1 hx).1)
      refine .inl ⟨_, _, _, hC, hT, rfl, rfl, list_good g1, ?_, g1.tab.hi, g2.tab.hi, srt_len _, ?_⟩
      · rw [list_good g2, srt_congr (c := (srt cs).foldl addF ts) (d := (srt ts).foldl addF cs) fun x hx => by
          rw [m2 x hx, m1 x hx, hC.tab.mem_srt, hT.tab.mem_srt]
          constructor
          · rintro (h | h)
            · exact .inr h.2
            · exact .inl ⟨hx, h⟩
          · rintro (h | h)
            · exact .inr h.2
            · exact .inl ⟨hx, h⟩]
      · intro x hx
        obtain ⟨h1, h2⟩ := mem_srt.1 hx
        refine ⟨h1, ?_⟩
        rcases (m1 x (by omega)).1 h2 with h | h
        · exact .inr ((hT.tab.has hT.zero (by omega)).2 (mem_srt.1 h).2)
        · exact .inl ((hC.tab.has hC.zero (by omega)).2 h)
theorem has_good {c : List Int} {x : Int} (h : Good c) (hx : 1 ≤ x ∧ x ≤ 1600) : hasA c x = (hasB c x, 0) := by
  unfold hasA; rw [if_neg (by rw [ask_good h hx]; simp)]
theorem filter_two (p : Int → Bool) : ∀ l : List Int, (l.filter p).length + (l.filter fun x => !p x).length = l.length
  | [] => rfl
  | x :: l => by
    have := filter_two p l
    cases h : p x <;> simp [h] <;> omega
/-- what is purged from 1 to 800, what is left -/
theorem purge_part {cs : List Int} (h : Good cs) : ∃ (P : List Int) (z : Nat) (R S : List Int) (n : Nat), purgeA cs 1 800 = (P, (z : Int), 0) ∧ rangeA cs 1 800 = (R, 0) ∧ listA P = (S, 0) ∧ lenA cs = ((n : Int), 0) ∧ R.length = z ∧ S.length + z = n ∧ n ≤ 1600 ∧ P.length ≤ 8192 ∧ (∀ x ∈ S, 800 ≤ x) := by
  have hP := purge_good h 1 800
  have hS : srt (purgeF cs 1 800) = (srt cs).filter fun x => !(decide (1 ≤ x) && decide (x < 800)) := by
    refine sorted_ext (srt_sorted _) ((srt_sorted cs).filter _) fun x => ?_
    rw [hP.tab.mem_srt, List.mem_filter, h.tab.mem_srt]
    constructor
    · rintro ⟨h1, h2⟩
      obtain ⟨h3, h4⟩ := (purge_mem h1).1 h2
      refine ⟨⟨h1, h3⟩, ?_⟩
      simp only [Bool.not_eq_true', Bool.and_eq_false_iff, decide_eq_false_iff_not]
      omega
    · rintro ⟨⟨h1, h2⟩, h3⟩
      refine ⟨h1, (purge_mem h1).2 ⟨h2, ?_⟩⟩
      simp only [Bool.not_eq_true', Bool.and_eq_false_iff, decide_eq_false_iff_not] at h3
      omega
  refine ⟨purgeF cs 1 800, (inF 1 800 (srt cs)).length, inF 1 800 (srt cs), srt (purgeF cs 1 800), (srt cs).length, ?_, ?_, list_good hP, ?_, rfl, ?_, srt_len _, hP.tab.hi, ?_⟩
  · unfold purgeA; rw [if_neg (by rw [chk_of_good h]; simp)]
  · unfold rangeA; rw [if_neg (by rw [chk_of_good h]; simp)]
  · unfold lenA; rw [if_neg (by rw [chk_of_good h]; simp)]
  · rw [hS]
    unfold inF
    have := filter_two (fun x => decide (1 ≤ x) && decide (x < 800)) (srt cs)
    omega
  · intro x hx
    rw [hS, List.mem_filter] at hx
    have := (mem_srt.1 hx.1).1
    have h3 := hx.2
    simp only [Bool.not_eq_true', Bool.and_eq_false_iff, decide_eq_false_iff_not] at h3
    omega
end Ytjanicngedkhnaa
end Go.Proofs
