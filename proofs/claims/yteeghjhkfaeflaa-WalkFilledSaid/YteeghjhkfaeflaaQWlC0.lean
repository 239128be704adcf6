/- What covers a stretch, as plain facts. -/
import Derived.Test.YteeghjhkfaeflaaQWkV
namespace Go.Proofs
namespace Yteeghjhkfaeflaa
open Go.RowKit

def szs (ws : List Int) (l : List Int) : Int := (l.map (fun x => (sizF ws x).1)).sum
theorem goW_list {ws : List Int} {t : Int} : ∀ (k : Nat) (a : Int), (t - a).toNat < k → a ≤ t → (goW ws t k a).2 = none →
    (∀ (j : Nat) (h : j < (goW ws t k a).1.length), (goW ws t k a).1[j] = a + szs ws ((goW ws t k a).1.take j)) ∧ a + szs ws (goW ws t k a).1 = t
  | 0, _, h, _, _ => by omega
  | k + 1, a, hk, hat, hn => by
    by_cases hlt : a < t
    rotate_left
    · rw [goW_stop _ hlt]
      exact ⟨fun j h => by simp at h, by simp [szs]; omega⟩
    by_cases h2 : (sizF ws a).2 ≠ 0 ∨ t - a < (sizF ws a).1
    · rw [goW_gap k hlt h2] at hn; cases hn
    · rw [goW_step k hlt h2] at hn ⊢
      have h3 : (sizF ws a).2 = 0 := Classical.byContradiction fun hn => h2 (.inl hn)
      have h4 : ¬ t - a < (sizF ws a).1 := fun h => h2 (.inr h)
      have h5 := siz_ok h3
      obtain ⟨i1, i2⟩ := goW_list k (a + (sizF ws a).1) (by omega) (by omega) hn
      dsimp only at *
      refine ⟨fun j h => ?_, ?_⟩
      · cases j with
        | zero => simp [szs]
        | succ j =>
          rw [List.getElem_cons_succ, List.take_succ_cons, i1 j (by simpa using h)]
          simp [szs]; omega
      · simp only [szs, List.map_cons, List.sum_cons] at i2 ⊢
        omega
theorem vis_list {ws : List Int} {f t : Int} (h : (wcF ws f t).2 = 0) :
    (∀ (j : Nat) (hj : j < (visL ws f t).length), (visL ws f t)[j] = f + szs ws ((visL ws f t).take j)) ∧ f + szs ws (visL ws f t) = t := by
  obtain ⟨h1, h2, h3, -⟩ := wc_zero h
  have hs := str_ok h1
  rw [h3]
  unfold wlk at *
  exact goW_list _ _ (by omega) (by omega) h2
theorem szs_take {ws : List Int} {l : List Int} {j : Nat} (hj : j < l.length) : szs ws (l.take (j + 1)) = szs ws (l.take j) + (sizF ws l[j]).1 := by
  unfold szs
  rw [List.take_add_one, List.getElem?_eq_getElem hj, Option.toList_some, List.map_append, List.sum_append]
  simp
theorem sumP_eq (l : List (Int × Int)) : sumP l = (l.map Prod.fst).sum := by
  have : ∀ (l : List (Int × Int)) (c : Int), l.foldl (fun s p => s + p.1) c = c + (l.map Prod.fst).sum := by
    intro l
    induction l with
    | nil => intro c; simp
    | cons p l ih => intro c; rw [List.foldl_cons, ih]; simp; omega
  unfold sumP
  rw [this]; simp
theorem sumR_eq (l : List (Int × Int)) : sumR l = (l.map Prod.snd).sum := by
  have : ∀ (l : List (Int × Int)) (c : Int), l.foldl (fun s p => s + p.2) c = c + (l.map Prod.snd).sum := by
    intro l
    induction l with
    | nil => intro c; simp
    | cons p l ih => intro c; rw [List.foldl_cons, ih]; simp; omega
  unfold sumR
  rw [this]; simp
theorem siz_sum {ws : List Int} {x : Int} (h : (objF ws x).2.2 = 0) : (sizF ws x).1 = 1 + (objF ws x).1 + (objF ws x).2.1 := by unfold sizF; rw [if_pos h]
theorem slt_one {ws : List Int} {x : Int} (h : (objF ws x).2.2 = 0) : ((sltF ws x).1.length : Int) = (objF ws x).1 ∧ ∀ k, k < (sltF ws x).1.length → (sltF ws x).1.getD k 0 = x + 1 + k := by
  rcases obj_cases ws x with ⟨E, hE, e⟩ | ⟨n, P, R, rfl, ho⟩
  · rw [e] at h; exact absurd h hE
  · have es : (sltF ws n).1 = upL (n + 1) P := by unfold sltF; rw [ho.is]; simp
    rw [es, ho.is, upL_length]
    exact ⟨rfl, fun k hk => by rw [upL_get _ _ _ hk]; omega⟩
theorem total_sum {ws : List Int} : ∀ (l : List Int), (∀ x ∈ l, (objF ws x).2.2 = 0) → (l.length : Int) + sumP (l.map (pairO ws)) + sumR (l.map (pairO ws)) = szs ws l
  | [], _ => by simp [szs, sumP, sumR]
  | x :: l, h => by
    have ih := total_sum l (fun y hy => h y (by simp [hy]))
    have h1 := siz_sum (h x (by simp))
    rw [sumP_eq, sumR_eq] at ih ⊢
    simp only [szs, List.map_cons, List.sum_cons, List.length_cons, pairO] at ih ⊢
    rw [h1]
    omega
theorem slots_sum {ws : List Int} : ∀ (l : List Int), (∀ x ∈ l, (objF ws x).2.2 = 0) → ((l.flatMap (fun x => (sltF ws x).1)).length : Int) = sumP (l.map (pairO ws))
  | [], _ => by simp [sumP]
  | x :: l, h => by
    have ih := slots_sum l (fun y hy => h y (by simp [hy]))
    have h1 := (slt_one (h x (by simp))).1
    rw [sumP_eq] at ih ⊢
    simp only [List.map_cons, List.sum_cons, List.flatMap_cons, List.length_append, pairO] at ih ⊢
    omega
theorem rfnd_own {ws : List Int} {t a : Int} : ∀ (k : Nat) (b x : Int), x ∈ (goW ws t k b).1 → x ≤ a → a < x + (sizF ws x).1 → rfndF ws a (goW ws t k b).1 = (x, 0)
  | 0, _, _, h, _, _ => by simp [goW] at h
  | k + 1, b, x, hx, h1, h2 => by
    by_cases hlt : b < t
    rotate_left
    · rw [goW_stop _ hlt] at hx; simp at hx
    by_cases hg : (sizF ws b).2 ≠ 0 ∨ t - b < (sizF ws b).1
    · rw [goW_gap k hlt hg] at hx; simp at hx
    · rw [goW_step k hlt hg] at hx ⊢
      dsimp only at *
      rcases List.mem_cons.1 hx with rfl | hx
      · rw [rfndF, if_pos ⟨h1, h2⟩]
      · have := (goW_obj k _ x hx).2.1
        rw [rfndF, if_neg (by omega)]
        exact rfnd_own k _ x hx h1 h2
theorem find_own {ws : List Int} {f t a x : Int} (h : (wcF ws f t).2 = 0) (hx : x ∈ visL ws f t) (h1 : x ≤ a) (h2 : a < x + (sizF ws x).1) : findF ws f t a = (x, 0) := by
  rw [find_eq h]
  rw [(wc_zero h).2.2.1] at hx ⊢
  unfold wlk at *
  exact rfnd_own _ _ x hx h1 h2
theorem find_out {ws : List Int} {f t a : Int} (h : (wcF ws f t).2 = 0) (ha : a < f ∨ t ≤ a) : findF ws f t a = (0, 4) := by
  unfold findF
  rw [objs_eq, if_pos h, if_neg (by simp), if_pos ha]
/-- the slots of an object among all slots -/
theorem slots_at {ws : List Int} {l : List Int} (h : ∀ x ∈ l, (objF ws x).2.2 = 0) {j : Nat} (hj : j < l.length) {d : Nat} (hd : (d : Int) < (objF ws l[j]).1) :
    ((l.take j).flatMap (fun x => (sltF ws x).1)).length + d < (l.flatMap (fun x => (sltF ws x).1)).length ∧
    (l.flatMap (fun x => (sltF ws x).1)).getD (((l.take j).flatMap (fun x => (sltF ws x).1)).length + d) 0 = l[j] + 1 + d := by
  obtain ⟨h1, h2⟩ := slt_one (h l[j] (List.getElem_mem hj))
  have e : l.flatMap (fun x => (sltF ws x).1) = (l.take j).flatMap (fun x => (sltF ws x).1) ++ ((sltF ws l[j]).1 ++ (l.drop (j + 1)).flatMap (fun x => (sltF ws x).1)) := by
    conv => lhs; rw [← List.take_append_drop j l, List.drop_eq_getElem_cons hj]
    rw [List.flatMap_append, List.flatMap_cons]
  rw [e]
  constructor
  · simp only [List.length_append]; omega
  · rw [← h2 d (by omega)]
    simp only [List.getD_eq_getElem?_getD]
    rw [List.getElem?_append_right (by omega), List.getElem?_append_left (by omega)]
    congr 2
    omega
end Yteeghjhkfaeflaa
end Go.Proofs
