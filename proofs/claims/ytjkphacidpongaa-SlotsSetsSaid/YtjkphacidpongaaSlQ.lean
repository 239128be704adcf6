/- Tables: what stays when a number is put into one, or dropped. -/
import Derived.Test.YtjkphacidpongaaSlP
namespace Go.Proofs
namespace Ytjkphacidpongaa
open Go.RowKit

theorem pos_lt (a : Int) {n : Nat} (h : 0 < n) (i : Nat) : pos a n i < n := by
  unfold pos
  have h1 := Int.emod_nonneg (a * 40503 + i) (show (n : Int) ≠ 0 by omega)
  have h2 := Int.emod_lt_of_pos (a * 40503 + i) (show (0 : Int) < n by omega)
  omega
theorem pos_cast (a : Int) {n : Nat} (h : 0 < n) (i : Nat) : ((pos a n i : Nat) : Int) = (a * 40503 + i) % n := by
  unfold pos
  exact Int.toNat_of_nonneg (Int.emod_nonneg _ (by omega))
theorem pos_succ (a : Int) {n : Nat} (h : 0 < n) (i : Nat) : pos a n (i + 1) = (pos a n i + 1) % n := by
  have e : ((pos a n (i + 1) : Nat) : Int) = (((pos a n i + 1) % n : Nat) : Int) := by
    rw [pos_cast a h]
    simp only [Int.natCast_emod, Int.natCast_add, pos_cast a h, Int.emod_add_emod]
    congr 1
    simp
    omega
  omega
theorem pos_surj (a : Int) {n t : Nat} (h : t < n) : ∃ i, i < n ∧ pos a n i = t := by
  have h1 := Int.emod_nonneg ((t : Int) - a * 40503) (show (n : Int) ≠ 0 by omega)
  have h2 := Int.emod_lt_of_pos ((t : Int) - a * 40503) (show (0 : Int) < n by omega)
  refine ⟨(((t : Int) - a * 40503) % n).toNat, by omega, ?_⟩
  have e : ((pos a n (((t : Int) - a * 40503) % n).toNat : Nat) : Int) = t := by
    rw [pos_cast a (by omega), Int.toNat_of_nonneg h1, Int.add_emod, Int.emod_emod, ← Int.add_emod]
    rw [show a * 40503 + ((t : Int) - a * 40503) = t by omega]
    exact Int.emod_eq_of_lt (by omega) (by omega)
  omega
theorem getD_mem {cs : List Int} {i : Nat} (h : i < cs.length) : cs.getD i 0 ∈ cs := by
  simp [List.getD_eq_getElem?_getD, h]
theorem mem_getD {cs : List Int} {x : Int} (h : x ∈ cs) : ∃ i, i < cs.length ∧ cs.getD i 0 = x := by
  obtain ⟨i, hi, rfl⟩ := List.mem_iff_getElem.1 h
  exact ⟨i, hi, by simp [List.getD_eq_getElem?_getD, hi]⟩
theorem getD_set {cs : List Int} {p : Nat} {v : Int} (h : p < cs.length) (j : Nat) : (cs.set p v).getD j 0 = if j = p then v else cs.getD j 0 := by
  simp only [List.getD_eq_getElem?_getD, List.getElem?_set]
  by_cases e : j = p
  · subst e; simp [h]
  · simp [e, Ne.symm e]
theorem pv_set {cs : List Int} {p : Nat} {v : Int} (h : p < cs.length) (a : Int) (j : Nat) : pv (cs.set p v) a j = if pos a cs.length j = p then v else pv cs a j := by
  unfold pv
  rw [List.length_set, getD_set h]
theorem pv_mem {cs : List Int} (h : 0 < cs.length) (a : Int) (i : Nat) : pv cs a i ∈ cs := getD_mem (pos_lt a h i)
theorem zero_at {cs : List Int} (h : (0 : Int) ∈ cs) (a : Int) : ∃ z, z < cs.length ∧ pv cs a z = 0 := by
  obtain ⟨i, hi, e⟩ := mem_getD h
  obtain ⟨z, hz, e2⟩ := pos_surj a hi
  exact ⟨z, hz, by unfold pv; rw [e2, e]⟩
theorem stop_lt {cs : List Int} (h : (0 : Int) ∈ cs) (a : Int) : stopI cs a < cs.length := by
  obtain ⟨z, hz, e⟩ := zero_at h a
  exact Nat.lt_of_le_of_lt (least_hit _ _ _ z (Nat.zero_le _) (by simp [e])) hz
theorem stop_at {cs : List Int} (h : (0 : Int) ∈ cs) (a : Int) : pv cs a (stopI cs a) = a ∨ pv cs a (stopI cs a) = 0 := by
  have := least_at (fun i => pv cs a i == a || pv cs a i == 0) cs.length 0 (by have := stop_lt h a; unfold stopI at this; omega)
  unfold stopI
  simpa using this
theorem stop_before {cs : List Int} {a : Int} {j : Nat} (h : j < stopI cs a) : pv cs a j ≠ a ∧ pv cs a j ≠ 0 := by
  have := least_before (fun i => pv cs a i == a || pv cs a i == 0) _ _ j (Nat.zero_le _) h
  simpa using this
theorem free_lt {cs : List Int} (h : (0 : Int) ∈ cs) (a : Int) : freeI cs a < cs.length := by
  obtain ⟨z, hz, e⟩ := zero_at h a
  exact Nat.lt_of_le_of_lt (least_hit _ _ _ z (Nat.zero_le _) (by simp [e])) hz
theorem free_at {cs : List Int} (h : (0 : Int) ∈ cs) (a : Int) : pv cs a (freeI cs a) ≤ 0 := by
  have := least_at (fun i => decide (pv cs a i ≤ 0)) cs.length 0 (by have := free_lt h a; unfold freeI at this; omega)
  unfold freeI
  simpa using this
theorem free_before {cs : List Int} {a : Int} {j : Nat} (h : j < freeI cs a) : 0 < pv cs a j := by
  have := least_before (fun i => decide (pv cs a i ≤ 0)) _ _ j (Nat.zero_le _) h
  simpa using this
theorem free_stop {cs : List Int} {a : Int} (h : (0 : Int) ∈ cs) (hh : hasB cs a = false) : freeI cs a ≤ stopI cs a := by
  refine least_hit _ _ _ _ (Nat.zero_le _) ?_
  rcases stop_at h a with e | e
  · unfold hasB at hh; rw [e] at hh; simp at hh
  · simp [e]

/-- a number is on its path -/
def onPath (cs : List Int) (a : Int) : Prop := ∃ i, i < cs.length ∧ pv cs a i = a ∧ ∀ j, j < i → pv cs a j ≠ 0
theorem has_iff {cs : List Int} {a : Int} (h : (0 : Int) ∈ cs) : hasB cs a = true ↔ onPath cs a := by
  constructor
  · intro hh
    exact ⟨stopI cs a, stop_lt h a, by simpa [hasB] using hh, fun j hj => (stop_before hj).2⟩
  · rintro ⟨i, hi, e, hb⟩
    have h1 : stopI cs a ≤ i := least_hit _ _ _ i (Nat.zero_le _) (by simp [e])
    unfold hasB
    rcases stop_at h a with e2 | e2
    · simp [e2]
    · rcases Nat.lt_or_ge (stopI cs a) i with h2 | h2
      · exact absurd e2 (hb _ h2)
      · obtain rfl : stopI cs a = i := by omega
        simp [e]
/-- a table without the bound on what is used -/
structure Tab (cs : List Int) : Prop where
  lo : 8 ≤ cs.length
  hi : cs.length ≤ 8192
  rng : ∀ c ∈ cs, -1 ≤ c ∧ c ≤ 1600
  once : ∀ x, 0 < x → cs.count x ≤ 1
  path : ∀ x ∈ cs, 0 < x → onPath cs x
theorem onPath.mem {cs : List Int} {a : Int} (h : onPath cs a) : a ∈ cs := by
  obtain ⟨i, hi, e, -⟩ := h
  rw [← e]
  exact pv_mem (by omega) a i
theorem Tab.has {cs : List Int} (h : Tab cs) (h0 : (0 : Int) ∈ cs) {a : Int} (ha : 0 < a) : hasB cs a = true ↔ a ∈ cs :=
  (has_iff h0).trans ⟨onPath.mem, fun hm => h.path a hm ha⟩
theorem Tab.hasF {cs : List Int} (h : Tab cs) (h0 : (0 : Int) ∈ cs) {a : Int} (ha : 0 < a) : hasB cs a = false ↔ a ∉ cs := by
  rw [← h.has h0 ha]; simp
theorem Tab.srt_addr {cs : List Int} (h : Tab cs) : (srt cs).length = addrN cs := Ytjkphacidpongaa.srt_addr (fun x hx => (h.rng x hx).2) h.once
theorem Tab.sort_eq {cs : List Int} (h : Tab cs) (f t : Int) : (cs.filter fun x => isA x && (decide (f ≤ x) && decide (x < t))).mergeSort (fun x y => decide (x ≤ y)) = inF f t (srt cs) := Ytjkphacidpongaa.sort_eq h.once f t
theorem Tab.mem_srt {cs : List Int} (h : Tab cs) {x : Int} : x ∈ srt cs ↔ 0 < x ∧ x ∈ cs := by
  rw [Ytjkphacidpongaa.mem_srt]
  constructor
  · rintro ⟨h1, h2⟩; exact ⟨by omega, h2⟩
  · rintro ⟨h1, h2⟩; have := h.rng x h2; exact ⟨by omega, h2⟩
theorem zero_of_used {cs : List Int} (h : usedN cs < cs.length) : (0 : Int) ∈ cs := by
  apply Classical.byContradiction
  intro hn
  have : usedN cs = cs.length := by
    unfold usedN
    rw [List.countP_eq_length]
    intro a ha
    simp only [bne_iff_ne, ne_eq]
    rintro rfl
    exact hn ha
  omega
theorem addr_used (cs : List Int) : addrN cs ≤ usedN cs := by
  unfold addrN usedN
  refine List.countP_mono_left ?_
  intro x _ h
  simp only [decide_eq_true_eq] at h
  simp only [bne_iff_ne, ne_eq]
  omega
theorem getElem_getD {cs : List Int} {p : Nat} (h : p < cs.length) : cs[p] = cs.getD p 0 := by simp [List.getD_eq_getElem?_getD, h]
section put
variable {cs : List Int} {a : Int}
theorem put_len (cs : List Int) (a : Int) : (putF cs a).length = cs.length := by simp [putF]
theorem put_count (h : (0 : Int) ∈ cs) {x : Int} (hx : 0 < x) : (putF cs a).count x = cs.count x + if a = x then 1 else 0 := by
  have hl : pos a cs.length (freeI cs a) < cs.length := pos_lt a (List.length_pos_of_mem h) _
  have hv := free_at h a
  unfold pv at hv
  unfold putF
  rw [List.count_set hl, getElem_getD hl]
  rw [if_neg (by simp only [beq_iff_eq]; omega)]
  simp
theorem put_mem (h : (0 : Int) ∈ cs) {x : Int} (hx : 0 < x) : x ∈ putF cs a ↔ x = a ∨ x ∈ cs := by
  rw [← List.count_pos_iff, ← List.count_pos_iff, put_count h hx]
  by_cases e : a = x
  · subst e; simp
  · simp [e, Ne.symm e]
theorem put_used (h : (0 : Int) ∈ cs) (ha : 0 < a) : usedN (putF cs a) ≤ usedN cs + 1 ∧ usedN cs ≤ usedN (putF cs a) := by
  have hl : pos a cs.length (freeI cs a) < cs.length := pos_lt a (List.length_pos_of_mem h) _
  unfold putF usedN
  rw [List.countP_set hl, getElem_getD hl]
  rw [if_pos (show (a != 0) = true by simp only [bne_iff_ne, ne_eq]; omega)]
  split <;> omega
theorem put_addr (h : (0 : Int) ∈ cs) (ha : 0 < a) : addrN (putF cs a) = addrN cs + 1 := by
  have hl : pos a cs.length (freeI cs a) < cs.length := pos_lt a (List.length_pos_of_mem h) _
  have hv := free_at h a
  unfold pv at hv
  unfold putF addrN
  rw [List.countP_set hl, getElem_getD hl]
  rw [if_neg (by simp only [decide_eq_true_eq]; omega), if_pos (by simpa using ha)]
  omega
theorem put_tab (hT : Tab cs) (h : (0 : Int) ∈ cs) (ha : 1 ≤ a ∧ a ≤ 1600) (hn : a ∉ cs) : Tab (putF cs a) := by
  have hl : pos a cs.length (freeI cs a) < cs.length := pos_lt a (List.length_pos_of_mem h) _
  have hv := free_at h a
  refine ⟨by rw [put_len]; exact hT.lo, by rw [put_len]; exact hT.hi, ?_, ?_, ?_⟩
  · intro c hc
    rcases List.mem_or_eq_of_mem_set hc with h1 | rfl
    · exact hT.rng c h1
    · omega
  · intro x hx
    rw [put_count h hx]
    have := hT.once x hx
    split
    · rename_i e; subst e; rw [List.count_eq_zero.2 hn]; omega
    · omega
  · intro x hx hx0
    rcases (put_mem h hx0).1 hx with rfl | h1
    · refine ⟨freeI cs x, by rw [put_len]; exact free_lt h x, ?_, fun j hj => ?_⟩
      · unfold putF; rw [pv_set hl, if_pos rfl]
      · unfold putF; rw [pv_set hl]
        have := free_before hj
        split <;> omega
    · obtain ⟨i, hi, e, hb⟩ := hT.path x h1 hx0
      refine ⟨i, by rw [put_len]; exact hi, ?_, fun j hj => ?_⟩
      · unfold putF; rw [pv_set hl, if_neg]
        · exact e
        · intro e2
          have : pv cs x i = pv cs a (freeI cs a) := by unfold pv; rw [e2]
          omega
      · unfold putF; rw [pv_set hl]
        have := hb j hj
        split <;> omega
end put
section drop
variable {cs : List Int} {a : Int}
theorem drop_len (cs : List Int) (a : Int) : (dropF cs a).length = cs.length := by unfold dropF; split <;> simp
theorem drop_no (h : hasB cs a = false) : dropF cs a = cs := by unfold dropF; rw [h]; rfl
theorem drop_yes (h : hasB cs a = true) : dropF cs a = cs.set (pos a cs.length (stopI cs a)) (-1) := by unfold dropF; rw [h]; rfl
theorem drop_mem (hT : Tab cs) (h : (0 : Int) ∈ cs) (ha : 0 < a) {x : Int} (hx : 0 < x) : x ∈ dropF cs a ↔ x ∈ cs ∧ x ≠ a := by
  cases hh : hasB cs a with
  | false =>
    rw [drop_no hh]
    have := (hT.hasF h ha).1 hh
    exact ⟨fun h1 => ⟨h1, fun e => this (e ▸ h1)⟩, And.left⟩
  | true =>
    have hl : pos a cs.length (stopI cs a) < cs.length := pos_lt a (List.length_pos_of_mem h) _
    have e1 : cs.getD (pos a cs.length (stopI cs a)) 0 = a := by simpa [hasB, pv] using hh
    rw [drop_yes hh, ← List.count_pos_iff, List.count_set hl, getElem_getD hl, e1, ← List.count_pos_iff (l := cs)]
    rw [if_neg (show ¬ ((-1 : Int) == x) = true by simp only [beq_iff_eq]; omega)]
    have := hT.once x hx
    by_cases e : a = x
    · subst e; simp; omega
    · simp [e, Ne.symm e]
theorem drop_used (h : (0 : Int) ∈ cs) (ha : 0 < a) : usedN (dropF cs a) = usedN cs := by
  cases hh : hasB cs a with
  | false => rw [drop_no hh]
  | true =>
    have hl : pos a cs.length (stopI cs a) < cs.length := pos_lt a (List.length_pos_of_mem h) _
    have e1 : cs.getD (pos a cs.length (stopI cs a)) 0 = a := by simpa [hasB, pv] using hh
    rw [drop_yes hh]
    unfold usedN
    rw [List.countP_set hl, getElem_getD hl, e1]
    rw [if_pos (show (a != 0) = true by simp only [bne_iff_ne, ne_eq]; omega), if_pos (by decide)]
    have : 0 < cs.countP (fun c => c != 0) := by
      rw [List.countP_pos_iff]
      exact ⟨a, by rw [← e1]; exact getD_mem hl, by simp only [bne_iff_ne, ne_eq]; omega⟩
    omega
theorem drop_tab (hT : Tab cs) (h : (0 : Int) ∈ cs) (ha : 0 < a) : Tab (dropF cs a) := by
  cases hh : hasB cs a with
  | false => rw [drop_no hh]; exact hT
  | true =>
    have hl : pos a cs.length (stopI cs a) < cs.length := pos_lt a (List.length_pos_of_mem h) _
    have e1 : cs.getD (pos a cs.length (stopI cs a)) 0 = a := by simpa [hasB, pv] using hh
    have hm := fun {x : Int} (hx : 0 < x) => drop_mem (a := a) hT h ha hx
    rw [drop_yes hh] at hm ⊢
    refine ⟨by rw [List.length_set]; exact hT.lo, by rw [List.length_set]; exact hT.hi, ?_, ?_, ?_⟩
    · intro c hc
      rcases List.mem_or_eq_of_mem_set hc with h1 | rfl
      · exact hT.rng c h1
      · omega
    · intro x hx
      rw [List.count_set hl, if_neg (show ¬ ((-1 : Int) == x) = true by simp only [beq_iff_eq]; omega)]
      have := hT.once x hx
      omega
    · intro x hx hx0
      obtain ⟨h1, h2⟩ := (hm hx0).1 hx
      obtain ⟨i, hi, e, hb⟩ := hT.path x h1 hx0
      refine ⟨i, by rw [List.length_set]; exact hi, ?_, fun j hj => ?_⟩
      · rw [pv_set hl, if_neg]
        · exact e
        · intro e2
          have : pv cs x i = a := by unfold pv; rw [e2, e1]
          omega
      · rw [pv_set hl]
        have := hb j hj
        split <;> omega
end drop
end Ytjkphacidpongaa
end Go.Proofs
