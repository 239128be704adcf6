/- Plain facts for the law of good tables. -/
import Derived.Test.YtjanicngedkhnaaSlCjA
namespace Go.Proofs
namespace Ytjanicngedkhnaa

theorem of_facts (l : List Int) : (∃ L, ofA l = (L, 0) ∧ lenA L = ((addrN L : Int), 0) ∧ chkF L = (0, 0) ∧ (L.length = 8 ∨ 3 * L.length < 8 * addrN L) ∧ addrN L ≤ 1600 ∧ L.length ≤ 8192) ∨ (∃ L e, ofA l = (L, e) ∧ e ≠ 0 ∧ L.length ≤ 8192) := by
  unfold ofA
  by_cases h : 4000 < l.length
  · rw [if_pos h]; exact .inr ⟨_, _, rfl, by decide, Nat.zero_le _⟩
  · rw [if_neg h]
    by_cases h2 : l.all isA = true
    · rw [if_pos h2]
      have hl := all_isA.1 h2
      have hG := (adds_ok l new_good hl).1
      have hF := adds_full l new_good hl (by decide) (.inl rfl)
      have hs := hG.tab.srt_addr
      have hb := srt_len (l.foldl addF newF)
      have hc := chk_of_good hG
      refine .inl ⟨_, rfl, ?_, hc, hF, by omega, hG.tab.hi⟩
      unfold lenA
      rw [hc, if_neg (by simp), hs]
    · rw [if_neg h2]; exact .inr ⟨_, _, rfl, by decide, Nat.zero_le _⟩
theorem join_facts (cs ts : List Int) : (∃ M, joinA cs ts = (M, 0) ∧ chkF M = (0, 0) ∧ M.length ≤ 8192) ∨ (∃ M e, joinA cs ts = (M, e) ∧ e ≠ 0 ∧ M.length ≤ 8192) := by
  by_cases hg : (chkF cs).2 ≠ 0
  · rw [join_1 hg]; exact .inr ⟨_, _, rfl, hg, Nat.zero_le _⟩
  · by_cases hg2 : (chkF ts).2 ≠ 0
    · rw [join_2 hg hg2]; exact .inr ⟨_, _, rfl, hg2, Nat.zero_le _⟩
    · rw [join_3 hg hg2]
      have hG := (adds_ok (srt ts) (good_of_chk (Classical.byContradiction hg)) (fun x hx => (mem_srt.1 hx).1)).1
      exact .inl ⟨_, rfl, chk_of_good hG, hG.tab.hi⟩
/-- a good table of n cells that holds no address -/
structure Clear (n : Nat) (c : List Int) : Prop where
  good : Good c
  none : ∀ x, 0 < x → x ∉ c
  len : c.length = n
theorem Clear.addr {n : Nat} {c : List Int} (h : Clear n c) : addrN c = 0 := by
  unfold addrN
  rw [List.countP_eq_zero]
  intro x hx
  have := h.none x
  simp only [decide_eq_true_eq]
  exact fun h0 => this h0 hx
theorem purge_facts {cs : List Int} (h : (chkF cs).2 = 0) : ∃ c z, purgeA cs 1 1601 = (c, z, 0) ∧ Clear cs.length c := by
  have hG := good_of_chk h
  unfold purgeA
  rw [if_neg (by simp [h])]
  refine ⟨_, _, rfl, purge_good hG 1 1601, ?_, purge_len cs 1 1601⟩
  intro x hx hm
  obtain ⟨h1, h2⟩ := (purge_mem hx).1 hm
  have := hG.tab.rng x h1
  exact h2 ⟨by omega, by omega⟩
theorem ask_good {c : List Int} {x : Int} (hG : Good c) (hx : 1 ≤ x ∧ x ≤ 1600) : askE c x = 0 := by
  unfold askE
  rw [if_neg (by rw [chk_of_good hG]; simp), if_pos (isA_iff.2 hx)]
theorem clear_round {n : Nat} {c : List Int} {x : Int} (h : Clear n c) (hx : 1 ≤ x ∧ x ≤ 1600) : ∃ b1 b2 c1 c2, addA c x = (c1, b1, 0) ∧ dropA c1 x = (c2, b2, 0) ∧ Clear n c2 ∧ c1.length = n := by
  have hA := add_ok h.good hx
  have hl := (hA.same h.addr).trans h.len
  refine ⟨!hasB c x, hasB (addF c x) x, addF c x, dropF (addF c x) x, ?_, ?_, ⟨drop_good hA.good (by omega), ?_, by rw [drop_len]; exact hl⟩, hl⟩
  · unfold addA; rw [if_neg (by rw [ask_good h.good hx]; simp)]
  · unfold dropA; rw [if_neg (by rw [ask_good hA.good hx]; simp)]
  · intro y hy hm
    obtain ⟨h1, h2⟩ := (drop_mem hA.good.tab hA.good.zero (by omega) hy).1 hm
    rcases (hA.mem y hy).1 h1 with h3 | h3
    · exact h2 h3
    · exact h.none y hy h3
theorem clear_len {n : Nat} {c : List Int} (h : Clear n c) : lenA c = (0, 0) := by
  unfold lenA
  rw [if_neg (by rw [chk_of_good h.good]; simp), h.good.tab.srt_addr, h.addr]
  rfl
end Ytjanicngedkhnaa
end Go.Proofs
