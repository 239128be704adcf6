/- Operations played in two parts, said of the plain function. -/
import Derived.Test.YtkffabochgmagaaArQ
namespace Go.Proofs
namespace Ytkffabochgmagaa
open Go.RowKit

/-- a step of a state that has more read and greater counts -/
theorem step_more (ws got g : List Int) (r w a b : Int) (o : AOp) : stepF ⟨ws, g ++ got, a + r, b + w⟩ o = ((stepF ⟨ws, got, r, w⟩ o).1, ⟨(stepF ⟨ws, got, r, w⟩ o).2.ws, g ++ (stepF ⟨ws, got, r, w⟩ o).2.got, a + (stepF ⟨ws, got, r, w⟩ o).2.r, b + (stepF ⟨ws, got, r, w⟩ o).2.w⟩) := by
  unfold stepF
  dsimp only
  split
  · split
    · simp [List.append_assoc, Int.add_assoc]
    · rfl
  · split
    · split
      · simp [Int.add_assoc]
      · rfl
    · split
      · split
        · simp [Int.add_assoc]
        · rfl
      · split
        · split
          · simp [Int.add_assoc]
          · rfl
        · rfl
/-- playing on from a state, with what was read and counted put ahead -/
theorem go_more (ops : List AOp) : ∀ (i j : Nat) (ws got g : List Int) (r w a b : Int), goF (i + j) ⟨ws, g ++ got, a + r, b + w⟩ ops =
    if (goF j ⟨ws, got, r, w⟩ ops).e = 0 then ⟨(goF j ⟨ws, got, r, w⟩ ops).ws, g ++ (goF j ⟨ws, got, r, w⟩ ops).got, a + (goF j ⟨ws, got, r, w⟩ ops).r, b + (goF j ⟨ws, got, r, w⟩ ops).w, 0, 0⟩ else AAns.err (i + (goF j ⟨ws, got, r, w⟩ ops).at_) (goF j ⟨ws, got, r, w⟩ ops).e := by
  induction ops with
  | nil => intro i j ws got g r w a b; simp [goF]
  | cons o t ih =>
    intro i j ws got g r w a b
    by_cases h : (stepF ⟨ws, got, r, w⟩ o).1 = 0
    · rw [goF_step h, goF_step (by rw [step_more]; exact h), step_more]
      generalize stepF ⟨ws, got, r, w⟩ o = S
      obtain ⟨c, ws', got', r', w'⟩ := S
      exact ih i (j + 1) ws' got' g r' w' a b
    · rw [goF_err h, goF_err (by rw [step_more]; exact h), step_more, if_neg (by exact h)]
      simp [AAns.err]
theorem go_append (x y : List AOp) : ∀ (i : Nat) (s : ASt), goF i s (x ++ y) = if (goF i s x).e = 0 then goF (i + x.length) ⟨(goF i s x).ws, (goF i s x).got, (goF i s x).r, (goF i s x).w⟩ y else goF i s x := by
  induction x with
  | nil => intro i s; simp [goF]
  | cons o t ih =>
    intro i s
    rw [List.cons_append]
    by_cases h : (stepF s o).1 = 0
    · rw [goF_step h, goF_step h, ih (i + 1), List.length_cons, show i + 1 + t.length = i + (t.length + 1) by omega]
    · rw [goF_err h, goF_err h, if_neg (by exact h)]
/-- the word 0 stays -/
theorem step_head (s : ASt) (o : AOp) : (stepF s o).2.ws.headD 0 = s.ws.headD 0 := by
  obtain ⟨ws, got, r, w⟩ := s
  cases ws with
  | nil =>
    have h := step_length ⟨[], got, r, w⟩ o
    rw [List.eq_nil_of_length_eq_zero h]
  | cons z t =>
    unfold stepF
    dsimp only
    split
    · split <;> rfl
    · split
      · split
        · rename_i h
          have := (partB_spec.1 h).1
          obtain ⟨k, hk⟩ : ∃ k : Nat, o.src.toNat = k + 1 := ⟨o.src.toNat - 1, by omega⟩
          rw [hk]
          rfl
        · rfl
      · split
        · split
          · rename_i h
            have := (partB_spec.1 h.2).1
            obtain ⟨k, hk⟩ : ∃ k : Nat, o.dst.toNat = k + 1 := ⟨o.dst.toNat - 1, by omega⟩
            simp only [copyL, hk, List.take_succ_cons, List.cons_append]
            rfl
          · rfl
        · split
          · split
            · rename_i h
              have := (partB_spec.1 h).1
              obtain ⟨k, hk⟩ : ∃ k : Nat, o.src.toNat = k + 1 := ⟨o.src.toNat - 1, by omega⟩
              simp only [zeroL, hk, List.take_succ_cons, List.cons_append]
              rfl
            · rfl
          · rfl
theorem go_kept (ops : List AOp) : ∀ (i : Nat) (s : ASt), (goF i s ops).e = 0 → (goF i s ops).ws.length = s.ws.length ∧ (goF i s ops).ws.headD 0 = s.ws.headD 0 := by
  induction ops with
  | nil => intro i s _; exact ⟨rfl, rfl⟩
  | cons o t ih =>
    intro i s h
    by_cases h1 : (stepF s o).1 = 0
    · rw [goF_step h1] at h ⊢
      have := ih _ _ h
      exact ⟨this.1.trans (step_length s o), this.2.trans (step_head s o)⟩
    · rw [goF_err h1] at h
      exact absurd h h1
theorem chk_same {xs ys : List Int} (h1 : xs.length = ys.length) (h2 : xs.headD 0 = ys.headD 0) : chkF xs = chkF ys := by
  unfold chkF
  rw [h1, h2]
/-- two parts and the whole -/
theorem parts_bad (ws : List Int) (ops : List AOp) (k : Nat) (hl : ops.length ≤ 500) (h : (playF ws (ops.take k)).e ≠ 0) : (playF ws ops).e = (playF ws (ops.take k)).e ∧ (playF ws ops).at_ = (playF ws (ops.take k)).at_ := by
  have ht : (ops.take k).length ≤ 500 := by rw [List.length_take]; omega
  by_cases hc : chkF ws = 0
  · have e1 : ∀ l : List AOp, l.length ≤ 500 → playF ws l = goF 0 ⟨ws, [], 0, 0⟩ l := fun l hl => by unfold playF; rw [if_neg (by simp [hc]), if_neg (by omega)]
    rw [e1 _ ht] at h ⊢
    rw [e1 _ hl]
    have := go_append (ops.take k) (ops.drop k) 0 ⟨ws, [], 0, 0⟩
    rw [List.take_append_drop, if_neg h] at this
    rw [this]
    exact ⟨rfl, rfl⟩
  · have e1 : ∀ l : List AOp, playF ws l = AAns.err 0 (chkF ws) := fun l => by unfold playF; rw [if_pos hc]
    rw [e1, e1]
    exact ⟨rfl, rfl⟩
theorem parts_fine (ws : List Int) (ops : List AOp) (k : Nat) (hk : k ≤ ops.length) (hl : ops.length ≤ 500) (h : (playF ws (ops.take k)).e = 0) :
    playF ws ops = if (playF (playF ws (ops.take k)).ws (ops.drop k)).e = 0 then ⟨(playF (playF ws (ops.take k)).ws (ops.drop k)).ws, (playF ws (ops.take k)).got ++ (playF (playF ws (ops.take k)).ws (ops.drop k)).got, (playF ws (ops.take k)).r + (playF (playF ws (ops.take k)).ws (ops.drop k)).r, (playF ws (ops.take k)).w + (playF (playF ws (ops.take k)).ws (ops.drop k)).w, 0, 0⟩
      else AAns.err (k + (playF (playF ws (ops.take k)).ws (ops.drop k)).at_) (playF (playF ws (ops.take k)).ws (ops.drop k)).e := by
  have ht : (ops.take k).length ≤ 500 := by rw [List.length_take]; omega
  have hd : (ops.drop k).length ≤ 500 := by rw [List.length_drop]; omega
  by_cases hc : chkF ws = 0
  · have e1 : ∀ l : List AOp, l.length ≤ 500 → playF ws l = goF 0 ⟨ws, [], 0, 0⟩ l := fun l hl => by unfold playF; rw [if_neg (by simp [hc]), if_neg (by omega)]
    rw [e1 _ ht] at h ⊢
    have kp := go_kept _ _ _ h
    have hc2 : chkF (goF 0 ⟨ws, [], 0, 0⟩ (ops.take k)).ws = 0 := (chk_same kp.1 kp.2).trans hc
    have e2 : playF (goF 0 ⟨ws, [], 0, 0⟩ (ops.take k)).ws (ops.drop k) = goF 0 ⟨(goF 0 ⟨ws, [], 0, 0⟩ (ops.take k)).ws, [], 0, 0⟩ (ops.drop k) := by unfold playF; rw [if_neg (by simp [hc2]), if_neg (by omega)]
    rw [e2, e1 _ hl]
    have ha := go_append (ops.take k) (ops.drop k) 0 ⟨ws, [], 0, 0⟩
    rw [List.take_append_drop, if_pos h] at ha
    rw [ha]
    have hlen : 0 + (ops.take k).length = k + 0 := by rw [List.length_take]; omega
    rw [hlen]
    have := go_more (ops.drop k) k 0 (goF 0 ⟨ws, [], 0, 0⟩ (ops.take k)).ws [] (goF 0 ⟨ws, [], 0, 0⟩ (ops.take k)).got 0 0 (goF 0 ⟨ws, [], 0, 0⟩ (ops.take k)).r (goF 0 ⟨ws, [], 0, 0⟩ (ops.take k)).w
    simpa using this
  · exfalso
    unfold playF at h
    rw [if_pos hc] at h
    exact hc h
end Ytkffabochgmagaa
end Go.Proofs
