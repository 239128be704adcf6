/- The words after each operation, as plain functions; what was written last. -/
import Derived.Test.YtkffabochgmagaaArQ
import Derived.Test.YtkffabochgmagaaArPP
namespace Go.Proofs
namespace Ytkffabochgmagaa

/-- the state after the first k operations -/
def stAt (ws : List Int) (ops : List AOp) : Nat → ASt
  | 0 => ⟨ws, [], 0, 0⟩
  | k + 1 => match ops[k]? with
    | some o => (stepF (stAt ws ops k) o).2
    | none => stAt ws ops k
theorem st_succ {ws : List Int} {ops : List AOp} {k : Nat} (h : k < ops.length) : stAt ws ops (k + 1) = (stepF (stAt ws ops k) ops[k]).2 := by
  rw [stAt, List.getElem?_eq_getElem h]
theorem st_length (ws : List Int) (ops : List AOp) (k : Nat) : (stAt ws ops k).ws.length = ws.length := by
  induction k with
  | zero => rfl
  | succ k ih =>
    rw [stAt]
    split
    · rw [step_length, ih]
    · exact ih
/-- the first n operations have no error -/
def okU (ws : List Int) (ops : List AOp) (n : Nat) : Prop := ∀ k (h : k < ops.length), k < n → (stepF (stAt ws ops k) ops[k]).1 = 0
theorem play_st {ws : List Int} {ops : List AOp} (h : (playF ws ops).e = 0) : okU ws ops ops.length ∧ (playF ws ops).ws = (stAt ws ops ops.length).ws ∧ (playF ws ops).got = (stAt ws ops ops.length).got := by
  unfold playF at *
  by_cases hc : chkF ws ≠ 0
  · rw [if_pos hc] at h; exact absurd h hc
  · rw [if_neg hc] at h ⊢
    by_cases h5 : 500 < ops.length
    · rw [if_pos h5] at h; simp [AAns.err] at h
    · rw [if_neg h5] at h ⊢
      have key : ∀ j, j ≤ ops.length → goF 0 ⟨ws, [], 0, 0⟩ ops = goF j (stAt ws ops j) (ops.drop j) ∧ ∀ k (hk : k < ops.length), k < j → (stepF (stAt ws ops k) ops[k]).1 = 0 := by
        intro j
        induction j with
        | zero => intro _; exact ⟨by rw [List.drop_zero]; rfl, fun k _ h0 => absurd h0 (Nat.not_lt_zero _)⟩
        | succ j ih =>
          intro hj
          obtain ⟨e1, e2⟩ := ih (by omega)
          have hd : ops.drop j = ops[j] :: ops.drop (j + 1) := List.drop_eq_getElem_cons (by omega)
          have hz : (stepF (stAt ws ops j) ops[j]).1 = 0 := by
            apply Classical.byContradiction
            intro hn
            rw [e1, hd, goF_err hn] at h
            exact hn h
          refine ⟨by rw [e1, hd, goF_step hz, st_succ (by omega)], fun k hk hkj => ?_⟩
          by_cases hkj' : k < j
          · exact e2 k hk hkj'
          · obtain rfl : k = j := by omega
            exact hz
      obtain ⟨e1, e2⟩ := key ops.length (Nat.le_refl _)
      rw [e1, List.drop_length, goF]
      exact ⟨e2, rfl, rfl⟩
/-- what an operation without an error does, kind by kind -/
theorem ok_kinds {s : ASt} {o : AOp} (h : (stepF s o).1 = 0) :
    (o.kind = 1 ∧ partB s.ws.length o.src 1 = true ∧ (stepF s o).2.ws = s.ws ∧ (stepF s o).2.got = s.got ++ [s.ws.getD o.src.toNat 0]) ∨
    (o.kind = 2 ∧ partB s.ws.length o.src 1 = true ∧ (stepF s o).2.ws = s.ws.set o.src.toNat o.val ∧ (stepF s o).2.got = s.got) ∨
    (o.kind = 3 ∧ partB s.ws.length o.src o.n = true ∧ partB s.ws.length o.dst o.n = true ∧ (stepF s o).2.ws = copyL s.ws o.src.toNat o.dst.toNat o.n.toNat ∧ (stepF s o).2.got = s.got) ∨
    (o.kind = 4 ∧ partB s.ws.length o.src o.n = true ∧ (stepF s o).2.ws = zeroL s.ws o.src.toNat o.n.toNat ∧ (stepF s o).2.got = s.got) := by
  unfold stepF at *
  by_cases k1 : o.kind = 1
  · left
    rw [if_pos k1] at h ⊢
    by_cases hp : partB s.ws.length o.src 1 = true
    · rw [if_pos hp]; exact ⟨k1, hp, rfl, rfl⟩
    · rw [if_neg hp] at h; simp at h
  · right
    rw [if_neg k1] at h ⊢
    by_cases k2 : o.kind = 2
    · left
      rw [if_pos k2] at h ⊢
      by_cases hp : partB s.ws.length o.src 1 = true
      · rw [if_pos hp]; exact ⟨k2, hp, rfl, rfl⟩
      · rw [if_neg hp] at h; simp at h
    · right
      rw [if_neg k2] at h ⊢
      by_cases k3 : o.kind = 3
      · left
        rw [if_pos k3] at h ⊢
        by_cases hp : partB s.ws.length o.src o.n = true ∧ partB s.ws.length o.dst o.n = true
        · rw [if_pos hp]; exact ⟨k3, hp.1, hp.2, rfl, rfl⟩
        · rw [if_neg hp] at h; simp at h
      · right
        rw [if_neg k3] at h ⊢
        by_cases k4 : o.kind = 4
        · rw [if_pos k4] at h ⊢
          by_cases hp : partB s.ws.length o.src o.n = true
          · rw [if_pos hp]; exact ⟨k4, hp, rfl, rfl⟩
          · rw [if_neg hp] at h; simp at h
        · rw [if_neg k4] at h; simp at h
theorem set_at {ws : List Int} {k a : Nat} (z : Int) (h : a < ws.length) : (ws.set k z).getD a 0 = if k = a then z else ws.getD a 0 := by
  simp only [List.getD_eq_getElem?_getD, List.getElem?_set]
  by_cases e : k = a
  · subst e; rw [if_pos rfl, if_pos h, if_pos rfl]; rfl
  · rw [if_neg e, if_neg e]
theorem copy_at {ws : List Int} {s d n a : Nat} (h1 : s + n ≤ ws.length) (h2 : d + n ≤ ws.length) : (copyL ws s d n).getD a 0 = if d ≤ a ∧ a < d + n then ws.getD (s + (a - d)) 0 else ws.getD a 0 := by
  simp only [copyL, List.getD_eq_getElem?_getD, List.getElem?_append, List.length_append, List.length_take, List.length_drop, List.getElem?_take, List.getElem?_drop]
  have e1 : min d ws.length = d := by omega
  have e2 : min n (ws.length - s) = n := by omega
  rw [e1, e2]
  by_cases c1 : a < d
  · rw [if_pos (by omega), if_pos c1, if_pos c1, if_neg (by omega)]
  · by_cases c2 : a < d + n
    · rw [if_pos c2, if_neg c1, if_pos (by omega), if_pos (by omega)]
    · rw [if_neg c2, if_neg (by omega)]
      congr 2
      omega
theorem zero_at {ws : List Int} {s n a : Nat} (h1 : s + n ≤ ws.length) : (zeroL ws s n).getD a 0 = if s ≤ a ∧ a < s + n then 0 else ws.getD a 0 := by
  simp only [zeroL, List.getD_eq_getElem?_getD, List.getElem?_append, List.length_append, List.length_take, List.length_replicate, List.getElem?_take, List.getElem?_drop, List.getElem?_replicate]
  have e1 : min s ws.length = s := by omega
  rw [e1]
  by_cases c1 : a < s
  · rw [if_pos (by omega), if_pos c1, if_pos c1, if_neg (by omega)]
  · by_cases c2 : a < s + n
    · rw [if_pos c2, if_neg c1, if_pos (by omega), if_pos (by omega)]; rfl
    · rw [if_neg c2, if_neg (by omega)]
      congr 2
      omega
/-- what was read stays -/
theorem got_pre {ws : List Int} {ops : List AOp} {j : Nat} : ∀ n, j ≤ n → (stAt ws ops j).got <+: (stAt ws ops n).got := by
  intro n
  induction n with
  | zero =>
    intro h
    obtain rfl : j = 0 := by omega
    exact List.prefix_rfl
  | succ n ih =>
    intro h
    by_cases hj : j = n + 1
    · subst hj; exact List.prefix_rfl
    · refine (ih (by omega)).trans ?_
      rw [stAt]
      split
      · rename_i o _
        unfold stepF
        split
        · split
          · exact List.prefix_append _ _
          · exact List.prefix_rfl
        · split
          · split <;> exact List.prefix_rfl
          · split
            · split <;> exact List.prefix_rfl
            · split
              · split <;> exact List.prefix_rfl
              · exact List.prefix_rfl
      · exact List.prefix_rfl
end Ytkffabochgmagaa
end Go.Proofs
