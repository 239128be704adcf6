/- One operation, played; what it changes; which words differ. -/
import Derived.Test.YtkffabochgmagaaArRg
import Derived.Test.YtkffabochgmagaaArSb
import Derived.Test.YtkffabochgmagaaArLp
namespace Go.Proofs
namespace Ytkffabochgmagaa
open Go.RowKit

theorem one_any (ws : List Int) (o : AOp) : playF ws [o] = if chkF ws ≠ 0 then AAns.err 0 (chkF ws) else if (stepF ⟨ws, [], 0, 0⟩ o).1 = 0 then ⟨(stepF ⟨ws, [], 0, 0⟩ o).2.ws, (stepF ⟨ws, [], 0, 0⟩ o).2.got, (stepF ⟨ws, [], 0, 0⟩ o).2.r, (stepF ⟨ws, [], 0, 0⟩ o).2.w, 0, 0⟩ else AAns.err 0 (stepF ⟨ws, [], 0, 0⟩ o).1 := by
  unfold playF
  by_cases hc : chkF ws ≠ 0
  · rw [if_pos hc, if_pos hc]
  · rw [if_neg hc, if_neg hc, if_neg (by simp)]
    by_cases hs : (stepF ⟨ws, [], 0, 0⟩ o).1 = 0
    · rw [goF_step hs, if_pos hs, goF]
    · rw [goF_err hs, if_neg hs]; rfl
/-- what is asked of an operation's answer: the words, the error, where it writes and how many -/
structure OneOk (ws zs : List Int) (lo nn : Nat) : Prop where
  len : zs.length = ws.length
  c1 : chkF ws = 0
  c2 : chkF zs = 0
  inn : ∀ k, k < ws.length → ws.getD k 0 ≠ zs.getD k 0 → lo ≤ k ∧ k < lo + nn
  room : lo + nn ≤ ws.length
theorem one_set (ws : List Int) (a b n z : Int) : (∃ (zs : List Int) (lo : Nat), setF ws a z = (zs, 0) ∧ a = (lo : Int) ∧ playF ws [⟨2, a, b, n, z⟩] = ⟨zs, [], 0, 1, 0, 0⟩ ∧ OneOk ws zs lo 1) ∨ (∃ E, E ≠ 0 ∧ setF ws a z = ([], E) ∧ playF ws [⟨2, a, b, n, z⟩] = AAns.err 0 E) := by
  rw [one_any]
  unfold setF
  by_cases hc : chkF ws ≠ 0
  · right; exact ⟨chkF ws, hc, if_pos hc, if_pos hc⟩
  · rw [if_neg hc, if_neg hc]
    by_cases hp : partB ws.length a 1 = true
    · left
      obtain ⟨p1, p2, p3, p4⟩ := partB_spec.1 hp
      obtain ⟨lo, rfl⟩ : ∃ lo : Nat, a = (lo : Int) := ⟨a.toNat, by omega⟩
      have e : stepF ⟨ws, [], 0, 0⟩ ⟨2, (lo : Int), b, n, z⟩ = (0, ⟨ws.set lo z, [], 0, 1⟩) := by simp [stepF, hp]
      have ck := chk_kept (s := ⟨ws, [], 0, 0⟩) (o := ⟨2, (lo : Int), b, n, z⟩) (by simpa using hc)
      rw [e] at ck
      rw [e, if_pos hp, if_pos rfl]
      refine ⟨_, lo, rfl, rfl, rfl, ⟨by simp, by simpa using hc, ck, fun k hk hne => ?_, by omega⟩⟩
      rw [Int.toNat_natCast, set_at z hk] at hne
      by_cases he : lo = k
      · omega
      · rw [if_neg he] at hne; exact absurd rfl hne
    · right
      have e : stepF ⟨ws, [], 0, 0⟩ ⟨2, a, b, n, z⟩ = (7, ⟨ws, [], 0, 0⟩) := by simp [stepF, hp]
      rw [e, if_neg hp, if_neg (show ¬ (7 : Int) = 0 by decide)]
      exact ⟨7, by decide, rfl, rfl⟩
theorem one_cpy (ws : List Int) (a b n z : Int) : (∃ (zs : List Int) (lo nn : Nat), cpyF ws a b n = (zs, 0) ∧ b = (lo : Int) ∧ n = (nn : Int) ∧ playF ws [⟨3, a, b, n, z⟩] = ⟨zs, [], (nn : Int), (nn : Int), 0, 0⟩ ∧ OneOk ws zs lo nn) ∨ (∃ E, E ≠ 0 ∧ cpyF ws a b n = ([], E) ∧ playF ws [⟨3, a, b, n, z⟩] = AAns.err 0 E) := by
  rw [one_any]
  unfold cpyF
  by_cases hc : chkF ws ≠ 0
  · right; exact ⟨chkF ws, hc, if_pos hc, if_pos hc⟩
  · rw [if_neg hc, if_neg hc]
    by_cases hp : partB ws.length a n = true ∧ partB ws.length b n = true
    · left
      obtain ⟨p1, p2, p3, p4⟩ := partB_spec.1 hp.1
      obtain ⟨r1, r2, r3, r4⟩ := partB_spec.1 hp.2
      obtain ⟨x, rfl⟩ : ∃ x : Nat, a = (x : Int) := ⟨a.toNat, by omega⟩
      obtain ⟨lo, rfl⟩ : ∃ lo : Nat, b = (lo : Int) := ⟨b.toNat, by omega⟩
      obtain ⟨nn, rfl⟩ : ∃ nn : Nat, n = (nn : Int) := ⟨n.toNat, by omega⟩
      have e : stepF ⟨ws, [], 0, 0⟩ ⟨3, (x : Int), (lo : Int), (nn : Int), z⟩ = (0, ⟨copyL ws x lo nn, [], (nn : Int), (nn : Int)⟩) := by simp [stepF, hp]
      have ck := chk_kept (s := ⟨ws, [], 0, 0⟩) (o := ⟨3, (x : Int), (lo : Int), (nn : Int), z⟩) (by simpa using hc)
      rw [e] at ck
      rw [e, if_pos hp, if_pos rfl]
      refine ⟨_, lo, nn, rfl, rfl, rfl, rfl, ⟨copyL_length (by omega) (by omega), by simpa using hc, ck, fun k hk hne => ?_, by omega⟩⟩
      rw [Int.toNat_natCast, Int.toNat_natCast, Int.toNat_natCast, copy_at (by omega) (by omega)] at hne
      by_cases he : lo ≤ k ∧ k < lo + nn
      · exact he
      · rw [if_neg he] at hne; exact absurd rfl hne
    · right
      have e : stepF ⟨ws, [], 0, 0⟩ ⟨3, a, b, n, z⟩ = (7, ⟨ws, [], 0, 0⟩) := by simp [stepF, hp]
      rw [e, if_neg hp, if_neg (show ¬ (7 : Int) = 0 by decide)]
      exact ⟨7, by decide, rfl, rfl⟩
theorem one_clr (ws : List Int) (a b n z : Int) : (∃ (zs : List Int) (lo nn : Nat), clrF ws a n = (zs, 0) ∧ a = (lo : Int) ∧ n = (nn : Int) ∧ playF ws [⟨4, a, b, n, z⟩] = ⟨zs, [], 0, (nn : Int), 0, 0⟩ ∧ OneOk ws zs lo nn) ∨ (∃ E, E ≠ 0 ∧ clrF ws a n = ([], E) ∧ playF ws [⟨4, a, b, n, z⟩] = AAns.err 0 E) := by
  rw [one_any]
  unfold clrF
  by_cases hc : chkF ws ≠ 0
  · right; exact ⟨chkF ws, hc, if_pos hc, if_pos hc⟩
  · rw [if_neg hc, if_neg hc]
    by_cases hp : partB ws.length a n = true
    · left
      obtain ⟨p1, p2, p3, p4⟩ := partB_spec.1 hp
      obtain ⟨lo, rfl⟩ : ∃ lo : Nat, a = (lo : Int) := ⟨a.toNat, by omega⟩
      obtain ⟨nn, rfl⟩ : ∃ nn : Nat, n = (nn : Int) := ⟨n.toNat, by omega⟩
      have e : stepF ⟨ws, [], 0, 0⟩ ⟨4, (lo : Int), b, (nn : Int), z⟩ = (0, ⟨zeroL ws lo nn, [], 0, (nn : Int)⟩) := by simp [stepF, hp]
      have ck := chk_kept (s := ⟨ws, [], 0, 0⟩) (o := ⟨4, (lo : Int), b, (nn : Int), z⟩) (by simpa using hc)
      rw [e] at ck
      rw [e, if_pos hp, if_pos rfl]
      refine ⟨_, lo, nn, rfl, rfl, rfl, rfl, ⟨zeroL_length (by omega), by simpa using hc, ck, fun k hk hne => ?_, by omega⟩⟩
      rw [Int.toNat_natCast, Int.toNat_natCast, zero_at (by omega)] at hne
      by_cases he : lo ≤ k ∧ k < lo + nn
      · exact he
      · rw [if_neg he] at hne; exact absurd rfl hne
    · right
      have e : stepF ⟨ws, [], 0, 0⟩ ⟨4, a, b, n, z⟩ = (7, ⟨ws, [], 0, 0⟩) := by simp [stepF, hp]
      rw [e, if_neg hp, if_neg (show ¬ (7 : Int) = 0 by decide)]
      exact ⟨7, by decide, rfl, rfl⟩
/-- the addresses where two lists differ: each is one, and they ascend -/
theorem diffs_mem : ∀ (xs ys : List Int) (k : Nat), ∀ x ∈ diffs k xs ys, ∃ j : Nat, x = ((k + j : Nat) : Int) ∧ j < xs.length ∧ xs.getD j 0 ≠ ys.getD j 0 := by
  intro xs
  induction xs with
  | nil => intro ys k x hx; cases ys <;> simp [diffs] at hx
  | cons a xs ih =>
    intro ys k x hx
    cases ys with
    | nil => simp [diffs] at hx
    | cons b ys =>
      by_cases e : a = b
      · rw [diffs_eq e] at hx
        obtain ⟨j, h1, h2, h3⟩ := ih ys (k + 1) x hx
        exact ⟨j + 1, by rw [h1]; congr 1; omega, by simp; omega, by simpa using h3⟩
      · rw [diffs_ne e] at hx
        rcases List.mem_cons.1 hx with rfl | hx
        · exact ⟨0, by simp, by simp, by simpa using e⟩
        · obtain ⟨j, h1, h2, h3⟩ := ih ys (k + 1) x hx
          exact ⟨j + 1, by rw [h1]; congr 1; omega, by simp; omega, by simpa using h3⟩
theorem diffs_up : ∀ (xs ys : List Int) (k : Nat), (diffs k xs ys).Pairwise (· < ·) := by
  intro xs
  induction xs with
  | nil => intro ys k; cases ys <;> simp [diffs]
  | cons a xs ih =>
    intro ys k
    cases ys with
    | nil => simp [diffs]
    | cons b ys =>
      by_cases e : a = b
      · rw [diffs_eq e]; exact ih ys (k + 1)
      · rw [diffs_ne e]
        refine List.Pairwise.cons (fun x hx => ?_) (ih ys (k + 1))
        obtain ⟨j, h1, -⟩ := diffs_mem xs ys (k + 1) x hx
        omega
theorem diffs_at {xs ys : List Int} {i : Nat} (h : i < (diffs 0 xs ys).length) : ∃ d : Nat, (diffs 0 xs ys).getD i 0 = (d : Int) ∧ d < xs.length ∧ xs.getD d 0 ≠ ys.getD d 0 := by
  obtain ⟨j, h1, h2, h3⟩ := diffs_mem xs ys 0 _ (List.getElem_mem h)
  rw [Nat.zero_add] at h1
  exact ⟨j, by simp [List.getD_eq_getElem?_getD, List.getElem?_eq_getElem h, h1], h2, h3⟩
theorem diffs_lt {xs ys : List Int} {i : Nat} (h : i + 1 < (diffs 0 xs ys).length) : (diffs 0 xs ys).getD i 0 < (diffs 0 xs ys).getD (i + 1) 0 := by
  have h0 : i < (diffs 0 xs ys).length := by omega
  have := List.pairwise_iff_getElem.1 (diffs_up xs ys 0) i (i + 1) h0 h (by omega)
  simpa [List.getD_eq_getElem?_getD, List.getElem?_eq_getElem h, List.getElem?_eq_getElem h0] using this
end Ytkffabochgmagaa
end Go.Proofs
