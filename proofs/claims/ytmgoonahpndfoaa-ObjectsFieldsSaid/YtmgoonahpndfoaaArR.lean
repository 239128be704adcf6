/- The reference's Check, part, Clear and Copy. -/
import Derived.Test.YtmgoonahpndfoaaArT
import Derived.Laws.OwnMore
namespace Go.Proofs
namespace Ytmgoonahpndfoaa
open Go.RowKit

set_option maxRecDepth 100000 in
theorem rcheck43 (v : Value) (zs : List Int) (w : World) (h : WAt w v zs) (hm : zs.length ≤ 9223372036854775807) :
    Calls Try.prog 43 #[v] w fun e w' => e = .returned (.int .i64 (chkF zs)) ∧ w = w' := by
  obtain ⟨A, cap, rfl, hA⟩ := h
  have HA := Lib.hid hA
  clear hA
  by_cases h0 : zs.length < 1
  · have q : decide ((zs.length : Int) < 1) = true := decide_eq_true (by omega)
    have T := Lib.hid (chk_long (zs := zs) (.inl h0))
    go_enter Try.func43, Try.ntmps43
    go_wp2
    go_ret
    exact ⟨by rw [T.out]; rfl, rfl⟩
  · have q : decide ((zs.length : Int) < 1) = false := decide_eq_false (by omega)
    by_cases h1 : 1601 < zs.length
    · have q1 : decide ((1601 : Int) < (zs.length : Int)) = true := decide_eq_true (by omega)
      have T := Lib.hid (chk_long (zs := zs) (.inr h1))
      go_enter Try.func43, Try.ntmps43
      go_wp2
      go_ret
      exact ⟨by rw [T.out]; rfl, rfl⟩
    · have q1 : decide ((1601 : Int) < (zs.length : Int)) = false := decide_eq_false (by omega)
      obtain ⟨b, off, rfl, hc⟩ := HA.out (by omega)
      have d := hc 0 _ (wc_get zs 0 (by omega))
      rw [Nat.add_zero] at d
      have T := Lib.hid (chk_cases (zs := zs) (by omega))
      have q2 : (0 : Int) < (zs.length : Int) := by omega
      clear hc HA
      generalize zs.getD 0 0 = z at *
      by_cases hz : z = 0
      · subst hz
        go_enter Try.func43, Try.ntmps43
        go_wp2
        go_ret
        exact ⟨by rw [T.out]; rfl, rfl⟩
      · have q3 : (z != 0) = true := by simpa using hz
        have q4 : (z == 0) = false := by simpa using hz
        have T2 := Lib.hid (show chkF zs = 6 by rw [T.out, if_neg hz])
        go_enter Try.func43, Try.ntmps43
        go_wp2
        go_ret
        exact ⟨by rw [T2.out]; rfl, rfl⟩
set_option maxRecDepth 100000 in
theorem rpart61 (A : Option Addr) (len cap : Nat) (a n : Int) (w : World) (hm : len ≤ 1000000000) :
    Calls Try.prog 61 #[.slice A len cap, .int .i64 a, .int .i64 n] w fun e w' => e = .returned (.bool (partB len a n)) ∧ w = w' := by
  by_cases h1 : 1 ≤ a
  rotate_left
  · have q1 : decide (1 ≤ a) = false := decide_eq_false h1
    have T := Lib.hid (show partB len a n = false by unfold partB; rw [q1]; rfl)
    go_enter Try.func61, Try.ntmps61
    go_wp2
    go_ret
    exact ⟨by rw [T.out]; rfl, rfl⟩
  have q1 : decide (1 ≤ a) = true := decide_eq_true h1
  by_cases h2 : a ≤ (len : Int)
  rotate_left
  · have q2 : decide (a ≤ (len : Int)) = false := decide_eq_false h2
    have T := Lib.hid (show partB len a n = false by unfold partB; rw [q1, q2]; rfl)
    go_enter Try.func61, Try.ntmps61
    go_wp2
    go_ret
    exact ⟨by rw [T.out]; rfl, rfl⟩
  have q2 : decide (a ≤ (len : Int)) = true := decide_eq_true h2
  by_cases h3 : 0 ≤ n
  rotate_left
  · have q3 : decide (0 ≤ n) = false := decide_eq_false h3
    have T := Lib.hid (show partB len a n = false by unfold partB; rw [q1, q2, q3]; rfl)
    go_enter Try.func61, Try.ntmps61
    go_wp2
    go_ret
    exact ⟨by rw [T.out]; rfl, rfl⟩
  have q3 : decide (0 ≤ n) = true := decide_eq_true h3
  have T := Lib.hid (show partB len a n = decide (n ≤ (len : Int) - a) by unfold partB; rw [q1, q2, q3]; rfl)
  go_enter Try.func61, Try.ntmps61
  go_wp2
  go_ret
  exact ⟨by rw [T.out]; rfl, rfl⟩

/-- what Clear answers, written out -/
def clrF (ws : List Int) (a n : Int) : List Int × Int := if chkF ws ≠ 0 then ([], chkF ws) else if partB ws.length a n = true then (zeroL ws a.toNat n.toNat, 0) else ([], 7)
/-- what Copy answers, written out -/
def cpyF (ws : List Int) (a b n : Int) : List Int × Int := if chkF ws ≠ 0 then ([], chkF ws) else if partB ws.length a n = true ∧ partB ws.length b n = true then (copyL ws a.toNat b.toNat n.toNat, 0) else ([], 7)
theorem after_clr (ws : List Int) (a n : Int) : afterF ws ⟨4, a, 0, n, 0⟩ = clrF ws a n := by
  unfold afterF playF clrF
  by_cases hc : chkF ws ≠ 0
  · rw [if_pos hc, if_pos hc]; rfl
  · rw [if_neg hc, if_neg hc, if_neg (by simp)]
    by_cases hp : partB ws.length a n = true
    · have e : stepF ⟨ws, [], 0, 0⟩ ⟨4, a, 0, n, 0⟩ = (0, ⟨zeroL ws a.toNat n.toNat, [], 0, 0 + n⟩) := by simp [stepF, hp]
      rw [if_pos hp, goF_step (by rw [e]), e]; rfl
    · have e : stepF ⟨ws, [], 0, 0⟩ ⟨4, a, 0, n, 0⟩ = (7, ⟨ws, [], 0, 0⟩) := by simp [stepF, hp]
      rw [if_neg hp, goF_err (by rw [e]; exact (by decide : (7 : Int) ≠ 0)), e]; rfl
theorem after_cpy (ws : List Int) (a b n : Int) : afterF ws ⟨3, a, b, n, 0⟩ = cpyF ws a b n := by
  unfold afterF playF cpyF
  by_cases hc : chkF ws ≠ 0
  · rw [if_pos hc, if_pos hc]; rfl
  · rw [if_neg hc, if_neg hc, if_neg (by simp)]
    by_cases hp : partB ws.length a n = true ∧ partB ws.length b n = true
    · have e : stepF ⟨ws, [], 0, 0⟩ ⟨3, a, b, n, 0⟩ = (0, ⟨copyL ws a.toNat b.toNat n.toNat, [], 0 + n, 0 + n⟩) := by simp [stepF, hp]
      rw [if_pos hp, goF_step (by rw [e]), e]; rfl
    · have e : stepF ⟨ws, [], 0, 0⟩ ⟨3, a, b, n, 0⟩ = (7, ⟨ws, [], 0, 0⟩) := by simp [stepF, hp]
      rw [if_neg hp, goF_err (by rw [e]; exact (by decide : (7 : Int) ≠ 0)), e]; rfl
theorem wc_one (zs : List Int) : ∀ u ∈ wc zs, u.oneCell' = true := by
  intro u hu
  simp only [wc, List.mem_map] at hu
  obtain ⟨z, _, rfl⟩ := hu
  rfl
/-- append of a whole argument to a row of the call's own -/
theorem push_words {ops : Array Oper} {rest : List Oper} {o : Oper} {a : Act} {Q : Exit → Act → World → Prop} {W w : World} {v vg : Value} {xs ys : List Int} (hown : W.ownsRow w.heap.size 42 1 v xs.length (wc xs)) (hB : Below w.heap.size w W) (hg : WAt w vg ys) (hne : 0 < ys.length) (hgd : o.guard = none) (s x : Operand)
    (ho : o.op = .call { callee := .builtin .append, args := #[s, x], argTypes := #[22, 22] }) (hs : a.eval s = v) (hx : a.eval x = vg) (hl : xs.length + ys.length ≤ 1000000)
    (h : ∀ g cap W', W'.ownsRow w.heap.size 42 1 (.slice (some ⟨g, 0, none⟩) (xs.length + ys.length) cap) (xs.length + ys.length) (wc (xs ++ ys)) → Below w.heap.size w W' → wpList Try.prog ops Q rest (a.put o.dst (.slice (some ⟨g, 0, none⟩) (xs.length + ys.length) cap)) W') : wpList Try.prog ops Q (o :: rest) a W := by
  obtain ⟨i0, hi, hz0, hz1, hz2⟩ := info_parts info25
  obtain ⟨A, cap, rfl, hA⟩ := hg
  obtain ⟨b, off, rfl, hc⟩ := hA hne
  refine wpList_append_lies _ hgd s x 22 ho w.heap.size 42 i0 _ 1 8 Try.underlying22 hi hz0 hz1 hz2 rfl (by decide) v xs.length (wc xs) hs hown ⟨b, off, none⟩ ys.length cap (wc ys) hx (by rw [wc_length, Nat.mul_one]) ?_ (wc_one ys) hne ?_ ?_ ?_ _ rfl ?_
  · intro j u hj
    have h1 := hc j u hj
    have e : (⟨b, off, none⟩ : Addr).add j = ⟨b, off + j, none⟩ := by simp [Addr.add]
    rw [e]
    exact (hB.cell (cell_lt h1)).trans h1
  · unfold maxLen; omega
  · omega
  · exact hB.size
  · intro g cap W' h1 h2 _ _
    refine h g cap W' ?_ ?_
    · rw [wc_append]; exact h1
    · exact hB.grown h2 hB.size (fun k hk => (hown.lt k hk).1)
theorem empty_words {W w : World} (hB : Below w.heap.size w W) : (W.alloc (.cells #[] 42)).ownsRow w.heap.size 42 1 (.slice (some ⟨W.heap.size, 0, none⟩) 0 0) ([] : List Int).length (wc []) :=
  ⟨rfl, .inr ⟨W.heap.size, 0, #[], rfl, hB.size, heap_alloc_new W _, Nat.le_refl _, by unfold maxLen; omega, by simp, rfl⟩⟩
theorem row_cell {W : World} {B g n cap : Nat} {zs : List Int} (h : W.ownsRow B 42 1 (.slice (some ⟨g, 0, none⟩) n cap) n (wc zs)) (hn : zs.length = n) {k : Nat} (hk : k < n) : W.cell? ⟨g, k, none⟩ = some (.int .u64 (zs.getD k 0)) ∧ W.frozen? ⟨g, k, none⟩ = false := by
  refine ⟨?_, h.frozenAt k⟩
  rw [h.cellAt k (by omega), wc_get zs k (by omega)]
theorem row_put {W w : World} {g n cap : Nat} {zs : List Int} (h : W.ownsRow w.heap.size 42 1 (.slice (some ⟨g, 0, none⟩) n cap) n (wc zs)) (hB : Below w.heap.size w W) (k : Nat) (z : Int) :
    (W.setCell ⟨g, k, none⟩ (.int .u64 z)).ownsRow w.heap.size 42 1 (.slice (some ⟨g, 0, none⟩) n cap) n (wc (zs.set k z)) ∧ Below w.heap.size w (W.setCell ⟨g, k, none⟩ (.int .u64 z)) := by
  obtain ⟨h1, h2⟩ := h.stored k (.int .u64 z)
  refine ⟨?_, hB.setCell (p := ⟨g, k, none⟩) (h.lt g rfl).1 _⟩
  have e : wc (zs.set k z) = (wc zs).set k (.int .u64 z) := by unfold wc; rw [List.map_set]
  rw [e]
  exact h1
end Ytmgoonahpndfoaa
end Go.Proofs
