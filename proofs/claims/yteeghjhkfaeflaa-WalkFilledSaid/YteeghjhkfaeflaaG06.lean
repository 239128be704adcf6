/- Set, Copy and Clear: plays of one operation. -/
import Derived.Test.YteeghjhkfaeflaaG04
import Derived.Laws.OwnMore
namespace Go.Proofs
namespace Yteeghjhkfaeflaa
open Go.RowKit

/-- what a change answers, said in memory -/
def CAns (w : World) (R : List Int × Int) (e : Ending) (w' : World) : Prop := ∃ v, e = .returned (.tuple #[v, .int .i64 R.2]) ∧ w'.ownsRow w.heap.size 58 1 v R.1.length (wc R.1) ∧ Below w.heap.size w w'
theorem own_mono {W : World} {B C e size n : Nat} {v : Value} {xs : List Value} (h : W.ownsRow C e size v n xs) (hBC : B ≤ C) : W.ownsRow B e size v n xs := by
  refine ⟨h.1, ?_⟩
  rcases h.2 with h | ⟨g, cap, cur, h1, h2, h3⟩
  · exact .inl h
  · exact .inr ⟨g, cap, cur, h1, by omega, h3⟩
end Yteeghjhkfaeflaa
end Go.Proofs
/- The reference's Check, part, Clear and Copy. -/
namespace Go.Proofs
namespace Yteeghjhkfaeflaa
open Go.RowKit

set_option maxRecDepth 100000 in
theorem rcheck43 (v : Value) (zs : List Int) (w : World) (h : WAt w v zs) (hm : zs.length ≤ 9223372036854775807) :
    Calls Try.prog 57 #[v] w fun e w' => e = .returned (.int .i64 (chkF zs)) ∧ w = w' := by
  obtain ⟨A, cap, rfl, hA⟩ := h
  have HA := Lib.hid hA
  clear hA
  by_cases h0 : zs.length < 1
  · have q : decide ((zs.length : Int) < 1) = true := decide_eq_true (by omega)
    have T := Lib.hid (chk_long (zs := zs) (.inl h0))
    go_enter Try.func57, Try.ntmps57
    go_wp2
    go_ret
    exact ⟨by rw [T.out]; rfl, rfl⟩
  · have q : decide ((zs.length : Int) < 1) = false := decide_eq_false (by omega)
    by_cases h1 : 1601 < zs.length
    · have q1 : decide ((1601 : Int) < (zs.length : Int)) = true := decide_eq_true (by omega)
      have T := Lib.hid (chk_long (zs := zs) (.inr h1))
      go_enter Try.func57, Try.ntmps57
      go_wp2
      go_ret
      exact ⟨by rw [T.out]; rfl, rfl⟩
    · have q1 : decide ((1601 : Int) < (zs.length : Int)) = false := decide_eq_false (by omega)
      obtain ⟨b, off, rfl, hc⟩ := HA.out (by omega)
      have d := hc 0 _ (wc_get zs 0 (by omega))
      rw [Nat.add_zero] at d
      have T := Lib.hid (chk_cases (zs := zs) (by omega))
      have q2 : (0 : Int) < (zs.length : Int) := by omega
      clear hc HA
      generalize zs.getD 0 0 = z at *
      by_cases hz : z = 0
      · subst hz
        go_enter Try.func57, Try.ntmps57
        go_wp2
        go_ret
        exact ⟨by rw [T.out]; rfl, rfl⟩
      · have q3 : (z != 0) = true := by simpa using hz
        have q4 : (z == 0) = false := by simpa using hz
        have T2 := Lib.hid (show chkF zs = 6 by rw [T.out, if_neg hz])
        go_enter Try.func57, Try.ntmps57
        go_wp2
        go_ret
        exact ⟨by rw [T2.out]; rfl, rfl⟩
set_option maxRecDepth 100000 in
theorem rpart61 (A : Option Addr) (len cap : Nat) (a n : Int) (w : World) (hm : len ≤ 1000000000) :
    Calls Try.prog 76 #[.slice A len cap, .int .i64 a, .int .i64 n] w fun e w' => e = .returned (.bool (partB len a n)) ∧ w = w' := by
  by_cases h1 : 1 ≤ a
  rotate_left
  · have q1 : decide (1 ≤ a) = false := decide_eq_false h1
    have T := Lib.hid (show partB len a n = false by unfold partB; rw [q1]; rfl)
    go_enter Try.func76, Try.ntmps76
    go_wp2
    go_ret
    exact ⟨by rw [T.out]; rfl, rfl⟩
  have q1 : decide (1 ≤ a) = true := decide_eq_true h1
  by_cases h2 : a ≤ (len : Int)
  rotate_left
  · have q2 : decide (a ≤ (len : Int)) = false := decide_eq_false h2
    have T := Lib.hid (show partB len a n = false by unfold partB; rw [q1, q2]; rfl)
    go_enter Try.func76, Try.ntmps76
    go_wp2
    go_ret
    exact ⟨by rw [T.out]; rfl, rfl⟩
  have q2 : decide (a ≤ (len : Int)) = true := decide_eq_true h2
  by_cases h3 : 0 ≤ n
  rotate_left
  · have q3 : decide (0 ≤ n) = false := decide_eq_false h3
    have T := Lib.hid (show partB len a n = false by unfold partB; rw [q1, q2, q3]; rfl)
    go_enter Try.func76, Try.ntmps76
    go_wp2
    go_ret
    exact ⟨by rw [T.out]; rfl, rfl⟩
  have q3 : decide (0 ≤ n) = true := decide_eq_true h3
  have T := Lib.hid (show partB len a n = decide (n ≤ (len : Int) - a) by unfold partB; rw [q1, q2, q3]; rfl)
  go_enter Try.func76, Try.ntmps76
  go_wp2
  go_ret
  exact ⟨by rw [T.out]; rfl, rfl⟩

/-- what Clear answers, written out -/
def clrF (ws : List Int) (a n : Int) : List Int × Int := if chkF ws ≠ 0 then ([], chkF ws) else if partB ws.length a n = true then (zeroL ws a.toNat n.toNat, 0) else ([], 7)
/-- what Copy answers, written out -/
def cpyF (ws : List Int) (a b n : Int) : List Int × Int := if chkF ws ≠ 0 then ([], chkF ws) else if partB ws.length a n = true ∧ partB ws.length b n = true then (copyL ws a.toNat b.toNat n.toNat, 0) else ([], 7)
theorem after_clr (ws : List Int) (a n : Int) : afterF ws ⟨4, a, 0, n, 0⟩ = clrF ws a n := by
  unfold afterF playF clrF
  by_cases hc : chkF ws ≠ 0
  · rw [if_pos hc, if_pos hc]; rfl
  · rw [if_neg hc, if_neg hc, if_neg (by simp)]
    by_cases hp : partB ws.length a n = true
    · have e : stepF ⟨ws, [], 0, 0⟩ ⟨4, a, 0, n, 0⟩ = (0, ⟨zeroL ws a.toNat n.toNat, [], 0, 0 + n⟩) := by simp [stepF, hp]
      rw [if_pos hp, goF_step (by rw [e]), e]; rfl
    · have e : stepF ⟨ws, [], 0, 0⟩ ⟨4, a, 0, n, 0⟩ = (7, ⟨ws, [], 0, 0⟩) := by simp [stepF, hp]
      rw [if_neg hp, goF_err (by rw [e]; exact (by decide : (7 : Int) ≠ 0)), e]; rfl
theorem after_cpy (ws : List Int) (a b n : Int) : afterF ws ⟨3, a, b, n, 0⟩ = cpyF ws a b n := by
  unfold afterF playF cpyF
  by_cases hc : chkF ws ≠ 0
  · rw [if_pos hc, if_pos hc]; rfl
  · rw [if_neg hc, if_neg hc, if_neg (by simp)]
    by_cases hp : partB ws.length a n = true ∧ partB ws.length b n = true
    · have e : stepF ⟨ws, [], 0, 0⟩ ⟨3, a, b, n, 0⟩ = (0, ⟨copyL ws a.toNat b.toNat n.toNat, [], 0 + n, 0 + n⟩) := by simp [stepF, hp]
      rw [if_pos hp, goF_step (by rw [e]), e]; rfl
    · have e : stepF ⟨ws, [], 0, 0⟩ ⟨3, a, b, n, 0⟩ = (7, ⟨ws, [], 0, 0⟩) := by simp [stepF, hp]
      rw [if_neg hp, goF_err (by rw [e]; exact (by decide : (7 : Int) ≠ 0)), e]; rfl
theorem wc_one (zs : List Int) : ∀ u ∈ wc zs, u.oneCell' = true := by
  intro u hu
  simp only [wc, List.mem_map] at hu
  obtain ⟨z, _, rfl⟩ := hu
  rfl
/-- append of a whole argument to a row of the call's own -/
theorem push_words {ops : Array Oper} {rest : List Oper} {o : Oper} {a : Act} {Q : Exit → Act → World → Prop} {W w : World} {v vg : Value} {xs ys : List Int} (hown : W.ownsRow w.heap.size 58 1 v xs.length (wc xs)) (hB : Below w.heap.size w W) (hg : WAt w vg ys) (hne : 0 < ys.length) (hgd : o.guard = none) (s x : Operand)
    (ho : o.op = .call { callee := .builtin .append, args := #[s, x], argTypes := #[22, 22] }) (hs : a.eval s = v) (hx : a.eval x = vg) (hl : xs.length + ys.length ≤ 1000000)
    (h : ∀ g cap W', W'.ownsRow w.heap.size 58 1 (.slice (some ⟨g, 0, none⟩) (xs.length + ys.length) cap) (xs.length + ys.length) (wc (xs ++ ys)) → Below w.heap.size w W' → wpList Try.prog ops Q rest (a.put o.dst (.slice (some ⟨g, 0, none⟩) (xs.length + ys.length) cap)) W') : wpList Try.prog ops Q (o :: rest) a W := by
  obtain ⟨i0, hi, hz0, hz1, hz2⟩ := info_parts info25
  obtain ⟨A, cap, rfl, hA⟩ := hg
  obtain ⟨b, off, rfl, hc⟩ := hA hne
  refine wpList_append_lies _ hgd s x 22 ho w.heap.size 58 i0 _ 1 8 Try.underlying22 hi hz0 hz1 hz2 rfl (by decide) v xs.length (wc xs) hs hown ⟨b, off, none⟩ ys.length cap (wc ys) hx (by rw [wc_length, Nat.mul_one]) ?_ (wc_one ys) hne ?_ ?_ ?_ _ rfl ?_
  · intro j u hj
    have h1 := hc j u hj
    have e : (⟨b, off, none⟩ : Addr).add j = ⟨b, off + j, none⟩ := by simp [Addr.add]
    rw [e]
    exact (hB.cell (cell_lt h1)).trans h1
  · unfold maxLen; omega
  · omega
  · exact hB.size
  · intro g cap W' h1 h2 _ _
    refine h g cap W' ?_ ?_
    · rw [wc_append]; exact h1
    · exact hB.grown h2 hB.size (fun k hk => (hown.lt k hk).1)
theorem empty_words {W w : World} (hB : Below w.heap.size w W) : (W.alloc (.cells #[] 58)).ownsRow w.heap.size 58 1 (.slice (some ⟨W.heap.size, 0, none⟩) 0 0) ([] : List Int).length (wc []) :=
  ⟨rfl, .inr ⟨W.heap.size, 0, #[], rfl, hB.size, heap_alloc_new W _, Nat.le_refl _, by unfold maxLen; omega, by simp, rfl⟩⟩
theorem row_cell {W : World} {B g n cap : Nat} {zs : List Int} (h : W.ownsRow B 58 1 (.slice (some ⟨g, 0, none⟩) n cap) n (wc zs)) (hn : zs.length = n) {k : Nat} (hk : k < n) : W.cell? ⟨g, k, none⟩ = some (.int .u64 (zs.getD k 0)) ∧ W.frozen? ⟨g, k, none⟩ = false := by
  refine ⟨?_, h.frozenAt k⟩
  rw [h.cellAt k (by omega), wc_get zs k (by omega)]
theorem row_put {W w : World} {g n cap : Nat} {zs : List Int} (h : W.ownsRow w.heap.size 58 1 (.slice (some ⟨g, 0, none⟩) n cap) n (wc zs)) (hB : Below w.heap.size w W) (k : Nat) (z : Int) :
    (W.setCell ⟨g, k, none⟩ (.int .u64 z)).ownsRow w.heap.size 58 1 (.slice (some ⟨g, 0, none⟩) n cap) n (wc (zs.set k z)) ∧ Below w.heap.size w (W.setCell ⟨g, k, none⟩ (.int .u64 z)) := by
  obtain ⟨h1, h2⟩ := h.stored k (.int .u64 z)
  refine ⟨?_, hB.setCell (p := ⟨g, k, none⟩) (h.lt g rfl).1 _⟩
  have e : wc (zs.set k z) = (wc zs).set k (.int .u64 z) := by unfold wc; rw [List.map_set]
  rw [e]
  exact h1
end Yteeghjhkfaeflaa
end Go.Proofs
/- The reference's Get and Set. -/
namespace Go.Proofs
namespace Yteeghjhkfaeflaa
open Go.RowKit

/-- what Set answers, written out -/
def setF (ws : List Int) (a z : Int) : List Int × Int := if chkF ws ≠ 0 then ([], chkF ws) else if partB ws.length a 1 = true then (ws.set a.toNat z, 0) else ([], 7)
theorem after_set (ws : List Int) (a z : Int) : afterF ws ⟨2, a, 0, 0, z⟩ = setF ws a z := by
  unfold afterF playF setF
  by_cases hc : chkF ws ≠ 0
  · rw [if_pos hc, if_pos hc]; rfl
  · rw [if_neg hc, if_neg hc, if_neg (by simp)]
    by_cases hp : partB ws.length a 1 = true
    · have e : stepF ⟨ws, [], 0, 0⟩ ⟨2, a, 0, 0, z⟩ = (0, ⟨ws.set a.toNat z, [], 0, 0 + 1⟩) := by simp [stepF, hp]
      rw [if_pos hp, goF_step (by rw [e]), e]; rfl
    · have e : stepF ⟨ws, [], 0, 0⟩ ⟨2, a, 0, 0, z⟩ = (7, ⟨ws, [], 0, 0⟩) := by simp [stepF, hp]
      rw [if_neg hp, goF_err (by rw [e]; exact (by decide : (7 : Int) ≠ 0)), e]; rfl
set_option maxRecDepth 100000 in
set_option maxHeartbeats 1000000 in
theorem rget49 (v : Value) (ws : List Int) (a : Int) (w : World) (hv : WAt w v ws) (hm : ws.length ≤ 9223372036854775807) :
    Calls Try.prog 55 #[v, .int .i64 a] w fun e w' => e = .returned (.tuple #[.int .u64 (getF ws a).1, .int .i64 (getF ws a).2]) ∧ w = w' := by
  have C := Lib.hid (rcheck43 v ws w hv hm)
  obtain ⟨A, cap, rfl, hA⟩ := hv
  by_cases hc : chkF ws = 0
  rotate_left
  · have T := Lib.hid (show getF ws a = (0, chkF ws) by unfold getF; rw [if_pos hc])
    have q1 : (chkF ws == 0) = false := by simpa using hc
    have q2 : (chkF ws != 0) = true := by simpa using hc
    clear hc hA
    generalize chkF ws = c at *
    go_enter Try.func55, Try.ntmps55
    go_wp2_with (go_at_call 57; refine C.out.mono ?_; rintro e w' ⟨rfl, rfl⟩)
    exact bodyPost_ret (v := .tuple #[.int .u64 0, .int .i64 c]) (by simp [results, Try.f55, go_sem]) rfl ⟨by rw [T.out], rfl⟩
  · have hl : 1 ≤ ws.length ∧ ws.length ≤ 1601 := by
      apply Classical.byContradiction
      intro hn
      rw [chk_long (by omega)] at hc
      cases hc
    rw [hc] at C
    have P := Lib.hid (rpart61 A ws.length cap a 1 w (by omega))
    cases hp : partB ws.length a 1 with
    | false =>
      have T := Lib.hid (show getF ws a = (0, 7) by unfold getF; rw [if_neg (by simp [hc]), hp]; rfl)
      rw [hp] at P
      clear hc hp hA
      go_enter Try.func55, Try.ntmps55
      go_wp2_with (first
        | (go_at_call 57; refine C.out.mono ?_; rintro e w' ⟨rfl, rfl⟩)
        | (go_at_call 76; refine P.out.mono ?_; rintro e w' ⟨rfl, rfl⟩))
      exact bodyPost_ret (v := .tuple #[.int .u64 0, .int .i64 7]) (by simp [results, Try.f55, go_sem]) rfl ⟨by rw [T.out], rfl⟩
    | true =>
      obtain ⟨p1, p2, p3, p4⟩ := partB_spec.1 hp
      obtain ⟨k, rfl⟩ : ∃ k : Nat, a = (k : Int) := ⟨a.toNat, by omega⟩
      have hk : (k : Int) < (ws.length : Int) := by omega
      have hk0 : (0 : Int) ≤ (k : Int) := by omega
      have T := Lib.hid (show getF ws k = (ws.getD k 0, 0) by unfold getF; rw [if_neg (by simp [hc]), hp]; rfl)
      rw [hp] at P
      obtain ⟨b0, off, rfl, hcell⟩ := hA (by omega)
      have d := hcell _ _ (wc_get ws k (by omega))
      clear hc hp hA hcell p1 p2 p3 p4
      generalize ws.getD k 0 = z at *
      go_enter Try.func55, Try.ntmps55
      go_wp2_with (first
        | (go_at_call 57; refine C.out.mono ?_; rintro e w' ⟨rfl, rfl⟩)
        | (go_at_call 76; refine P.out.mono ?_; rintro e w' ⟨rfl, rfl⟩))
      exact bodyPost_ret (v := .tuple #[.int .u64 z, .int .i64 0]) (by simp [results, Try.f55, go_sem]) rfl ⟨by rw [T.out], rfl⟩
set_option maxRecDepth 100000 in
set_option maxHeartbeats 1000000 in
theorem rset47 (v : Value) (ws : List Int) (a z : Int) (w : World) (hv : WAt w v ws) (hm : ws.length ≤ 9223372036854775807) :
    Calls Try.prog 75 #[v, .int .i64 a, .int .u64 z] w fun e w' => CAns w (setF ws a z) e w' := by
  have C := Lib.hid (rcheck43 v ws w hv hm)
  have HV := Lib.hid hv
  obtain ⟨A, cap, rfl, -⟩ := hv
  by_cases hc : chkF ws = 0
  rotate_left
  · have T := Lib.hid (show setF ws a z = ([], chkF ws) by unfold setF; rw [if_pos hc])
    have q1 : (chkF ws == 0) = false := by simpa using hc
    have q2 : (chkF ws != 0) = true := by simpa using hc
    clear hc
    generalize chkF ws = c at *
    go_enter Try.func75, Try.ntmps75
    go_wp2_with (go_at_call 57; refine C.out.mono ?_; rintro e w' ⟨rfl, rfl⟩)
    exact bodyPost_ret (v := .tuple #[.slice none 0 0, .int .i64 c]) (by simp [results, Try.f75, go_sem]) rfl ⟨.slice none 0 0, by rw [T.out], by rw [T.out]; exact World.ownsRow_nil _ _ _ _, Below.refl _ _⟩
  · have hl : 1 ≤ ws.length ∧ ws.length ≤ 1601 := by
      apply Classical.byContradiction
      intro hn
      rw [chk_long (by omega)] at hc
      cases hc
    rw [hc] at C
    have P := Lib.hid (rpart61 A ws.length cap a 1 w (by omega))
    cases hp : partB ws.length a 1 with
    | false =>
      have T := Lib.hid (show setF ws a z = ([], 7) by unfold setF; rw [if_neg (by simp [hc]), if_neg (by simp [hp])])
      rw [hp] at P
      clear hc hp
      go_enter Try.func75, Try.ntmps75
      go_wp2_with (first
        | (go_at_call 57; refine C.out.mono ?_; rintro e w' ⟨rfl, rfl⟩)
        | (go_at_call 76; refine P.out.mono ?_; rintro e w' ⟨rfl, rfl⟩))
      exact bodyPost_ret (v := .tuple #[.slice none 0 0, .int .i64 7]) (by simp [results, Try.f75, go_sem]) rfl ⟨.slice none 0 0, by rw [T.out], by rw [T.out]; exact World.ownsRow_nil _ _ _ _, Below.refl _ _⟩
    | true =>
      obtain ⟨p1, p2, p3, p4⟩ := partB_spec.1 hp
      obtain ⟨k, rfl⟩ : ∃ k : Nat, a = (k : Int) := ⟨a.toNat, by omega⟩
      have hk : (k : Int) < (ws.length : Int) := by omega
      have hk0 : (0 : Int) ≤ (k : Int) := by omega
      have hkn : k < ws.length := by omega
      have T := Lib.hid (show setF ws k z = (ws.set k z, 0) by unfold setF; rw [if_neg (by simp [hc]), if_pos hp]; rfl)
      rw [hp] at P
      have ER := Lib.hid (empty_words (Below.refl w.heap.size w))
      have EB := Lib.hid (alloc_below w (.cells #[] 58))
      have hl2 := hl.2
      have hl1 := hl.1
      clear hc hp p1 p2 p3 p4
      go_enter Try.func75, Try.ntmps75
      go_wp2_with (first
        | (go_at_call 57; refine C.out.mono ?_; rintro e w' ⟨rfl, rfl⟩)
        | (go_at_call 76; refine P.out.mono ?_; rintro e w' ⟨rfl, rfl⟩)
        | (at_builtin; refine push_words ER.out EB.out HV.out (by omega) rfl _ _ rfl rfl rfl (by simp; omega) ?_; intro g cap2 W1 ho1 hb1; have HO1 := Lib.hid (show W1.ownsRow w.heap.size 58 1 (.slice (some ⟨g, 0, none⟩) (0 + ws.length) cap2) (0 + ws.length) (wc ws) from by simpa using ho1); have HB1 := Lib.hid hb1; clear ho1 hb1; obtain ⟨x1, f1⟩ := row_cell HO1.out (by simp) (k := k) (by omega); have NX := Lib.hid (row_put HO1.out HB1.out k z)))
      have NY := Lib.hid (show (W1.setCell ⟨g, k, none⟩ (.int .u64 z)).ownsRow w.heap.size 58 1 (.slice (some ⟨g, 0, none⟩) ws.length cap2) ws.length (wc (ws.set k z)) by simpa using NX.out.1)
      exact bodyPost_ret (v := .tuple #[.slice (some ⟨g, 0, none⟩) ws.length cap2, .int .i64 0]) (by simp [results, Try.f75, go_sem]) rfl ⟨_, by rw [T.out], by rw [T.out, List.length_set]; exact NY.out, NX.out.2⟩
end Yteeghjhkfaeflaa
end Go.Proofs
