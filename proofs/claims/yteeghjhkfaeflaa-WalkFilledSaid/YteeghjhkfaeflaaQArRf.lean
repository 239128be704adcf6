/- The reference's Differ on any two arenas. -/
import Derived.Test.YteeghjhkfaeflaaG12
namespace Go.Proofs
namespace Yteeghjhkfaeflaa
open Go.RowKit

/-- what a call of the reference's Check answers -/
structure RChkIs (W : World) (v : Value) (c : Int) : Prop where
  call : Calls Try.prog 57 #[v] W fun e w' => e = .returned (.int .i64 c) ∧ W = w'

theorem own_drewN {W : World} {base size n : Nat} {e : TypeId} {v : Value} {xs : List Value} (q : Nat) (h : W.ownsRow base e size v n xs) : (W.drewN q).ownsRow base e size v n xs := h

set_option maxRecDepth 100000 in
set_option maxHeartbeats 1000000 in
theorem rdiffer35_bad (v1 v2 : Value) (xs ys : List Int) (w : World) (h1 : WAt w v1 xs) (h2 : WAt w v2 ys) (m1 : xs.length ≤ 9223372036854775807) (m2 : ys.length ≤ 9223372036854775807) (c : chkF xs ≠ 0 ∨ chkF ys ≠ 0) :
    Calls Try.prog 33 #[v1, v2] w fun e w' => DAns w (differF xs ys) e w' := by
  have C1 : RChkIs w v1 (chkF xs) := ⟨rcheck43 v1 xs w h1 m1⟩
  by_cases hx : chkF xs = 0
  · have hy := c.resolve_left (fun h => h hx)
    have T := Lib.hid (differ_chk2 hx hy)
    have C2 : RChkIs w v2 (chkF ys) := ⟨rcheck43 v2 ys w h2 m2⟩
    have q1 : (chkF ys == 0) = false := by simpa using hy
    have q2 : (chkF ys != 0) = true := by simpa using hy
    rw [hx] at C1
    obtain ⟨A1, p1, rfl, -⟩ := h1
    obtain ⟨A2, p2, rfl, -⟩ := h2
    clear c hx hy
    generalize chkF ys = r at *
    go_enter Try.func33, Try.ntmps33
    go_wp2_with (go_at_call 57; refine (RChkIs.call (by assumption)).mono ?_; rintro e w' ⟨rfl, rfl⟩)
    exact bodyPost_ret (v := .tuple #[.slice none 0 0, .int .i64 r]) (by simp [results, Try.f33, go_sem]) rfl ⟨.slice none 0 0, by rw [T.out], by rw [T.out]; exact World.ownsRow_nil _ _ _ _, Below.refl _ _⟩
  · have T := Lib.hid (differ_chk1 (ys := ys) hx)
    have q1 : (chkF xs == 0) = false := by simpa using hx
    have q2 : (chkF xs != 0) = true := by simpa using hx
    obtain ⟨A1, p1, rfl, -⟩ := h1
    obtain ⟨A2, p2, rfl, -⟩ := h2
    clear c hx
    generalize chkF xs = r at *
    go_enter Try.func33, Try.ntmps33
    go_wp2_with (go_at_call 57; refine (RChkIs.call (by assumption)).mono ?_; rintro e w' ⟨rfl, rfl⟩)
    exact bodyPost_ret (v := .tuple #[.slice none 0 0, .int .i64 r]) (by simp [results, Try.f33, go_sem]) rfl ⟨.slice none 0 0, by rw [T.out], by rw [T.out]; exact World.ownsRow_nil _ _ _ _, Below.refl _ _⟩

set_option maxRecDepth 100000 in
set_option maxHeartbeats 1000000 in
theorem rdiffer35_good (v1 v2 : Value) (xs ys : List Int) (w : World) (h1 : WAt w v1 xs) (h2 : WAt w v2 ys) (c1 : chkF xs = 0) (c2 : chkF ys = 0) :
    Calls Try.prog 33 #[v1, v2] w fun e w' => DAns w (differF xs ys) e w' := by
  have hx : 1 ≤ xs.length ∧ xs.length ≤ 1601 := by
    apply Classical.byContradiction
    intro hn
    rw [chk_long (by omega)] at c1
    cases c1
  have hy : 1 ≤ ys.length ∧ ys.length ≤ 1601 := by
    apply Classical.byContradiction
    intro hn
    rw [chk_long (by omega)] at c2
    cases c2
  have e1 := rcheck43 v1 xs w h1 (by omega)
  have e2 := rcheck43 v2 ys w h2 (by omega)
  rw [c1] at e1
  rw [c2] at e2
  have C1 : RChkIs w v1 0 := ⟨e1⟩
  have C2 : RChkIs w v2 0 := ⟨e2⟩
  by_cases hl : xs.length = ys.length
  rotate_left
  · have T := Lib.hid (differ_form c1 c2 hl)
    obtain ⟨A1, p1, rfl, -⟩ := h1
    obtain ⟨A2, p2, rfl, -⟩ := h2
    have q0 : ((xs.length : Int) != (ys.length : Int)) = true := by simp; omega
    clear e1 e2 c1 c2 hl
    go_enter Try.func33, Try.ntmps33
    go_wp2_with (go_at_call 57; refine (RChkIs.call (by assumption)).mono ?_; rintro e w' ⟨rfl, rfl⟩)
    exact bodyPost_ret (v := .tuple #[.slice none 0 0, .int .i64 6]) (by simp [results, Try.f33, go_sem]) rfl ⟨.slice none 0 0, by rw [T.out], by rw [T.out]; exact World.ownsRow_nil _ _ _ _, Below.refl _ _⟩
  have TG := Lib.hid (differ_good c1 c2 hl)
  obtain ⟨A1, p1, rfl, hA1⟩ := h1
  obtain ⟨A2, p2, rfl, hA2⟩ := h2
  obtain ⟨b1, o1, rfl, hc1⟩ := hA1 (by omega)
  obtain ⟨b2, o2, rfl, hc2⟩ := hA2 (by omega)
  have H1 := Lib.hid hc1
  have H2 := Lib.hid hc2
  have HL := Lib.hid hl
  have q0 : ((xs.length : Int) != (ys.length : Int)) = false := by simp; omega
  have hx1 := hx.1
  have hx2 := hx.2
  clear e1 e2 c1 c2 hA1 hA2 hc1 hc2 hl hx hy
  go_enter Try.func33, Try.ntmps33
  go_wp2_with (go_at_call 57; refine (RChkIs.call (by assumption)).mono ?_; rintro e w' ⟨rfl, rfl⟩)
  go_loopw [7, 8] (fun v i wr => ∃ (k : Nat) (acc : List Int), k ≤ xs.length ∧ i = .int .i64 k ∧ Hid (wr.ownsRow w.heap.size 3 1 v acc.length (ic acc)) ∧ Hid (Below w.heap.size w wr) ∧ Hid (diffs 0 xs ys = acc ++ diffs k (xs.drop k) (ys.drop k)) ∧ acc.length ≤ k) (fun _ i _ => xs.length - (intOf i).toNat)
  case atStart => exact ⟨0, [], by omega, rfl, Lib.hid (World.ownsRow_nil _ _ _ _), Lib.hid (Below.refl _ _), Lib.hid (by simp), by simp⟩
  case round =>
    obtain ⟨k, acc, hk, rfl, hown, hB, hd, hacc⟩ := hrel
    by_cases hlt : k < xs.length
    · have hk' : k < ys.length := by rw [← HL.out]; exact hlt
      have d1 : wr.cell? ⟨b1, o1 + k, none⟩ = some (.int .u64 (xs.getD k 0)) := (hB.out.cell (p := ⟨b1, _, none⟩) (cell_lt (H1.out _ _ (wc_get xs k hlt)))).trans (H1.out _ _ (wc_get xs k hlt))
      have d2 : wr.cell? ⟨b2, o2 + k, none⟩ = some (.int .u64 (ys.getD k 0)) := (hB.out.cell (p := ⟨b2, _, none⟩) (cell_lt (H2.out _ _ (wc_get ys k hk')))).trans (H2.out _ _ (wc_get ys k hk'))
      have G1 := Lib.hid (show xs.drop k = xs.getD k 0 :: xs.drop (k + 1) by rw [List.drop_eq_getElem_cons hlt]; simp [List.getD_eq_getElem?_getD, List.getElem?_eq_getElem hlt])
      have G2 := Lib.hid (show ys.drop k = ys.getD k 0 :: ys.drop (k + 1) by rw [List.drop_eq_getElem_cons hk']; simp [List.getD_eq_getElem?_getD, List.getElem?_eq_getElem hk'])
      have hlt' : (k : Int) < (xs.length : Int) := by omega
      have hky : (k : Int) < (ys.length : Int) := by omega
      by_cases hg : xs.getD k 0 = ys.getD k 0
      · have D := Lib.hid (show diffs 0 xs ys = acc ++ diffs (k + 1) (xs.drop (k + 1)) (ys.drop (k + 1)) by rw [hd.out, G1.out, G2.out, diffs_eq hg])
        have qn : (xs.getD k 0 != ys.getD k 0) = false := by simpa using hg
        clear hg G1 G2
        generalize xs.getD k 0 = x at *
        generalize ys.getD k 0 = y at *
        go_wp2_with fail
        go_quiet (fail)
        go_wp2
        refine ⟨⟨k + 1, acc, by omega, by simp, Lib.hid hown.out, Lib.hid (below_drewN hB.out _), D, by omega⟩, ?_⟩
        show xs.length - ((k : Int) + 1).toNat < xs.length - ((k : Int)).toNat
        omega
      · have D := Lib.hid (show diffs 0 xs ys = (acc ++ [(k : Int)]) ++ diffs (k + 1) (xs.drop (k + 1)) (ys.drop (k + 1)) by rw [hd.out, G1.out, G2.out, diffs_ne hg]; simp)
        have qn : (xs.getD k 0 != ys.getD k 0) = true := by simpa using hg
        clear hg G1 G2
        generalize xs.getD k 0 = x at *
        generalize ys.getD k 0 = y at *
        go_wp2_with fail
        go_quiet (fail)
        have ho3 := Lib.hid (own_drewN nq hown.out)
        have hb3 := Lib.hid (below_drewN hB.out nq)
        generalize wr.drewN nq = W3 at *
        go_wp2_with (at_builtin; refine push_int ho3.out hb3.out (k : Int) rfl _ _ rfl rfl W3.heap.size rfl rfl rfl (by omega) ?_; intro v5 W5 ho5 hb5 hs5)
        refine ⟨⟨k + 1, acc ++ [(k : Int)], by omega, by simp, Lib.hid ho5, Lib.hid hb5, D, by simp; omega⟩, ?_⟩
        show xs.length - ((k : Int) + 1).toNat < xs.length - ((k : Int)).toNat
        omega
    · have ek : k = xs.length := by omega
      subst ek
      have D := Lib.hid (show diffs 0 xs ys = acc by rw [hd.out, List.drop_length, diffs_nil, List.append_nil])
      obtain ⟨A', c', rfl⟩ := own_form hown.out
      go_wp2
      exact bodyPost_ret (v := .tuple #[.slice A' acc.length c', .int .i64 0]) (by simp [results, Try.f33, go_sem]) rfl ⟨_, by rw [TG.out], by rw [TG.out, D.out]; exact hown.out, hB.out⟩
/-- the reference's Differ, for any two arenas -/
theorem rdiffer35 (v1 v2 : Value) (xs ys : List Int) (w : World) (h1 : WAt w v1 xs) (h2 : WAt w v2 ys) (m1 : xs.length ≤ 9223372036854775807) (m2 : ys.length ≤ 9223372036854775807) :
    Calls Try.prog 33 #[v1, v2] w fun e w' => DAns w (differF xs ys) e w' := by
  by_cases c1 : chkF xs = 0
  · by_cases c2 : chkF ys = 0
    · exact rdiffer35_good v1 v2 xs ys w h1 h2 c1 c2
    · exact rdiffer35_bad v1 v2 xs ys w h1 h2 m1 m2 (.inr c2)
  · exact rdiffer35_bad v1 v2 xs ys w h1 h2 m1 m2 (.inl c1)
end Yteeghjhkfaeflaa
end Go.Proofs
