/- The reference's Clear and Copy. -/
import Derived.Test.YtmgoonahpndfoaaArR
namespace Go.Proofs
namespace Ytmgoonahpndfoaa
open Go.RowKit

set_option maxRecDepth 100000 in
set_option maxHeartbeats 1000000 in
theorem rclear45 (v : Value) (ws : List Int) (a n : Int) (w : World) (hv : WAt w v ws) (hm : ws.length ≤ 9223372036854775807) :
    Calls Try.prog 45 #[v, .int .i64 a, .int .i64 n] w fun e w' => CAns w (clrF ws a n) e w' := by
  have C := Lib.hid (rcheck43 v ws w hv hm)
  have HV := Lib.hid hv
  by_cases hc : chkF ws = 0
  rotate_left
  · have T := Lib.hid (show clrF ws a n = ([], chkF ws) by unfold clrF; rw [if_pos hc])
    have q1 : (chkF ws == 0) = false := by simpa using hc
    have q2 : (chkF ws != 0) = true := by simpa using hc
    clear hc
    generalize chkF ws = c at *
    obtain ⟨A, cap, rfl, -⟩ := hv
    go_enter Try.func45, Try.ntmps45
    go_wp2_with (go_at_call 43; refine C.out.mono ?_; rintro e w' ⟨rfl, rfl⟩)
    exact bodyPost_ret (v := .tuple #[.slice none 0 0, .int .i64 c]) (by simp [results, Try.f45, go_sem]) rfl ⟨.slice none 0 0, by rw [T.out], by rw [T.out]; exact World.ownsRow_nil _ _ _ _, Below.refl _ _⟩
  · have hl : 1 ≤ ws.length ∧ ws.length ≤ 1601 := by
      apply Classical.byContradiction
      intro hn
      rw [chk_long (by omega)] at hc
      cases hc
    rw [hc] at C
    obtain ⟨A, cap, rfl, -⟩ := hv
    have P := Lib.hid (rpart61 A ws.length cap a n w (by omega))
    cases hp : partB ws.length a n with
    | false =>
      have T := Lib.hid (show clrF ws a n = ([], 7) by unfold clrF; rw [if_neg (by simp [hc]), if_neg (by simp [hp])])
      rw [hp] at P
      clear hc hp
      go_enter Try.func45, Try.ntmps45
      go_wp2_with (first
        | (go_at_call 43; refine C.out.mono ?_; rintro e w' ⟨rfl, rfl⟩)
        | (go_at_call 61; refine P.out.mono ?_; rintro e w' ⟨rfl, rfl⟩))
      exact bodyPost_ret (v := .tuple #[.slice none 0 0, .int .i64 7]) (by simp [results, Try.f45, go_sem]) rfl ⟨.slice none 0 0, by rw [T.out], by rw [T.out]; exact World.ownsRow_nil _ _ _ _, Below.refl _ _⟩
    | true =>
      obtain ⟨p1, p2, p3, p4⟩ := partB_spec.1 hp
      obtain ⟨k, rfl⟩ : ∃ k : Nat, a = (k : Int) := ⟨a.toNat, by omega⟩
      obtain ⟨m, rfl⟩ : ∃ m : Nat, n = (m : Int) := ⟨n.toNat, by omega⟩
      have T := Lib.hid (show clrF ws k m = (zeroL ws k m, 0) by unfold clrF; rw [if_neg (by simp [hc]), if_pos hp]; rfl)
      have hkm : k + m ≤ ws.length := by omega
      rw [hp] at P
      have ER := Lib.hid (empty_words (Below.refl w.heap.size w))
      have EB := Lib.hid (alloc_below w (.cells #[] 42))
      have hl2 := hl.2
      have hl1 := hl.1
      clear hc hp p1 p2 p3 p4
      go_enter Try.func45, Try.ntmps45
      go_wp2_with (first
        | (go_at_call 43; refine C.out.mono ?_; rintro e w' ⟨rfl, rfl⟩)
        | (go_at_call 61; refine P.out.mono ?_; rintro e w' ⟨rfl, rfl⟩)
        | (at_builtin; refine push_words ER.out EB.out HV.out (by omega) rfl _ _ rfl rfl rfl (by simp; omega) ?_; intro g cap2 W1 ho1 hb1; have HO1 := Lib.hid ho1; have HB1 := Lib.hid hb1; clear ho1 hb1))
      have HO := Lib.hid (show W1.ownsRow w.heap.size 42 1 (.slice (some ⟨g, 0, none⟩) ws.length cap2) ws.length (wc ws) by simpa using HO1.out)
      clear HO1
      go_loopw [10] (fun i wr => ∃ j : Nat, j ≤ m ∧ i = .int .i64 j ∧ Hid (wr.ownsRow w.heap.size 42 1 (.slice (some ⟨g, 0, none⟩) ws.length cap2) ws.length (wc (zeroL ws k j))) ∧ Hid (Below w.heap.size w wr)) (fun i _ => m - (intOf i).toNat)
      case atStart => exact ⟨0, by omega, rfl, by rw [zeroL_zero]; exact HO, HB1⟩
      case round =>
        obtain ⟨j, hj, rfl, ho, hb⟩ := hrel
        by_cases hlt : j < m
        · have hlt' : (j : Int) < (m : Int) := by omega
          obtain ⟨c1, f1⟩ := row_cell ho.out (zeroL_length (by omega)) (k := k + j) (by omega)
          have NX := Lib.hid (row_put ho.out hb.out (k + j) 0)
          have i1 : (0 : Int) ≤ (k : Int) + (j : Int) := by omega
          have i2 : (k : Int) + (j : Int) < (ws.length : Int) := by omega
          have i3 : ((k : Int) + (j : Int)).toNat = k + j := by omega
          go_wp2
          refine ⟨⟨j + 1, by omega, by simp, Lib.hid ?_, Lib.hid NX.out.2⟩, ?_⟩
          · have := NX.out.1
            rw [zeroL_step (by omega)] at this
            exact this
          · show m - ((j : Int) + 1).toNat < m - ((j : Int)).toNat
            omega
        · have ek : j = m := by omega
          subst ek
          go_wp2
          exact bodyPost_ret (v := .tuple #[.slice (some ⟨g, 0, none⟩) ws.length cap2, .int .i64 0]) (by simp [results, Try.f45, go_sem]) rfl ⟨_, by rw [T.out], by rw [T.out, zeroL_length hkm]; exact ho.out, hb.out⟩
end Ytmgoonahpndfoaa
end Go.Proofs
