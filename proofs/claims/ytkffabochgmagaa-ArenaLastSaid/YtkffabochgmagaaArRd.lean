/- The reference's Copy. -/
import Derived.Test.YtkffabochgmagaaArR
namespace Go.Proofs
namespace Ytkffabochgmagaa
open Go.RowKit

/-- what a call of the reference's part answers -/
structure RPart (W : World) (v : Value) (a n : Int) (r : Bool) : Prop where
  call : Calls Try.prog 37 #[v, .int .i64 a, .int .i64 n] W fun e w' => e = .returned (.bool r) ∧ W = w'
set_option maxRecDepth 100000 in
set_option maxHeartbeats 1000000 in
theorem rcopy21 (v : Value) (ws : List Int) (a b n : Int) (w : World) (hv : WAt w v ws) (hm : ws.length ≤ 9223372036854775807) :
    Calls Try.prog 21 #[v, .int .i64 a, .int .i64 b, .int .i64 n] w fun e w' => CAns w (cpyF ws a b n) e w' := by
  have C := Lib.hid (rcheck15 v ws w hv hm)
  have HV := Lib.hid hv
  by_cases hc : chkF ws = 0
  rotate_left
  · have T := Lib.hid (show cpyF ws a b n = ([], chkF ws) by unfold cpyF; rw [if_pos hc])
    have q1 : (chkF ws == 0) = false := by simpa using hc
    have q2 : (chkF ws != 0) = true := by simpa using hc
    clear hc
    generalize chkF ws = c at *
    obtain ⟨A, cap, rfl, -⟩ := hv
    go_enter Try.func21, Try.ntmps21
    go_wp2_with (go_at_call 15; refine C.out.mono ?_; rintro e w' ⟨rfl, rfl⟩)
    exact bodyPost_ret (v := .tuple #[.slice none 0 0, .int .i64 c]) (by simp [results, Try.f21, go_sem]) rfl ⟨.slice none 0 0, by rw [T.out], by rw [T.out]; exact World.ownsRow_nil _ _ _ _, Below.refl _ _⟩
  · have hl : 1 ≤ ws.length ∧ ws.length ≤ 1601 := by
      apply Classical.byContradiction
      intro hn
      rw [chk_long (by omega)] at hc
      cases hc
    rw [hc] at C
    obtain ⟨A, cap, rfl, hA⟩ := hv
    have PA : RPart w (.slice A ws.length cap) a n (partB ws.length a n) := ⟨rpart37 A ws.length cap a n w (by omega)⟩
    have PB : RPart w (.slice A ws.length cap) b n (partB ws.length b n) := ⟨rpart37 A ws.length cap b n w (by omega)⟩
    have TN := Lib.hid (show ¬ (partB ws.length a n = true ∧ partB ws.length b n = true) → cpyF ws a b n = ([], 7) from fun h => by unfold cpyF; rw [if_neg (by simp [hc]), if_neg h])
    cases hp : partB ws.length a n with
    | false =>
      have T := Lib.hid (TN.out (by simp [hp]))
      rw [hp] at PA
      clear hc hp TN PB hA
      go_enter Try.func21, Try.ntmps21
      go_wp2_with (first
        | (go_at_call 15; refine C.out.mono ?_; rintro e w' ⟨rfl, rfl⟩)
        | (go_at_call 37; refine (RPart.call (by assumption)).mono ?_; rintro e w' ⟨rfl, rfl⟩))
      exact bodyPost_ret (v := .tuple #[.slice none 0 0, .int .i64 7]) (by simp [results, Try.f21, go_sem]) rfl ⟨.slice none 0 0, by rw [T.out], by rw [T.out]; exact World.ownsRow_nil _ _ _ _, Below.refl _ _⟩
    | true =>
      cases hq : partB ws.length b n with
      | false =>
        have T := Lib.hid (TN.out (by simp [hq]))
        rw [hp] at PA
        rw [hq] at PB
        clear hc hp hq TN hA
        go_enter Try.func21, Try.ntmps21
        go_wp2_with (first
          | (go_at_call 15; refine C.out.mono ?_; rintro e w' ⟨rfl, rfl⟩)
          | (go_at_call 37; refine (RPart.call (by assumption)).mono ?_; rintro e w' ⟨rfl, rfl⟩))
        exact bodyPost_ret (v := .tuple #[.slice none 0 0, .int .i64 7]) (by simp [results, Try.f21, go_sem]) rfl ⟨.slice none 0 0, by rw [T.out], by rw [T.out]; exact World.ownsRow_nil _ _ _ _, Below.refl _ _⟩
      | true =>
        obtain ⟨p1, p2, p3, p4⟩ := partB_spec.1 hp
        obtain ⟨s1, s2, s3, s4⟩ := partB_spec.1 hq
        obtain ⟨k, rfl⟩ : ∃ k : Nat, a = (k : Int) := ⟨a.toNat, by omega⟩
        obtain ⟨l, rfl⟩ : ∃ l : Nat, b = (l : Int) := ⟨b.toNat, by omega⟩
        obtain ⟨m, rfl⟩ : ∃ m : Nat, n = (m : Int) := ⟨n.toNat, by omega⟩
        have T := Lib.hid (show cpyF ws k l m = (copyL ws k l m, 0) by unfold cpyF; rw [if_neg (by simp [hc]), if_pos ⟨hp, hq⟩]; rfl)
        have hkm : k + m ≤ ws.length := by omega
        have hlm : l + m ≤ ws.length := by omega
        rw [hp] at PA
        rw [hq] at PB
        have ER := Lib.hid (empty_words (Below.refl w.heap.size w))
        have EB := Lib.hid (alloc_below w (.cells #[] 25))
        have hl2 := hl.2
        have hl1 := hl.1
        obtain ⟨b0, off, rfl, hcell⟩ := hA (by omega)
        have HC := Lib.hid hcell
        clear hc hp hq p1 p2 p3 p4 s1 s2 s3 s4 TN hA hcell
        go_enter Try.func21, Try.ntmps21
        go_wp2_with (first
          | (go_at_call 15; refine C.out.mono ?_; rintro e w' ⟨rfl, rfl⟩)
          | (go_at_call 37; refine (RPart.call (by assumption)).mono ?_; rintro e w' ⟨rfl, rfl⟩)
          | (at_builtin; refine push_words ER.out EB.out HV.out (by omega) rfl _ _ rfl rfl rfl (by simp; omega) ?_; intro g cap2 W1 ho1 hb1; have HO1 := Lib.hid ho1; have HB1 := Lib.hid hb1; clear ho1 hb1))
        have HO := Lib.hid (show W1.ownsRow w.heap.size 25 1 (.slice (some ⟨g, 0, none⟩) ws.length cap2) ws.length (wc ws) by simpa using HO1.out)
        clear HO1
        go_loopw [12] (fun i wr => ∃ j : Nat, j ≤ m ∧ i = .int .i64 j ∧ Hid (wr.ownsRow w.heap.size 25 1 (.slice (some ⟨g, 0, none⟩) ws.length cap2) ws.length (wc (copyL ws k l j))) ∧ Hid (Below w.heap.size w wr)) (fun i _ => m - (intOf i).toNat)
        case atStart => exact ⟨0, by omega, rfl, by rw [copyL_zero]; exact HO, HB1⟩
        case round =>
          obtain ⟨j, hj, rfl, ho, hb⟩ := hrel
          by_cases hlt : j < m
          · have hlt' : (j : Int) < (m : Int) := by omega
            obtain ⟨c1, f1⟩ := row_cell ho.out (copyL_length (by omega) (by omega)) (k := l + j) (by omega)
            have d1 : wr.cell? ⟨b0, off + (k + j), none⟩ = some (.int .u64 (ws.getD (k + j) 0)) := (hb.out.cell (p := ⟨b0, _, none⟩) (cell_lt (HC.out _ _ (wc_get ws (k + j) (by omega))))).trans (HC.out _ _ (wc_get ws (k + j) (by omega)))
            have NX := Lib.hid (row_put ho.out hb.out (l + j) (ws.getD (k + j) 0))
            have SX := Lib.hid (copyL_step (ws := ws) (a := k) (b := l) (i := j) (by omega) (by omega))
            have i1 : (0 : Int) ≤ (k : Int) + (j : Int) := by omega
            have i2 : (k : Int) + (j : Int) < (ws.length : Int) := by omega
            have i3 : ((k : Int) + (j : Int)).toNat = k + j := by omega
            have i4 : (0 : Int) ≤ (l : Int) + (j : Int) := by omega
            have i5 : (l : Int) + (j : Int) < (ws.length : Int) := by omega
            have i6 : ((l : Int) + (j : Int)).toNat = l + j := by omega
            have NY := Lib.hid (show (wr.setCell ⟨g, l + j, none⟩ (.int .u64 (ws.getD (k + j) 0))).ownsRow w.heap.size 25 1 (.slice (some ⟨g, 0, none⟩) ws.length cap2) ws.length (wc (copyL ws k l (j + 1))) by have := NX.out.1; rw [SX.out] at this; exact this)
            clear SX
            generalize ws.getD (k + j) 0 = z at *
            go_wp2
            refine ⟨⟨j + 1, by omega, by simp, NY, Lib.hid NX.out.2⟩, ?_⟩
            show m - ((j : Int) + 1).toNat < m - ((j : Int)).toNat
            omega
          · have ek : j = m := by omega
            subst ek
            go_wp2
            exact bodyPost_ret (v := .tuple #[.slice (some ⟨g, 0, none⟩) ws.length cap2, .int .i64 0]) (by simp [results, Try.f21, go_sem]) rfl ⟨_, by rw [T.out], by rw [T.out, copyL_length hkm hlm]; exact ho.out, hb.out⟩
end Ytkffabochgmagaa
end Go.Proofs
