/- Check, the reference's. -/
import Derived.Test.YtjkphacidpongaaGreatQRmT
namespace Go.Proofs
namespace YtjkphacidpongaaGreat
open Go.RowKit
open Cf (good plC plE chkE)

set_option maxRecDepth 100000 in
set_option maxHeartbeats 1000000 in
theorem rchk13_bad (C N S K Q : Int) (A nv : Value) (w : World) (hg : ¬ good C N S K Q) :
    Calls Tryz.prog 13 #[.agg #[.int .i64 C, .int .i64 N, .int .i64 S, .int .i64 K, .int .i64 Q], .agg #[A, nv]] w fun e w' => e = .returned (.tuple #[.int .i64 (-2), .int .i64 7]) ∧ Below w.heap.size w w' := by
  obtain ⟨h0, h1, hs, hb⟩ := two_boxes w (.cells #[.int .i64 C, .int .i64 N, .int .i64 S, .int .i64 K, .int .i64 Q] 23) (.cells #[A, nv] 29)
  have CK := Lib.hid (Cf.chk14_no C N S K Q hg)
  obtain ⟨c0, c1, c2, c3, c4⟩ := five_cells h0
  have B := Lib.hid hb
  clear h0 h1 hs hb hg
  go_enter Tryz.func13, Tryz.ntmps13
  go_wp2_with (go_at_call 42; refine (CK.out _).mono ?_; rintro e w1 ⟨rfl, hb1⟩; have B1 := Lib.hid (below_end B.out hb1); clear hb1)
  refine bodyPost_ret (v := .tuple #[.int .i64 (-2), .int .i64 7]) (by simp [results, Tryz.f13, go_sem]) rfl ⟨rfl, B1.out⟩
set_option maxRecDepth 100000 in
set_option maxHeartbeats 1000000 in
theorem rchk13_len (C N S K Q : Int) (A nv : Value) (n : Nat) (U : Nat → Value) (T : Nat → List Int) (w : World) (hR : RS w A nv n U T) (hg : good C N S K Q) (hl : (n : Int) ≠ N) :
    Calls Tryz.prog 13 #[.agg #[.int .i64 C, .int .i64 N, .int .i64 S, .int .i64 K, .int .i64 Q], .agg #[A, nv]] w fun e w' => e = .returned (.tuple #[.int .i64 (-2), .int .i64 6]) ∧ Below w.heap.size w w' := by
  obtain ⟨a, cap, rfl, -⟩ := hR.form
  obtain ⟨h0, h1, hs, hb⟩ := two_boxes w (.cells #[.int .i64 C, .int .i64 N, .int .i64 S, .int .i64 K, .int .i64 Q] 23) (.cells #[.slice a n cap, nv] 29)
  have CK := Lib.hid (Cf.chk14_yes C N S K Q hg)
  obtain ⟨c0, c1, c2, c3, c4⟩ := five_cells h0
  have B := Lib.hid hb
  have K0 := Lib.hid h0
  have K1 := Lib.hid h1
  have q : ((n : Int) != N) = true := by simpa using hl
  clear h0 h1 hs hb hg hR
  go_enter Tryz.func13, Tryz.ntmps13
  go_wp2_with (go_at_call 42; refine (CK.out _).mono ?_; rintro e w1 ⟨rfl, hb1⟩; have B1 := Lib.hid (below_end B.out hb1); obtain ⟨d0, d1, d2, d3, d4⟩ := five_cells (keep_heap hb1 K0.out); obtain ⟨e0, e1, -, -⟩ := two_cells (keep_heap hb1 K1.out); clear hb1)
  refine bodyPost_ret (v := .tuple #[.int .i64 (-2), .int .i64 6]) (by simp [results, Tryz.f13, go_sem]) rfl ⟨rfl, B1.out⟩
set_option maxRecDepth 100000 in
set_option maxHeartbeats 2000000 in
theorem rchk13_go (C S K Q : Int) (A nv : Value) (n : Nat) (U : Nat → Value) (T : Nat → List Int) (w : World) (hR : RS w A nv n U T) (hm : ∀ j, j ≤ n → (T j).length ≤ 100000) (hg : good C n S K Q) :
    Calls Tryz.prog 13 #[.agg #[.int .i64 C, .int .i64 n, .int .i64 S, .int .i64 K, .int .i64 Q], .agg #[A, nv]] w fun e w' => e = .returned (.tuple #[.int .i64 (chkS C n S K Q n T).1, .int .i64 (chkS C n S K Q n T).2]) ∧ Below w.heap.size w w' := by
  obtain ⟨a, cap, rfl, hcar⟩ := hR.form
  have hat := hR.at_ n (Nat.le_refl _)
  have hnur := hR.nur
  rw [hnur] at hat
  obtain ⟨An, cn, rfl, -⟩ := hat
  obtain ⟨h0, h1, hs, hb⟩ := two_boxes w (.cells #[.int .i64 C, .int .i64 n, .int .i64 S, .int .i64 K, .int .i64 Q] 23) (.cells #[.slice a n cap, .slice An (T n).length cn] 29)
  have CK := Lib.hid (Cf.chk14_yes C n S K Q hg)
  obtain ⟨c0, c1, c2, c3, c4⟩ := five_cells h0
  have B := Lib.hid hb
  have K0 := Lib.hid h0
  have K1 := Lib.hid h1
  have q : ((n : Int) != (n : Int)) = false := by simp
  have hn24 : n ≤ 24 := by obtain ⟨-, -, n0, n1, -⟩ := hg; omega
  have CE := Lib.hid (fun W (hW : Below w.heap.size w W) j (hj : j < n) => (show ∃ b off Aj cj, a = some ⟨b, off, none⟩ ∧ W.cell? ⟨b, off + j, none⟩ = some (.slice Aj (T j).length cj) ∧ IAt W (.slice Aj (T j).length cj) (T j) by
    obtain ⟨b, off, e, hc⟩ := hcar (by omega)
    have h5 := (hR.at_ j (by omega)).below hW
    have h5' := h5
    obtain ⟨Aj, cj, e2, -⟩ := h5'
    rw [e2] at h5
    have h6 := keep_cell hW (hc j hj)
    rw [e2] at h6
    exact ⟨b, off, Aj, cj, e, h6, h5⟩))
  have WN := Lib.hid (fun W (hW : Below w.heap.size w W) => wrong46 C n S K Q (-1) (.slice An (T n).length cn) (T n) W ((hnur ▸ hR.at_ n (Nat.le_refl _) : IAt w (.slice An (T n).length cn) (T n)).below hW) (hm n (Nat.le_refl _)))
  have WJ := Lib.hid (fun W j (hj : j < n) u (hu : IAt W u (T j)) => wrong46 C n S K Q j u (T j) W hu (hm j (by omega)))
  have AT := Lib.hid (fun i (hi : i < n) (hw : wrongF C n S K Q i (T i) ≠ 0) (hb : ∀ j, j < i → wrongF C n S K Q j (T j) = 0) => (show chkS C n S K Q n T = ((i : Int), wrongF C n S K Q i (T i)) by
    have := chkS_at (C := C) (N := n) (S := S) (K := K) (Q := Q) (T := T) hg rfl (i := i) (by omega) (by rw [num_car hi]; exact hw) (fun j hj => by rw [num_car (by omega)]; exact hb j hj)
    rw [this, num_car hi]))
  have NU := Lib.hid (fun (hw : wrongF C n S K Q (-1) (T n) ≠ 0) (hb : ∀ j, j < n → wrongF C n S K Q j (T j) = 0) => (show chkS C n S K Q n T = (-1, wrongF C n S K Q (-1) (T n)) by
    have := chkS_at (C := C) (N := n) (S := S) (K := K) (Q := Q) (T := T) hg rfl (i := n) (Nat.le_refl _) (by rw [num_nur]; exact hw) (fun j hj => by rw [num_car hj]; exact hb j hj)
    rw [this, num_nur]))
  have OK := Lib.hid (fun (hw : wrongF C n S K Q (-1) (T n) = 0) (hb : ∀ j, j < n → wrongF C n S K Q j (T j) = 0) => (show chkS C n S K Q n T = (0, 0) from chkS_ok hg rfl (fun j hj => by
    rcases Nat.lt_or_ge j n with h | h
    · rw [num_car h]; exact hb j h
    · obtain rfl : j = n := by omega
      rw [num_nur]; exact hw)))
  obtain ⟨R, hRR⟩ : ∃ R, chkS C n S K Q n T = R := ⟨_, rfl⟩
  rw [hRR] at AT NU OK ⊢
  obtain ⟨F, hF⟩ : ∃ F : Nat → Int, (fun j : Nat => wrongF C n S K Q j (T j)) = F := ⟨_, rfl⟩
  have hFj : ∀ j : Nat, wrongF C n S K Q j (T j) = F j := fun j => by rw [← hF]
  obtain ⟨fn, hfn⟩ : ∃ fn, wrongF C n S K Q (-1) (T n) = fn := ⟨_, rfl⟩
  simp only [hFj] at AT NU OK WJ
  rw [hfn] at NU OK WN
  clear h0 h1 hs hb hg hR hcar hnur hRR hF hFj hfn hm
  go_enter Tryz.func13, Tryz.ntmps13
  go_upto_region 6 with (go_at_call 42; refine (CK.out _).mono ?_; rintro e w1 ⟨rfl, hb1⟩; have B1 := Lib.hid (below_end B.out hb1); have L0 := Lib.hid (keep_heap hb1 K0.out); have L1 := Lib.hid (keep_heap hb1 K1.out); obtain ⟨d0, d1, d2, d3, d4⟩ := five_cells L0.out; obtain ⟨e0, e1, -, -⟩ := two_cells L1.out; clear hb1)
  clear c0 c1 c2 c3 c4 d0 d1 d2 d3 d4 e0 e1
  go_wp2
  go_loopw [4, 5, 7, 8] (fun r1 r2 i x wr => ∃ k : Nat, k ≤ n ∧ i = .int .i64 k ∧ Hid (∀ j, j < k → F j = 0) ∧ Hid (Below w1.heap.size w1 wr)) (fun _ _ i _ _ => n - (intOf i).toNat)
  case atStart => exact ⟨0, by omega, rfl, Lib.hid (fun j hj => by omega), Lib.hid (Below.refl _ _)⟩
  case round =>
    obtain ⟨k, hk, rfl, HN, HB⟩ := hrel
    obtain ⟨d0, d1, d2, d3, d4⟩ := five_cells (keep_heap HB.out L0.out)
    obtain ⟨e0, e1, -, -⟩ := two_cells (keep_heap HB.out L1.out)
    by_cases hlt : k < n
    · have hlt' : (k : Int) < (n : Int) := by omega
      have q3 : decide ((k : Int) < (n : Int)) = true := decide_eq_true hlt'
      have hBD := below_drewN HB.out 1
      obtain ⟨b, off, Aj, cj, rfl, cc, hij⟩ := CE.out _ (below_end B1.out HB.out) k hlt
      have ad : (⟨b, off, none⟩ : Addr).add k = ⟨b, off + k, none⟩ := by unfold Addr.add; split <;> simp_all
      have WK := Lib.hid (fun W (hW : Below wr.heap.size wr W) => WJ.out W k hlt _ (hij.below hW))
      have ATk := Lib.hid (AT.out k hlt)
      have GN := Lib.hid (fun (hf : F k = 0) j (hj : j < k + 1) => (show F j = 0 by
        rcases Nat.lt_or_ge j k with h | h
        · exact HN.out j h
        · obtain rfl : j = k := by omega
          exact hf))
      obtain ⟨f, hfk⟩ : ∃ f, F k = f := ⟨_, rfl⟩
      rw [hfk] at ATk GN WK
      generalize (T k).length = lk at *
      by_cases hf : f = 0
      · subst hf
        have E := Lib.hid (GN.out rfl)
        clear hij hfk GN ATk AT NU OK WN CE WJ
        go_upto_region 9 with fail
        go_region_with (go_at_call 46; refine (WK.out _ (below_drewN (Below.refl _ _) 1)).mono ?_; rintro e w2 ⟨rfl, hb2⟩; have B2 := Lib.hid (below_end HB.out (Cf.below_drew_l hb2)); clear hb2)
        all_goals
          go_wp2
          refine ⟨⟨k + 1, by omega, by simp, E, B2⟩, ?_⟩
          show n - ((k : Int) + 1).toNat < n - ((k : Int)).toNat
          omega
      · have qf : (f != 0) = true := by simpa using hf
        have E := Lib.hid (ATk.out hf HN.out)
        clear hij hfk GN ATk AT NU OK WN CE WJ hf
        go_upto_region 9 with fail
        go_region_with (go_at_call 46; refine (WK.out _ (below_drewN (Below.refl _ _) 1)).mono ?_; rintro e w2 ⟨rfl, hb2⟩; have B2 := Lib.hid (below_end (below_end B1.out HB.out) (Cf.below_drew_l hb2)); clear hb2)
        all_goals
          go_wp2
          refine bodyPost_ret (v := .tuple #[.int .i64 k, .int .i64 f]) (by simp [results, Tryz.f13, go_sem]) rfl ⟨by rw [E.out], B2.out⟩
    · have hlt' : ¬ (k : Int) < (n : Int) := by omega
      have q3 : decide ((k : Int) < (n : Int)) = false := decide_eq_false hlt'
      have BB := Lib.hid (below_end B1.out HB.out)
      have HN2 := Lib.hid (fun j (hj : j < n) => HN.out j (by omega))
      by_cases hf : fn = 0
      · subst hf
        have E := Lib.hid (OK.out rfl HN2.out)
        clear CE WJ AT NU OK HN HN2
        go_wp2_with (go_at_call 46; refine (WN.out _ BB.out).mono ?_; rintro e w2 ⟨rfl, hb2⟩; have B2 := Lib.hid (below_end BB.out hb2); clear hb2)
        refine bodyPost_ret (v := .tuple #[.int .i64 0, .int .i64 0]) (by simp [results, Tryz.f13, go_sem]) rfl ⟨by rw [E.out], B2.out⟩
      · have qf : (fn != 0) = true := by simpa using hf
        have E := Lib.hid (NU.out hf HN2.out)
        clear CE WJ AT NU OK HN HN2 hf
        go_wp2_with (go_at_call 46; refine (WN.out _ BB.out).mono ?_; rintro e w2 ⟨rfl, hb2⟩; have B2 := Lib.hid (below_end BB.out hb2); clear hb2)
        refine bodyPost_ret (v := .tuple #[.int .i64 (-1), .int .i64 fn]) (by simp [results, Tryz.f13, go_sem]) rfl ⟨by rw [E.out], B2.out⟩
theorem rchk13 (C N S K Q : Int) (A nv : Value) (n : Nat) (U : Nat → Value) (T : Nat → List Int) (w : World) (hR : RS w A nv n U T) (hm : ∀ j, j ≤ n → (T j).length ≤ 100000) :
    Calls Tryz.prog 13 #[.agg #[.int .i64 C, .int .i64 N, .int .i64 S, .int .i64 K, .int .i64 Q], .agg #[A, nv]] w fun e w' => e = .returned (.tuple #[.int .i64 (chkS C N S K Q n T).1, .int .i64 (chkS C N S K Q n T).2]) ∧ Below w.heap.size w w' := by
  by_cases hg : good C N S K Q
  · by_cases hl : (n : Int) = N
    · subst hl; exact rchk13_go C S K Q A nv n U T w hR hm hg
    · rw [chkS_len hg hl]; exact rchk13_len C N S K Q A nv n U T w hR hg hl
  · rw [chkS_bad hg]; exact rchk13_bad C N S K Q A nv w hg
end YtjkphacidpongaaGreat
end Go.Proofs
