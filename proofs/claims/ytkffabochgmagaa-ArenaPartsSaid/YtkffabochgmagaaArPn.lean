/- The law ArenaParts answers true where there are no operations. -/
import Derived.Test.YtkffabochgmagaaArPt
namespace Go.Proofs
namespace Ytkffabochgmagaa
open Go.RowKit
set_option maxRecDepth 100000 in
set_option maxHeartbeats 4000000 in
theorem parts7_nil (A1 : Option Addr) (p1 : Nat) (ws : List Int) (z : Int) (w : World) (h1 : WAt w (.slice A1 ws.length p1) ws) (hw : ws.length ≤ 200) (z0 : 0 ≤ z) (z1 : z ≤ 255) :
    Calls Try.prog 7 #[.slice A1 ws.length p1, .slice none 0 0, .int .u8 z] w fun e w' => e = .returned (.bool true) ∧ Below w.heap.size w w' := by
  have q1 : decide ((200 : Int) < (ws.length : Int)) = false := decide_eq_false (by omega)
  have F := fun (W : World) (va : Value) (h : WAt W va ws) => play29 va (.slice none 0 0) ws [] W h (OAt.empty _ _) (by omega) (by simp)
  have HV := Lib.hid h1
  by_cases hc : chkF ws = 0
  rotate_left
  · have R : playF ws [] = AAns.err 0 (chkF ws) := by unfold playF; rw [if_pos hc]
    rw [R] at F
    have F29 := Lib.hid F
    have q5 : (chkF ws != 0) = true := by simpa using hc
    have q6 : (chkF ws == chkF ws) = true := by simp
    clear F R hc h1
    generalize chkF ws = c at *
    unfold AAns.err at F29
    generalize ws.length = n at *
    go_enter Try.func7, Try.ntmps7
    go_upto_region 4 with (fail)
    go_upto_region 5 with (go_at_call 29; refine (F29.out _ _ HV.out).mono ?_; rintro e W1 ⟨va, ga, rfl, hV1, hG1, hb1⟩)
    have K1 := Lib.hid (below_end hb1 (alloc_below W1 (.cells #[.int .i64 0, .int .i64 0] 50)))
    generalize W1.alloc (.cells #[.int .i64 0, .int .i64 0] 50) = X1 at *
    clear hb1 hV1 hG1
    have HV2 := Lib.hid (HV.out.below K1.out)
    go_upto_region 6 with (go_at_call 29; refine (F29.out _ _ HV2.out).mono ?_; rintro e W2 ⟨vb, gb, rfl, hV2, hG2, hb2⟩)
    have K2 := Lib.hid (below_end K1.out (below_end hb2 (alloc_below W2 (.cells #[.int .i64 0, .int .i64 0] 50))))
    generalize W2.alloc (.cells #[.int .i64 0, .int .i64 0] 50) = X2 at *
    clear hb2 hV2 hG2
    go_wp2_with (go_at_call 10; refine (awake10 _).mono ?_; rintro e u3 ⟨rfl, hu3⟩)
    exact bodyPost_ret (v := .bool true) (by simp [results, Try.f7, go_sem]) rfl ⟨rfl, below_end K2.out hu3⟩
  · have R : playF ws [] = ⟨ws, [], 0, 0, 0, 0⟩ := by unfold playF; rw [if_neg (by simp [hc]), if_neg (by simp)]; rfl
    rw [R] at F
    have F29 := Lib.hid F
    have hm : ws.length ≤ 1000000 := by omega
    have HM := Lib.hid hm
    clear F R hc h1 hm hw
    go_enter Try.func7, Try.ntmps7
    generalize hn : ws.length = n at *
    have HN := Lib.hid hn
    clear hn
    go_upto_region 4 with (fail)
    go_upto_region 5 with (go_at_call 29; refine (F29.out _ _ HV.out).mono ?_; rintro e W1 ⟨va, ga, rfl, hV1, hG1, hb1⟩)
    have b01 := below_end hb1 (alloc_below W1 (.cells #[.int .i64 0, .int .i64 0] 50))
    have K1 := Lib.hid b01
    have HV1 := Lib.hid (HV.out.below b01)
    have V1 := Lib.hid ((WAt.of_own hV1).below (alloc_below W1 (.cells #[.int .i64 0, .int .i64 0] 50)))
    have U1 := Lib.hid ((WAt.of_own (zs := []) hG1).below (alloc_below W1 (.cells #[.int .i64 0, .int .i64 0] 50)))
    have C1 := Lib.hid (heap_alloc_new W1 (.cells #[.int .i64 0, .int .i64 0] 50))
    generalize W1.alloc (.cells #[.int .i64 0, .int .i64 0] 50) = X1 at *
    clear hb1 hV1 hG1 b01
    go_upto_region 6 with (go_at_call 29; refine (F29.out _ _ HV1.out).mono ?_; rintro e W2 ⟨vb, gb, rfl, hV2, hG2, hb2⟩)
    have b12 := below_end hb2 (alloc_below W2 (.cells #[.int .i64 0, .int .i64 0] 50))
    have K2 := Lib.hid (below_end K1.out b12)
    have V12 := Lib.hid (V1.out.below b12)
    have U12 := Lib.hid (U1.out.below b12)
    have C12 := Lib.hid (keep_heap b12 C1.out)
    have V2 := Lib.hid ((WAt.of_own hV2).below (alloc_below W2 (.cells #[.int .i64 0, .int .i64 0] 50)))
    have U2 := Lib.hid (own_below hG2 (alloc_below W2 (.cells #[.int .i64 0, .int .i64 0] 50)))
    have C2 := Lib.hid (heap_alloc_new W2 (.cells #[.int .i64 0, .int .i64 0] 50))
    generalize W2.alloc (.cells #[.int .i64 0, .int .i64 0] 50) = X2 at *
    clear hb2 hV2 hG2 b12 V1 U1 C1 K1
    go_upto_region 9 with (go_at_call 29; refine (F29.out _ _ V2.out).mono ?_; rintro e W3 ⟨vc, gc, rfl, hV3, hG3, hb3⟩)
    have b23 := below_end hb3 (alloc_below W3 (.cells #[.int .i64 0, .int .i64 0] 50))
    have K3 := Lib.hid (below_end K2.out b23)
    have V13 := Lib.hid (V12.out.below b23)
    have U13 := Lib.hid (U12.out.below b23)
    have C13 := Lib.hid (keep_heap b23 C12.out)
    have U23 := Lib.hid (own_below U2.out b23)
    have C23 := Lib.hid (keep_heap b23 C2.out)
    have V3 := Lib.hid ((WAt.of_own hV3).below (alloc_below W3 (.cells #[.int .i64 0, .int .i64 0] 50)))
    have U3 := Lib.hid (own_below hG3 (alloc_below W3 (.cells #[.int .i64 0, .int .i64 0] 50)))
    have C3 := Lib.hid (heap_alloc_new W3 (.cells #[.int .i64 0, .int .i64 0] 50))
    generalize W3.alloc (.cells #[.int .i64 0, .int .i64 0] 50) = X3 at *
    clear hb3 hV3 hG3 b23 V12 U12 C12 U2 C2 V2 K2
    go_upto_region 12 with (first
      | (at_builtin; refine push_row (xs := []) (ys := []) (empty_words (Below.refl X3.heap.size X3)) (alloc_below X3 (.cells #[] 25)) U23.out rfl _ _ rfl rfl rfl (by simp) ?_; intro p1' Y1 ho1 hb1; have HO1 := Lib.hid ho1; have HB1 := Lib.hid hb1; clear ho1 hb1)
      | (at_builtin; refine push_row HO1.out HB1.out U3.out rfl _ _ rfl rfl rfl (by simp) ?_; intro p2' Y2 ho2 hb2; have HO2 := Lib.hid ho2; have HB2 := Lib.hid hb2; clear ho2 hb2))
    have VA := Lib.hid (V13.out.below HB2.out)
    have VB := Lib.hid (V3.out.below HB2.out)
    have VC := Lib.hid (show WAt Y2 p2' [] by simpa using WAt.of_own HO2.out)
    have VD := Lib.hid (U13.out.below HB2.out)
    have D1 := Lib.hid (keep_heap HB2.out C13.out)
    have D2 := Lib.hid (keep_heap HB2.out C23.out)
    have D3 := Lib.hid (keep_heap HB2.out C3.out)
    have K4 := Lib.hid (below_end K3.out HB2.out)
    clear HO1 HB1 HO2 HB2 V13 V3 U13 C13 C23 C3 U23 U3 K3
    go_wp2_with (first
      | (go_at_call 13; first
          | (refine (S13 [] _ _ _ (by simp) (VC.out.below J1.out) (VD.out.below J1.out)).mono ?_; rintro e u2 ⟨rfl, hu2⟩; have J2 := below_end J1.out hu2; obtain ⟨x0, x1⟩ := cnt_cells (keep_heap J2 D1.out); obtain ⟨x2, x3⟩ := cnt_cells (keep_heap J2 D2.out); obtain ⟨x4, x5⟩ := cnt_cells (keep_heap J2 D3.out); have K5 := Lib.hid (below_end K4.out J2); clear hu2 J2)
          | (refine (S13 ws _ _ _ (by rw [HN.out]; exact HM.out) VB.out VA.out).mono ?_; rintro e u1 ⟨rfl, hu1⟩; have J1 := Lib.hid hu1; clear hu1))
      | (go_at_call 10; refine (awake10 _).mono ?_; rintro e u3 ⟨rfl, hu3⟩))
    exact bodyPost_ret (v := .bool true) (by simp [results, Try.f7, go_sem]) rfl ⟨rfl, below_end K5.out hu3⟩
end Ytkffabochgmagaa
end Go.Proofs
