/- find, the program's: the walk. -/
import Derived.Test.YtjkphacidpongaaSlG
namespace Go.Proofs
namespace Ytjkphacidpongaa
open Go.RowKit
attribute [local go_sem] Oper.semAt_some

set_option maxRecDepth 100000 in
set_option maxHeartbeats 2000000 in
theorem find46 (v : Value) (cs : List Int) (a : Int) (w : World) (h : IAt w v cs) (hz : (0 : Int) ∈ cs) (hr : ∀ c ∈ cs, -1 ≤ c) (hl : cs.length ≤ 100000) (ha : 1 ≤ a ∧ a ≤ 1600) :
    Calls Try.prog 42 #[v, .int .i64 a] w fun e w' => e = .returned (.tuple #[.int .i64 (findF cs a), .bool (hasB cs a)]) ∧ Below w.heap.size w w' := by
  have HA := Lib.hid h
  have h0 := List.length_pos_of_mem hz
  obtain ⟨A, cap, hv, -⟩ := h
  have HR := Lib.hid hr
  have HZ := Lib.hid hz
  clear hr hz
  subst hv
  obtain ⟨k0, k1, k2, k3, k4, k5⟩ := four_boxes w (.cells #[.slice A cs.length cap] 71) (.cells #[.int .i64 a] 3) (.cells #[.int .i64 0] 3) (.cells #[.bool false] 4)
  have K0 := Lib.hid k0
  have K1 := Lib.hid k1
  have K2 := Lib.hid k2
  have K3 := Lib.hid k3
  have K4 := Lib.hid k4
  have K5 := Lib.hid k5
  clear k0 k1 k2 k3 k4 k5
  refine callsIn_wide.1 (callsIn_of_wp_marks (n := 9) Try.func42 rfl trivial ?_ rfl)
  simp only [Try.ntmps42, List.size_toArray, List.length_cons, List.length_nil, Nat.reduceAdd, Nat.reduceSub, Array.replicate_succ, Array.replicate_zero, List.push_toArray, List.append_toArray, List.nil_append, List.cons_append]
  gi_wp2
  generalize (((w.alloc (Obj.cells #[.slice A cs.length cap] 71)).alloc (Obj.cells #[.int .i64 a] 3)).alloc (Obj.cells #[.int .i64 0] 3)).alloc (Obj.cells #[.bool false] 4) = W0 at *
  have c2 : W0.cell? ⟨w.heap.size + 1 + 1, 0, none⟩ = some (.int .i64 0) := (one_cell K2.out).1
  have f2 : W0.frozen? ⟨w.heap.size + 1 + 1, 0, none⟩ = false := (one_cell K2.out).2
  have c0 := (one_cell (set_far (i := 0) (b := w.heap.size + 1 + 1) (.int .i64 (-1)) (by omega) K0.out)).1
  have c1 := (one_cell (set_far (i := 0) (b := w.heap.size + 1 + 1) (.int .i64 (-1)) (by omega) K1.out)).1
  refine wpIn_wide.2 ?_
  refine wp_scope_straight ?_
  refine (wpIn_wide (n := 9)).1 ?_
  gi_wp2
  refine wpIn_label ?_
  gi_wp2_with (refine ⟨trivial, ?_⟩; gi_at_call 70; refine (callsIn_wide.2 (path60 _ _ _ _ _)).mono ?_; rintro e w1 ⟨rfl, rfl⟩)
  obtain ⟨w1, hw1⟩ : ∃ w1, w1 = ((W0.setCell ⟨w.heap.size + 1 + 1, 0, none⟩ (.int .i64 (-1))).alloc (.cells #[.slice A cs.length cap] 71)).alloc (.cells #[.int .i64 a] 3) := ⟨_, rfl⟩
  obtain ⟨hS, hsz⟩ := find_start w W0 (.slice A cs.length cap) cs a K0.out K1.out K2.out K3.out K4.out K5.out w1 hw1
  rw [← hw1, K4.out]
  have HS := Lib.hid hS
  clear hS hw1 c0 c1 c2 f2 K0 K1 K2 K3 K4 K5
  have hM := FI.minds w (.slice A cs.length cap) cs a w1.heap.size (w1.heap.size + 2) (by omega)
  have hMx := FX.minds w cs a w1.heap.size (w1.heap.size + 2) (by omega)
  refine range_stop (w := w1) (n := 9) (by omega) (gf := 87) (lb := #[.pointer (some ⟨w.heap.size + 4 + 1, 0, none⟩), .pointer (some ⟨w.heap.size + 4, 0, none⟩)]) rfl (enters_of Try.func87 (by kernel_rfl) rfl) (enc := encP a cs.length) (E := EndP cs a) (S := RunP cs a)
    (G := fun W => SeqAt W (w.heap.size + 4) (w.heap.size + 5) (.slice A cs.length cap) cs a) 0
    (fun W1 hb hsz l J K hG hJ hK hY h0' => callsIn_wide.2 (iter66 8 (by omega) (.slice A cs.length cap) cs a ⟨h0, hl⟩ ha (w.heap.size + 4) (w.heap.size + 5) l J K W1 hG hJ hY h0')) (fun _ => rfl)
    (FI w (.slice A cs.length cap) cs a) (FX w cs a) (fun i W h => h.seq HA.out)
    (fun i a' => a' = { tmps := #[.slice A cs.length cap, .int .i64 a, .pointer (some ⟨w.heap.size, 0, none⟩), .pointer (some ⟨w.heap.size + 1, 0, none⟩), .pointer (some ⟨w.heap.size + 1 + 1, 0, none⟩), .pointer (some ⟨w.heap.size + 1 + 1 + 1, 0, none⟩), .int .i64 (pos a cs.length i), .slice A cs.length cap, .int .i64 a, .func (.func 87) #[] #[.pointer (some ⟨w.heap.size + 4 + 1, 0, none⟩), .pointer (some ⟨w.heap.size + 4, 0, none⟩)], .int .i64 (pos a cs.length i), undef, undef, undef, undef, undef, undef, undef, undef, undef, undef, undef, undef, undef, undef, undef, undef], defers := [] })
    hM hMx (fun W1 hb hsz => hM.below (by omega) HS.out (hb.mono (Nat.le_refl _))) ?assign ?body ?done ?stop
  case assign =>
    intro l i W _
    dsimp only [encP]
    gi_wp2
    exact ⟨trivial, trivial⟩
  case body =>
    rintro l i a' W hi rfl hS hsz
    obtain ⟨hil, h0'⟩ := hS
    obtain ⟨A', cap', e, hcs⟩ := HA.out
    cases e
    obtain ⟨b1, o1, rfl, ca⟩ := hcs h0
    have hp := pos_lt a h0 i
    have ca' := (hi.below.cell (cell_lt (ca _ hp))).trans (ca _ hp)
    rw [pv_eq] at ca'
    have ad1 : (⟨b1, o1, none⟩ : Addr).add (pos a cs.length i) = ⟨b1, o1 + pos a cs.length i, none⟩ := by unfold Addr.add; split <;> simp_all
    have hp' : (pos a cs.length i : Int) < (cs.length : Int) := by omega
    obtain ⟨c0, -⟩ := one_cell hi.bt
    obtain ⟨c1, -⟩ := one_cell hi.ba
    have c2 : W.cell? ⟨w.heap.size + 1 + 1, 0, none⟩ = some (.int .i64 (accF cs a i)) := (one_cell hi.bc).1
    have f2 : W.frozen? ⟨w.heap.size + 1 + 1, 0, none⟩ = false := (one_cell hi.bc).2
    have c3 : W.cell? ⟨w.heap.size + 1 + 1 + 1, 0, none⟩ = some (.bool false) := (one_cell hi.bi).1
    have f3 : W.frozen? ⟨w.heap.size + 1 + 1 + 1, 0, none⟩ = false := (one_cell hi.bi).2
    have HI := Lib.hid hi
    have H0 := Lib.hid h0'
    have hrx := HR.out _ (pv_mem h0 a i)
    have c3' : ∀ u, (W.setCell ⟨w.heap.size + 1 + 1, 0, none⟩ u).cell? ⟨w.heap.size + 1 + 1 + 1, 0, none⟩ = some (.bool false) := fun u => (World.cell?_setCell_other _ _ _ _ (by simp)).trans c3
    have f3' : ∀ u, (W.setCell ⟨w.heap.size + 1 + 1, 0, none⟩ u).frozen? ⟨w.heap.size + 1 + 1 + 1, 0, none⟩ = false := fun u => (one_cell (set_far (i := 0) (b := w.heap.size + 1 + 1) (c := w.heap.size + 1 + 1 + 1) u (by omega) HI.out.bi)).2
    have HM := Lib.hid hM
    clear hi h0' ca hM hMx HS hcs
    obtain ⟨x, hx⟩ : ∃ x, pv cs a i = x := ⟨_, rfl⟩
    have HX := Lib.hid hx
    rw [hx] at ca' hrx
    clear hx
    have hB : w.heap.size + 1 + 1 < w.heap.size + 6 := by omega
    have hB3 : w.heap.size + 1 + 1 + 1 < w.heap.size + 6 := by omega
    by_cases h1 : x = a
    · have q0 : (x == a) = true := by simpa using h1
      have T := Lib.hid h1
      clear h1
      gi_wp2
      exact ⟨((KeptR.refl _ _ _).set _ _ _ hB).set _ _ _ hB3, HI.out.found hil (HX.out.trans T.out) H0.out⟩
    have q0 : (x == a) = false := by simpa using h1
    have T := Lib.hid (show pv cs a i ≠ a by rw [HX.out]; exact h1)
    by_cases h2 : 0 < x
    · have q1 : (x == -1) = false := by simp; omega
      have q2 : (x == 0) = false := by simp; omega
      have AC := Lib.hid (acc_stay HZ.out (a := a) (i := i) (.inl (by rw [HX.out]; exact h2)))
      clear h1 h2
      gi_wp2
      exact ⟨KeptR.refl _ _ _, HI.out.stay T.out AC.out⟩
    by_cases h3 : freeI cs a < i
    · have AC := Lib.hid (acc_stay HZ.out (a := a) (i := i) (.inr h3))
      have e3 := acc_free h3
      rw [e3] at c2
      have q3 : (((pos a cs.length (freeI cs a) : Nat) : Int) == -1) = false := by simp
      generalize pos a cs.length (freeI cs a) = pf at *
      by_cases h4 : x = 0
      · have q1 : (x == -1) = false := by simp; omega
        have q2 : (x == 0) = true := by simpa using h4
        clear h1 h2 h3 h4 e3
        gi_wp2
        exact ⟨KeptR.refl _ _ _, HI.out.stay T.out AC.out⟩
      · have q1 : (x == -1) = true := by simp; omega
        clear h1 h2 h3 h4 e3
        gi_wp2
        exact ⟨KeptR.refl _ _ _, HI.out.stay T.out AC.out⟩
    · obtain ⟨e3, e4⟩ := acc_take (a := a) (i := i) (by rw [HX.out]; omega) h3
      rw [e3] at c2
      have AC := Lib.hid e4
      by_cases h4 : x = 0
      · have q1 : (x == -1) = false := by simp; omega
        have q2 : (x == 0) = true := by simpa using h4
        clear h1 h2 h3 h4 e3 e4
        gi_wp2
        exact ⟨(KeptR.refl _ _ _).set _ _ _ hB, HI.out.store T.out _ AC.out⟩
      · have q1 : (x == -1) = true := by simp; omega
        clear h1 h2 h3 h4 e3 e4
        gi_wp2
        exact ⟨(KeptR.refl _ _ _).set _ _ _ hB, HI.out.store T.out _ AC.out⟩
  case done =>
    intro i W hE hi hK
    obtain ⟨r1, r2⟩ := find_done HZ.out hE hi.no
    have b2 := hi.bc
    have b3 := hi.bi
    rw [r2] at b2
    have R1 := Lib.hid r1
    obtain ⟨R, hR⟩ : ∃ R, findF cs a = R := ⟨_, rfl⟩
    rw [hR] at b2
    have R2 := Lib.hid hR
    clear r1 r2 hE hR
    have c2 : W.cell? ⟨w.heap.size + 1 + 1, 0, none⟩ = some (.int .i64 R) := (one_cell b2).1
    have f2 : W.frozen? ⟨w.heap.size + 1 + 1, 0, none⟩ = false := (one_cell b2).2
    have c3 : W.cell? ⟨w.heap.size + 1 + 1 + 1, 0, none⟩ = some (.bool false) := (one_cell b3).1
    have f3 : W.frozen? ⟨w.heap.size + 1 + 1 + 1, 0, none⟩ = false := (one_cell b3).2
    have B2 := Lib.hid b2
    have B3 := Lib.hid b3
    have HI := Lib.hid hi
    have HK := Lib.hid hK
    clear hi hK b2 b3 HS hM hMx HR HZ HA
    gi_wp2
    refine wpIn_wide.2 ?_
    go_region
    obtain ⟨X, hX⟩ : ∃ X, X = ((W.setCell ⟨w.heap.size + 1 + 1, 0, none⟩ (.int .i64 R)).setCell ⟨w.heap.size + 1 + 1 + 1, 0, none⟩ (.bool false)).drew := ⟨_, rfl⟩
    obtain ⟨x1, x2, x3, x4⟩ := find_end w1.heap.size B2.out B3.out HI.out.below HK.out (by omega) X hX
    rw [← hX]
    have X1 := Lib.hid x1
    have X4 := Lib.hid x4
    clear hX x1 x4
    gi_wp2
    rw [Exit.noGoto_ret]
    refine ⟨by simp, .inl ⟨_, _, rfl, run_takeDeferred X1.out, ?_⟩⟩
    exact ⟨.tuple #[.int .i64 R, .bool false], by simp [results, Try.f42, go_sem, x2, x3], by rw [R1.out, R2.out], X4.out⟩
  case stop =>
    intro W hi hK
    obtain ⟨k, hk, hk2, hk3, b2⟩ := hi.at_
    have b3 := hi.bi
    obtain ⟨r1, r2⟩ := find_stop hk hk2 hk3
    obtain ⟨R, hR⟩ : ∃ R, (pos a cs.length k : Int) = R := ⟨_, rfl⟩
    rw [hR] at r2 b2
    have R1 := Lib.hid r1
    have R2 := Lib.hid r2
    clear r1 r2 hk hk2 hk3 hR
    have c2 : W.cell? ⟨w.heap.size + 1 + 1, 0, none⟩ = some (.int .i64 R) := (one_cell b2).1
    have f2 : W.frozen? ⟨w.heap.size + 1 + 1, 0, none⟩ = false := (one_cell b2).2
    have c3 : W.cell? ⟨w.heap.size + 1 + 1 + 1, 0, none⟩ = some (.bool true) := (one_cell b3).1
    have f3 : W.frozen? ⟨w.heap.size + 1 + 1 + 1, 0, none⟩ = false := (one_cell b3).2
    have B2 := Lib.hid b2
    have B3 := Lib.hid b3
    have HI := Lib.hid hi
    have HK := Lib.hid hK
    clear hi hK b2 b3 HS hM hMx HR HZ HA
    gi_wp2
    refine wpIn_wide.2 ?_
    go_region
    obtain ⟨X, hX⟩ : ∃ X, X = ((W.setCell ⟨w.heap.size + 1 + 1, 0, none⟩ (.int .i64 R)).setCell ⟨w.heap.size + 1 + 1 + 1, 0, none⟩ (.bool true)).drew := ⟨_, rfl⟩
    obtain ⟨x1, x2, x3, x4⟩ := find_end w1.heap.size B2.out B3.out HI.out.below HK.out (by omega) X hX
    rw [← hX]
    have X1 := Lib.hid x1
    have X4 := Lib.hid x4
    clear hX x1 x4
    gi_wp2
    rw [Exit.noGoto_ret]
    refine ⟨by simp, .inl ⟨_, _, rfl, run_takeDeferred X1.out, ?_⟩⟩
    exact ⟨.tuple #[.int .i64 R, .bool true], by simp [results, Try.f42, go_sem, x2, x3], by rw [R1.out, R2.out], X4.out⟩
end Ytjkphacidpongaa
end Go.Proofs
