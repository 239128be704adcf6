/- The reference's Make and Alike; the laws' set. -/
import Derived.Test.YteeghjhkfaeflaaG16
namespace Go.Proofs
namespace Yteeghjhkfaeflaa
open Go.RowKit

set_option maxRecDepth 100000 in
set_option maxHeartbeats 400000 in
theorem rmake13_bad (v : Value) (ws : List Int) (a P R : Int) (w : World) (h : Ar w v ws) (hP : Hd.SI P) (hR : Hd.SI R) (hE : (if chkF ws = 0 then Hd.chkV P R else chkF ws) ≠ 0) :
    Calls Try.prog 54 #[v, .int .i64 a, .agg #[.int .i64 P, .int .i64 R]] w fun e w' => e = .returned (.tuple #[.slice none 0 0, .int .i64 (if chkF ws = 0 then Hd.chkV P R else chkF ws)]) ∧ Below w.heap.size w w' := by
  have C := Lib.hid (fun W (hb : Below w.heap.size w W) => rcheck43 v ws W (h.at_.below hb) h.len)
  have K := Lib.hid (fun W => Hd.check44 P R hP hR W)
  obtain ⟨A, cap, rfl, -, -⟩ := h.open
  clear h hP hR
  by_cases hc : chkF ws = 0
  · rw [hc] at C
    rw [if_pos hc] at hE ⊢
    have q : (Hd.chkV P R != 0) = true := by simpa using hE
    clear hE hc
    generalize Hd.chkV P R = c at *
    go_enter Try.func54, Try.ntmps54
    go_wp2_with (first
      | (go_at_call 57; refine (C.out _ (alloc_below w _)).mono ?_; rintro e w' ⟨rfl, rfl⟩)
      | (go_at_call 53; refine (K.out _).mono ?_; rintro e w1 ⟨rfl, hb1⟩))
    exact bodyPost_ret (v := .tuple #[.slice none 0 0, .int .i64 c]) (by simp [results, Try.f54, go_sem]) rfl ⟨rfl, below_end (alloc_below w _) hb1⟩
  · rw [if_neg hc] at hE ⊢
    have q : (chkF ws != 0) = true := by simpa using hE
    have q1 : (chkF ws == 0) = false := by simpa using hE
    clear hE hc
    generalize chkF ws = c at *
    go_enter Try.func54, Try.ntmps54
    go_wp2_with (go_at_call 57; refine (C.out _ (alloc_below w _)).mono ?_; rintro e w' ⟨rfl, rfl⟩)
    exact bodyPost_ret (v := .tuple #[.slice none 0 0, .int .i64 c]) (by simp [results, Try.f54, go_sem]) rfl ⟨rfl, alloc_below w _⟩
set_option maxRecDepth 100000 in
set_option maxHeartbeats 400000 in
theorem rmake13_ok (v : Value) (ws : List Int) (a P R : Int) (w : World) (h : Ar w v ws) (hc : chkF ws = 0) (hs : Hd.chkV P R = 0) :
    Calls Try.prog 54 #[v, .int .i64 a, .agg #[.int .i64 P, .int .i64 R]] w fun e w' => CAns w (makF ws a P R) e w' := by
  obtain ⟨z0, z1, z2⟩ := Hd.chk_zero.1 hs
  have S := Lib.hid (fun W => Hd.size36 P R ⟨by omega, by omega⟩ ⟨by omega, by omega⟩ W)
  have K := Lib.hid (fun W => Hd.pack46 P R ⟨by omega, by omega⟩ ⟨by omega, by omega⟩ W)
  have T := Lib.hid (fun W => Hd.check44 P R ⟨by omega, by omega⟩ ⟨by omega, by omega⟩ W)
  have e1 : Hd.sizeV P R = 1 + P + R := if_pos hs
  have e2 : Hd.packE P R = Hd.packV P R := if_pos hs
  rw [hs, e1] at S
  rw [hs, e2] at K
  rw [hs] at T
  have C := Lib.hid (fun W (hb : Below w.heap.size w W) => rcheck43 v ws W (h.at_.below hb) h.len)
  rw [hc] at C
  have L := Lib.hid (fun W (hb : Below w.heap.size w W) => rclear45 v ws a (1 + P + R) W (h.at_.below hb) h.len)
  have M := clr_make (a := a) hc hs
  obtain ⟨A, cap, rfl, -, -⟩ := h.open
  clear h hc hs e1 e2
  have N := Lib.hid (heap_alloc_new w (.cells #[.int .i64 P, .int .i64 R] 51))
  have SET := Lib.hid (fun v2 W (hv : WAt W v2 (clrF ws a (1 + P + R)).1) (hm : (clrF ws a (1 + P + R)).1.length ≤ 9223372036854775807) => rset47 v2 (clrF ws a (1 + P + R)).1 a (Hd.packV P R) W hv hm)
  generalize clrF ws a (1 + P + R) = r at *
  obtain ⟨r1, r2⟩ := r
  dsimp only at M SET
  rcases M with ⟨hr, hm⟩ | ⟨hr, hl, hm⟩
  · rw [hm]
    have q : (r2 != 0) = true := by simpa using hr
    clear hm hr SET
    generalize Hd.packV P R = p at *
    go_enter Try.func54, Try.ntmps54
    go_upto_region 4 with (first
      | (go_at_call 57; refine (C.out _ (alloc_below w _)).mono ?_; rintro e w' ⟨rfl, rfl⟩)
      | (go_at_call 53; refine (T.out _).mono ?_; rintro e w1 ⟨rfl, hb1⟩))
    have N1 := Lib.hid (keep_heap hb1 N.out)
    have B1 := Lib.hid (below_end (alloc_below w _) hb1)
    obtain ⟨t0, t1, -, -⟩ := two_free N1.out
    clear hb1
    go_upto_region 7 with (go_at_call 34; refine (S.out _).mono ?_; rintro e w2 ⟨rfl, hb2⟩)
    have B2 := Lib.hid (below_end B1.out hb2)
    clear hb2 t0 t1
    go_wp2_with (go_at_call 73; refine (L.out _ B2.out).mono ?_; rintro e w3 ⟨u, rfl, ho3, hb3⟩)
    exact bodyPost_ret (v := .tuple #[.slice none 0 0, .int .i64 r2]) (by simp [results, Try.f54, go_sem]) rfl ⟨_, rfl, World.ownsRow_nil _ _ _ _, below_end B2.out hb3⟩
  · subst hr
    rw [← hm] at SET
    clear hm
    generalize Hd.packV P R = p at *
    generalize makF ws a P R = q at *
    obtain ⟨q1, q2⟩ := q
    go_enter Try.func54, Try.ntmps54
    go_upto_region 4 with (first
      | (go_at_call 57; refine (C.out _ (alloc_below w _)).mono ?_; rintro e w' ⟨rfl, rfl⟩)
      | (go_at_call 53; refine (T.out _).mono ?_; rintro e w1 ⟨rfl, hb1⟩))
    have N1 := Lib.hid (keep_heap hb1 N.out)
    have B1 := Lib.hid (below_end (alloc_below w _) hb1)
    obtain ⟨t0, t1, -, -⟩ := two_free N1.out
    clear hb1
    go_upto_region 7 with (go_at_call 34; refine (S.out _).mono ?_; rintro e w2 ⟨rfl, hb2⟩)
    have B2 := Lib.hid (below_end B1.out hb2)
    have N2 := Lib.hid (keep_heap hb2 N1.out)
    clear hb2 t0 t1
    go_upto_region 10 with (go_at_call 73; refine (L.out _ B2.out).mono ?_; rintro e w3 ⟨u, rfl, ho3, hb3⟩)
    have B3 := Lib.hid (below_end B2.out hb3)
    obtain ⟨t0, t1, -, -⟩ := two_free (keep_heap hb3 N2.out)
    have WU := Lib.hid (WAt.of_own ho3)
    clear hb3 ho3
    go_upto_region 11 with (go_at_call 74; refine (K.out _).mono ?_; rintro e w4 ⟨rfl, hb4⟩)
    have B4 := Lib.hid (below_end B3.out hb4)
    have WU4 := Lib.hid (WU.out.below hb4)
    clear hb4 t0 t1
    go_wp2_with (go_at_call 75; refine (SET.out u _ WU4.out (by omega)).mono ?_; rintro e w5 ⟨x, rfl, ho5, hb5⟩)
    exact bodyPost_ret (v := .tuple #[x, .int .i64 q2]) (by simp [results, Try.f54, go_sem]) rfl ⟨x, rfl, own_mono ho5 B4.out.size, below_end B4.out hb5⟩
theorem rmake13 (v : Value) (ws : List Int) (a P R : Int) (w : World) (h : Ar w v ws) (hP : Hd.SI P) (hR : Hd.SI R) :
    Calls Try.prog 54 #[v, .int .i64 a, .agg #[.int .i64 P, .int .i64 R]] w fun e w' => CAns w (makF ws a P R) e w' := by
  by_cases hE : (if chkF ws = 0 then Hd.chkV P R else chkF ws) = 0
  · have hc : chkF ws = 0 := by
      apply Classical.byContradiction
      intro hn
      rw [if_neg hn] at hE
      exact hn hE
    rw [if_pos hc] at hE
    exact rmake13_ok v ws a P R w h hc hE
  · have T : makF ws a P R = ([], if chkF ws = 0 then Hd.chkV P R else chkF ws) := by
      unfold makF
      by_cases hc : chkF ws = 0
      · rw [if_pos hc] at hE ⊢
        rw [if_neg (by simp [hc]), if_pos hE]
      · rw [if_neg hc, if_pos hc]
    rw [T]
    exact (rmake13_bad v ws a P R w h hP hR hE).mono (fun _ _ => nil_ans)
end Yteeghjhkfaeflaa
end Go.Proofs
