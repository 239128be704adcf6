/- The law WalkFills answers true. -/
import Derived.Test.YteeghjhkfaeflaaQWlJ
import Derived.Test.YteeghjhkfaeflaaQWlQ
namespace Go.Proofs
namespace Yteeghjhkfaeflaa
open Go.RowKit

theorem sh_si {o : Int × Int} (h : shWf o) : Hd.SI o.1 ∧ Hd.SI o.2 := ⟨Hd.wf_i64 h.1, Hd.wf_i64 h.2⟩
theorem FAns.own2 {W : World} {R : (List Int × Int) × Int} {e : Ending} {w' : World} (h : FAns W R e w') : ∃ v, e = .returned (.tuple #[v, .int .i64 R.1.2, .int .i64 R.2]) ∧ Hid (WAt w' v R.1.1) ∧ Below W.heap.size W w' := by
  obtain ⟨v, h1, h2, h3⟩ := h
  exact ⟨v, h1, Lib.hid (WAt.of_own h2), h3⟩
theorem fil_len {ws : List Int} {f t : Int} {l : List (Int × Int)} (hu : ∀ z ∈ ws, Hd.UI z) : (filF ws f t l).1.1.length ≤ 1601 := by
  by_cases hs : strF ws f t = 0
  · by_cases hc : shpE l = 0
    · by_cases ht : t < endF f l
      · unfold filF; rw [if_neg (by simp [hs]), if_neg (by simp [hc]), if_pos ht]; simp
      · rw [fil_ok hs hc ht]
        have := (fil_upto hu hs hc (by omega) l.length (Nat.le_refl _)).1
        rw [List.take_length] at this
        have := (str_ok hs).2.2.2.2
        dsimp only
        omega
    · unfold filF; rw [if_neg (by simp [hs]), if_pos hc]; simp
  · unfold filF; rw [if_pos hs]; simp
theorem same_arenas (xs : List Int) (v1 v2 : Value) (W : World) (hm : xs.length ≤ 1000000) (h1 : WAt W v1 xs) (h2 : WAt W v2 xs) : Calls Try.prog 31 #[v1, v2] W fun e w' => e = .returned (.bool true) ∧ Below W.heap.size W w' := S14 xs v1 v2 W hm h1 h2
set_option maxRecDepth 100000 in
set_option maxHeartbeats 2000000 in
theorem fills5_far (A : Option Addr) (n cap : Nat) (B : Option Addr) (n2 cap2 : Nat) (x0 x1 : Int) (w : World) (hf : farB n = true ∨ 60 < n2) :
    Calls Try.prog 5 #[.slice A n cap, .agg #[.int .i64 x0, .int .i64 x1], .slice B n2 cap2] w fun e w' => e = .returned (.bool true) ∧ Below w.heap.size w w' := by
  have F := Lib.hid (fun W => far11 A n cap W)
  cases hfb : farB n with
  | true =>
    rw [hfb] at F
    clear hf hfb
    go_enter Try.func5, Try.ntmps5
    go_wp2_with (first
      | (go_at_call 11; refine (F.out _).mono ?_; rintro e w' ⟨rfl, rfl⟩)
      | (go_at_call 12; refine (awake12 _).mono ?_; rintro e w1 ⟨rfl, hb1⟩))
    exact bodyPost_ret (v := .bool true) (by simp [results, Try.f5, go_sem]) rfl ⟨rfl, below_end (alloc_below w _) hb1⟩
  | false =>
    have q : decide ((60 : Int) < (n2 : Int)) = true := decide_eq_true (by rcases hf with h | h; rw [hfb] at h; cases h; omega)
    rw [hfb] at F
    clear hf hfb
    go_enter Try.func5, Try.ntmps5
    go_wp2_with (first
      | (go_at_call 11; refine (F.out _).mono ?_; rintro e w' ⟨rfl, rfl⟩)
      | (go_at_call 12; refine (awake12 _).mono ?_; rintro e w1 ⟨rfl, hb1⟩))
    exact bodyPost_ret (v := .bool true) (by simp [results, Try.f5, go_sem]) rfl ⟨rfl, below_end (alloc_below w _) hb1⟩
set_option maxRecDepth 100000 in
set_option maxHeartbeats 2000000 in
theorem fills5_go (v : Value) (ws : List Int) (x0 x1 : Int) (sl : Value) (l : List (Int × Int)) (w : World) (h : Ar w v ws) (hx : XAt w sl l.length (pc l)) (hsi : ∀ o ∈ l, shWf o) (hf : farB ws.length = false) (hl : l.length ≤ 60) :
    Calls Try.prog 5 #[v, .agg #[.int .i64 x0, .int .i64 x1], sl] w fun e w' => e = .returned (.bool true) ∧ Below w.heap.size w w' := by
  have F29 := Lib.hid (fun W (hb : Below w.heap.size w W) => (fill29 v ws sl l x0 x1 W (h.below hb) (hx.below hb) hl (fun o ho => sh_si (hsi o ho))).mono fun e w' h => h.own2)
  have F30 := Lib.hid (fun W (hb : Below w.heap.size w W) => (rfill30 v ws sl l x0 x1 W (h.below hb) (hx.below hb) hl (fun o ho => sh_si (hsi o ho))).mono fun e w' h => h.own2)
  have HL := Lib.hid (fil_len (ws := ws) (f := x0) (t := x1) (l := l) h.ui)
  obtain ⟨A, cap, rfl, -, -⟩ := h.open
  obtain ⟨A2, cap2, rfl, -⟩ := hx
  have F := Lib.hid (fun W => far11 A ws.length cap W)
  rw [hf] at F
  have q : decide ((60 : Int) < (l.length : Int)) = false := decide_eq_false (by omega)
  clear h hf hsi hl
  generalize filF ws x0 x1 l = R at *
  generalize ws.length = lx at *
  generalize l.length = ly at *
  obtain ⟨⟨zs, en⟩, er⟩ := R
  dsimp only at F29 F30 HL
  have n1 : (en == en) = true := by simp
  have n2 : (er == er) = true := by simp
  have N0 := Lib.hid (heap_alloc_new w (.cells #[.int .i64 x0, .int .i64 x1] 23))
  have B0 := Lib.hid (alloc_below w (.cells #[.int .i64 x0, .int .i64 x1] 23))
  go_enter Try.func5, Try.ntmps5
  go_upto_region 1 with (fail)
  generalize w.alloc (.cells #[.int .i64 x0, .int .i64 x1] 23) = W0 at *
  obtain ⟨t00, t01, -, -⟩ := two_free N0.out
  go_upto_region 4 with (first | (go_at_call 11; refine (F.out _).mono ?_; rintro e w' ⟨rfl, rfl⟩) | (go_at_call 29; refine (F29.out _ B0.out).mono ?_; rintro e w1 ⟨v1, rfl, X1, hb1⟩))
  clear t00 t01
  have N1 := Lib.hid (keep_heap hb1 N0.out)
  have B1 := Lib.hid (below_end B0.out hb1)
  clear N0 B0 hb1
  obtain ⟨t00, t01, -, -⟩ := two_free N1.out
  go_upto_region 5 with (go_at_call 30; refine (F30.out _ B1.out).mono ?_; rintro e w2 ⟨v2, rfl, X2, hb2⟩)
  clear t00 t01
  have S := Lib.hid (same_arenas zs v1 v2 w2 (by have := HL.out; omega) (X1.out.below hb2) X2.out)
  have B2 := Lib.hid (below_end B1.out hb2)
  clear X1 X2 hb2 N1 B1
  go_wp2_with (first
    | (go_at_call 31; refine S.out.mono ?_; rintro e w3 ⟨rfl, hb3⟩; have B3 := Lib.hid (below_end B2.out hb3); clear hb3)
    | (go_at_call 12; refine (awake12 _).mono ?_; rintro e w4 ⟨rfl, hb4⟩))
  exact bodyPost_ret (v := .bool true) (by simp [results, Try.f5, go_sem]) rfl ⟨rfl, below_end B3.out hb4⟩
theorem fills5 (v : Value) (ws : List Int) (x0 x1 : Int) (sl : Value) (l : List (Int × Int)) (w : World) (h : Ar w v ws) (hx : XAt w sl l.length (pc l)) (hsi : ∀ o ∈ l, shWf o) :
    Calls Try.prog 5 #[v, .agg #[.int .i64 x0, .int .i64 x1], sl] w fun e w' => e = .returned (.bool true) ∧ Below w.heap.size w w' := by
  by_cases hg : farB ws.length = true ∨ 60 < l.length
  · obtain ⟨A, cap, rfl, -, -⟩ := h.open
    obtain ⟨A2, cap2, rfl, -⟩ := hx
    exact fills5_far A ws.length cap A2 l.length cap2 x0 x1 w hg
  · refine fills5_go v ws x0 x1 sl l w h hx hsi ?_ (by omega)
    cases hfb : farB ws.length with
    | true => exact absurd (.inl hfb) hg
    | false => rfl
end Yteeghjhkfaeflaa
end Go.Proofs
