/- Fill, the program's. -/
import Derived.Test.YteeghjhkfaeflaaQWlH0
namespace Go.Proofs
namespace Yteeghjhkfaeflaa
open Go.RowKit

/-- an arena, an address and an error -/
def FAns (w : World) (R : (List Int × Int) × Int) (e : Ending) (w' : World) : Prop := ∃ u, e = .returned (.tuple #[u, .int .i64 R.1.2, .int .i64 R.2]) ∧ w'.ownsRow w.heap.size 58 1 u R.1.1.length (wc R.1.1) ∧ Below w.heap.size w w'
theorem LAns.own2 {W : World} {R : (List Int × Int) × Int} {e : Ending} {w' : World} (h : LAns W R e w') : ∃ v, e = .returned (.tuple #[v, .int .i64 R.1.2, .int .i64 R.2]) ∧ Hid (IAt w' v R.1.1) ∧ Below W.heap.size W w' := by
  obtain ⟨v, h1, h2, h3⟩ := h
  exact ⟨v, h1, Lib.hid (IAt.of_own h2), h3⟩
theorem Ar.of_own {W : World} {base : Nat} {v : Value} {zs : List Int} (h : W.ownsRow base 58 1 v zs.length (wc zs)) (hu : ∀ z ∈ zs, Hd.UI z) (hl : zs.length ≤ 1601) : Ar W v zs := by
  refine ⟨WAt.of_own h, fun A n c e => ?_, hu, by omega⟩
  rcases h.2 with ⟨rfl, h0⟩ | ⟨g, cap, cur, rfl, h1, h2, h3, _⟩
  · simp only [Value.slice.injEq] at e; omega
  · simp only [Value.slice.injEq] at e; omega
set_option maxRecDepth 100000 in
set_option maxHeartbeats 1000000 in
theorem fill29_bad (v : Value) (ws : List Int) (sl : Value) (l : List (Int × Int)) (f t : Int) (w : World) (h : Ar w v ws) (hx : XAt w sl l.length (pc l)) (hs : strF ws f t ≠ 0) :
    Calls Try.prog 29 #[v, .int .i64 f, .int .i64 t, sl] w fun e w' => FAns w (filF ws f t l) e w' := by
  have e0 : filF ws f t l = (([], 0), strF ws f t) := by unfold filF; rw [if_pos hs]
  rw [e0]
  have E := Lib.hid (fun W (hb : Below w.heap.size w W) => check49 v ws f t W (h.below hb))
  obtain ⟨A, c, rfl, -⟩ := hx
  obtain ⟨Av, cv, rfl, -, -⟩ := h.open
  have q : (strF ws f t != 0) = true := by simpa using hs
  unfold FAns
  generalize strF ws f t = s at *
  clear hs e0 h
  go_enter Try.func29, Try.ntmps29
  go_wp2_with (go_at_call 49; refine (E.out _ (Below.refl _ _)).mono ?_; rintro e w1 ⟨rfl, hb1⟩)
  exact bodyPost_ret (v := .tuple #[.slice none 0 0, .int .i64 0, .int .i64 s]) (by simp [results, Try.f29, go_sem]) rfl ⟨_, rfl, World.ownsRow_nil _ _ _ _, hb1⟩
set_option maxRecDepth 100000 in
set_option maxHeartbeats 1000000 in
theorem fill29_err (v : Value) (ws : List Int) (sl : Value) (l : List (Int × Int)) (f t : Int) (w : World) (h : Ar w v ws) (hx : XAt w sl l.length (pc l)) (hl : l.length ≤ 60) (hsi : ∀ p ∈ l, Hd.SI p.1 ∧ Hd.SI p.2) (hs : strF ws f t = 0) (he : shpE l ≠ 0 ∨ t < endF f l) :
    Calls Try.prog 29 #[v, .int .i64 f, .int .i64 t, sl] w fun e w' => FAns w (filF ws f t l) e w' := by
  obtain ⟨-, s1, s2, s3, s4⟩ := str_ok hs
  have E := Lib.hid (fun W (hb : Below w.heap.size w W) => check49 v ws f t W (h.below hb))
  rw [hs] at E
  have L := Lib.hid (fun W (hb : Below w.heap.size w W) => (lay50 sl l f W (hx.below hb) hl ⟨by omega, by omega⟩ hsi).mono fun e w' h => h.own2)
  obtain ⟨A, c, rfl, -⟩ := hx
  obtain ⟨Av, cv, rfl, -, -⟩ := h.open
  unfold FAns
  by_cases hc : shpE l = 0
  · have e0 : filF ws f t l = (([], 0), 5) := by unfold filF; rw [if_neg (by simp [hs]), if_neg (by simp [hc]), if_pos]; rcases he with he | he; exact absurd hc he; exact he
    have e1 : layF f l = ((plcF f l, endF f l), 0) := by unfold layF; rw [if_neg (by simp [hc])]
    have q1 : decide (t < endF f l) = true := decide_eq_true (by rcases he with he | he; exact absurd hc he; exact he)
    rw [e0]
    rw [e1] at L
    dsimp only at L ⊢
    generalize endF f l = en at *
    clear hs he hc e0 e1 h hsi s1 s2 s3 s4
    go_enter Try.func29, Try.ntmps29
    go_wp2_with (first
      | (go_at_call 49; refine (E.out _ (Below.refl _ _)).mono ?_; rintro e w1 ⟨rfl, hb1⟩; have B1 := Lib.hid hb1; clear hb1)
      | (go_at_call 50; refine (L.out _ B1.out).mono ?_; rintro e w2 ⟨u, rfl, X2, hb2⟩; have B2 := Lib.hid (below_end B1.out hb2); clear hb2; obtain ⟨A2, c2, rfl, X3⟩ := X2.out; clear X3))
    exact bodyPost_ret (v := .tuple #[.slice none 0 0, .int .i64 0, .int .i64 5]) (by simp [results, Try.f29, go_sem]) rfl ⟨_, rfl, World.ownsRow_nil _ _ _ _, B2.out⟩
  · have e0 : filF ws f t l = (([], 0), shpE l) := by unfold filF; rw [if_neg (by simp [hs]), if_pos hc]
    have e1 : layF f l = (([], 0), shpE l) := by unfold layF; rw [if_pos hc]
    have q1 : (shpE l != 0) = true := by simpa using hc
    rw [e0]
    rw [e1] at L
    dsimp only at L ⊢
    generalize shpE l = er at *
    clear hs he hc e0 e1 h hsi s1 s2 s3 s4
    go_enter Try.func29, Try.ntmps29
    go_wp2_with (first
      | (go_at_call 49; refine (E.out _ (Below.refl _ _)).mono ?_; rintro e w1 ⟨rfl, hb1⟩; have B1 := Lib.hid hb1; clear hb1)
      | (go_at_call 50; refine (L.out _ B1.out).mono ?_; rintro e w2 ⟨u, rfl, X2, hb2⟩; have B2 := Lib.hid (below_end B1.out hb2); clear hb2; obtain ⟨A2, c2, rfl, X3⟩ := X2.out; clear X3))
    exact bodyPost_ret (v := .tuple #[.slice none 0 0, .int .i64 0, .int .i64 er]) (by simp [results, Try.f29, go_sem]) rfl ⟨_, rfl, World.ownsRow_nil _ _ _ _, B2.out⟩
end Yteeghjhkfaeflaa
end Go.Proofs
