/- The iterator over the objects of a stretch. -/
import Derived.Test.YteeghjhkfaeflaaG19
import Derived.WalkLawsBesides
namespace Go.Proofs
namespace Yteeghjhkfaeflaa
open Go.RowKit
attribute [local go_sem] Oper.semAt_some

/-- the box of a stretch, and its arena -/
structure StrAt (W : World) (b : Nat) (v : Value) (ws : List Int) (f t : Int) : Prop where
  box : W.heap[b]? = some (.cells #[v, .int .i64 f, .int .i64 t] 65 (0, 0))
  ar : Ar W v ws
/-- how the iterator ends -/
def EndW : Option Int → Ending → Prop
  | none, .returned _ => True
  | some a, .panicked ch => ch = [{ v := .iface 88 (.int .i64 a), recovered := false }]
  | _, _ => False
def encI (x : Int) : Array Value := #[.int .i64 x]

set_option maxRecDepth 100000 in
set_option maxHeartbeats 1000000 in
theorem iter77 (n : Nat) (hn : 1 ≤ n) (v : Value) (ws : List Int) (f t : Int) (hs : strF ws f t = 0) (b l : Nat) (J : List Int → World → Prop) (w : World)
    (hG : ∀ pre W, J pre W → StrAt W b v ws f t) (hJ : ∀ s W W', J s W → Below W.heap.size W W' → J s W')
    (hY : ∀ pre x W1, J pre W1 → pre ++ [x] <+: (wlk ws f t).1 → w.heap.size ≤ W1.heap.size → YieldAt Fence.wide (n - 1) Try.prog l (encI x) W1 fun e W' => e = .returned (.bool true) ∧ J (pre ++ [x]) W' ∧ W1.heap.size ≤ W'.heap.size)
    (h0 : J [] w) :
    Calls Try.prog 77 #[.func (.yield l) #[] #[], .pointer (some ⟨b, 0, none⟩)] w fun e W' => EndW (wlk ws f t).2 e ∧ J (wlk ws f t).1 W' := by
  have HG := Lib.hid hG
  have HJ := Lib.hid hJ
  have HY := Lib.hid hY
  have H0 := Lib.hid h0
  obtain ⟨c0, c1, c2⟩ := three_cells (hG _ _ h0).box
  obtain ⟨-, s1, s2, s3, s4⟩ := str_ok hs
  have HW := Lib.hid (show wlk ws f t = goW ws t ((t - f).toNat + 1) f from rfl)
  generalize wlk ws f t = R at *
  clear hG hJ hY h0 hs
  go_enter Try.func77, Try.ntmps77
  go_wp2
  go_loopw [3] (fun q wr => ∃ (a : Int) (pre : List Int) (k : Nat), q = .int .i64 a ∧ Hid (J pre wr) ∧ Hid (R.1 = pre ++ (goW ws t k a).1 ∧ R.2 = (goW ws t k a).2) ∧ (t - a).toNat < k ∧ 1 ≤ a ∧ a ≤ t ∧ w.heap.size ≤ wr.heap.size) (fun q _ => (t - intOf q).toNat)
  case atStart => exact ⟨f, [], (t - f).toNat + 1, rfl, H0, Lib.hid (by rw [HW.out]; exact ⟨rfl, rfl⟩), by omega, by omega, by omega, Nat.le_refl _⟩
  case round =>
    obtain ⟨a, pre, k, rfl, hj, T, hk, ha1, hat, hsz⟩ := hrel
    obtain ⟨c0, c1, c2⟩ := three_cells (HG.out _ _ hj.out).box
    obtain ⟨k, rfl⟩ : ∃ i, k = i + 1 := ⟨k - 1, by omega⟩
    by_cases hlt : a < t
    rotate_left
    · have q : decide (a < t) = false := decide_eq_false hlt
      have T2 := Lib.hid (show R = (pre, none) by
        have := T.out; rw [goW_stop _ hlt] at this
        exact Prod.ext (by rw [this.1]; simp) this.2)
      go_wp2
      exact bodyPost_end (v := .tuple #[]) (results_none rfl _ _ _) rfl ⟨by rw [T2.out]; trivial, by rw [T2.out]; exact hj.out⟩
    have q : decide (a < t) = true := decide_eq_true hlt
    have hA := (HG.out _ _ hj.out).ar
    have S := Lib.hid (size17 v ws a wr hA)
    obtain ⟨z0, z1⟩ := siz_small ws a
    have esub : IntKind.i64.wrap (t - a) = t - a := IntWalk.i64_in _ (by omega)
    by_cases hgap : (sizF ws a).2 ≠ 0 ∨ t - a < (sizF ws a).1
    · have T2 := Lib.hid (show R = (pre, some a) by
        have := T.out; rw [goW_gap k hlt hgap] at this
        exact Prod.ext (by rw [this.1]; simp) this.2)
      generalize sizF ws a = z at *
      obtain ⟨m, c⟩ := z
      dsimp only at *
      by_cases hc : c = 0
      · subst hc
        have q2 : decide (t - a < m) = true := decide_eq_true (by omega)
        have hbx := Lib.hid (HG.out _ _ hj.out).box
        clear hA hgap
        go_wp2_with (go_at_call 78; refine S.out.mono ?_; rintro e w1 ⟨rfl, hb1⟩; obtain ⟨d0, d1, d2⟩ := three_cells (keep_heap hb1 hbx.out))
        exact ⟨rfl, by rw [T2.out]; exact rfl, by rw [T2.out]; exact HJ.out _ _ _ hj.out hb1⟩
      · have q3 : (c != 0) = true := by simpa using hc
        clear hA hgap hc
        go_wp2_with (go_at_call 78; refine S.out.mono ?_; rintro e w1 ⟨rfl, hb1⟩)
        exact ⟨rfl, by rw [T2.out]; exact rfl, by rw [T2.out]; exact HJ.out _ _ _ hj.out hb1⟩
    · have T2 := T.out
      rw [goW_step k hlt hgap] at T2
      have hc : (sizF ws a).2 = 0 := Classical.byContradiction fun hn => hgap (.inl hn)
      have hz := siz_ok hc
      have hpre := Lib.hid (show pre ++ [a] <+: R.1 by rw [T2.1]; exact ⟨(goW ws t k (a + (sizF ws a).1)).1, by simp⟩)
      have eadd : IntKind.i64.wrap (a + (sizF ws a).1) = a + (sizF ws a).1 := IntWalk.i64_in _ (by omega)
      have TN := Lib.hid (show R.1 = (pre ++ [a]) ++ (goW ws t k (a + (sizF ws a).1)).1 ∧ R.2 = (goW ws t k (a + (sizF ws a).1)).2 by rw [T2.1]; exact ⟨by simp, T2.2⟩)
      have hbx := Lib.hid (HG.out _ _ hj.out).box
      have hm : ¬ t - a < (sizF ws a).1 := fun h => hgap (.inr h)
      clear T2 T hA hgap
      generalize sizF ws a = z at *
      obtain ⟨m, c⟩ := z
      dsimp only at *
      subst hc
      have q2 : decide (t - a < m) = false := decide_eq_false (by omega)
      go_upto_region 5 with (go_at_call 78; refine S.out.mono ?_; rintro e w1 ⟨rfl, hb1⟩; obtain ⟨d0, d1, d2⟩ := three_cells (keep_heap hb1 hbx.out))
      have hs1 := hb1.size
      obtain ⟨fn, tm, asg, bd, hy, hR⟩ := HY.out pre a w1 (HJ.out _ _ _ hj.out hb1) hpre.out (by omega)
      dsimp only [encI] at hy
      have HR := Lib.hid hR
      clear hR
      refine (wpIn_wide (n := n)).1 ?_
      gi_wp2
      refine HR.out.mono ?_
      rintro e W' ⟨rfl, hj', hsz'⟩
      gi_wp2
      go_wp2
      refine ⟨⟨a + m, pre ++ [a], k, rfl, Lib.hid hj', TN, by omega, by omega, by omega, by omega⟩, ?_⟩
      simp only [intOf]
      omega
end Yteeghjhkfaeflaa
end Go.Proofs
