/- The reference's add. -/
import Derived.Test.YtjanicngedkhnaaSlBc
namespace Go.Proofs
namespace Ytjanicngedkhnaa
open Go.RowKit

theorem Row.iat {w W : World} {v : Value} {zs : List Int} (h : Row w W v zs) : IAt W v zs := IAt.of_own h
theorem Row.below {w W W' : World} {v : Value} {zs : List Int} (h : Row w W v zs) (hb : Below W.heap.size W W') : Row w W' v zs := own_below h hb
theorem Roomy.tabs {l c : List Int} (h : Roomy c l) (k : Nat) : Tab ((l.take k).foldl putF c) := (h.upto k).all.1
theorem Roomy.lens {l c : List Int} (h : Roomy c l) (k : Nat) : ((l.take k).foldl putF c).length = c.length := (h.upto k).all.2.1
set_option maxRecDepth 100000 in
set_option maxHeartbeats 2000000 in
theorem radd49_calm (v : Value) (cs : List Int) (a : Int) (w : World) (h : IAt w v cs) (hs : StepOk cs a) :
    Calls Try.prog 49 #[v, .int .i64 a] w fun e w' => ∃ u, e = .returned u ∧ Row w w' u (putF cs a) ∧ Below w.heap.size w w' := by
  have hm := hs.tab.hi
  have P := Lib.hid (rput62 v cs a w h hs.zero (by omega) hs.is)
  have US := Lib.hid (fun W u (hu : IAt W u (putF cs a)) => rused39 u (putF cs a) W hu (by rw [put_len]; omega))
  have PN := Lib.hid (put_len cs a)
  have hc := hs.calm
  simp only [crowd, decide_eq_false_iff_not, put_len] at hc
  have hu := used_le (putF cs a)
  have hu2 := addr_le (putF cs a)
  obtain ⟨A, cap, rfl, -⟩ := h
  generalize putF cs a = D at *
  generalize usedN D = p at *
  generalize addrN D = q at *
  rw [PN.out] at hu hu2
  generalize cs.length = n at *
  have q0 : decide (4 * (p : Int) ≤ 3 * (n : Int)) = true := decide_eq_true (by omega)
  have q0' : 4 * (p : Int) ≤ 3 * (n : Int) := by omega
  clear hs hc
  go_enter Try.func49, Try.ntmps49
  go_wp2_with (first
    | (go_at_call 62; refine P.out.mono ?_; rintro e w1 ⟨u, rfl, hr, hb1⟩; have R1 := Lib.hid hr; have B1 := Lib.hid hb1; have U1 := Lib.hid (US.out _ _ hr.iat); obtain ⟨A', c', rfl⟩ := own_form hr; rw [PN.out] at U1; try rw [PN.out]; clear hr hb1)
    | (go_at_call 39; refine U1.out.mono ?_; rintro e w2 ⟨rfl, rfl⟩))
  refine bodyPost_ret (v := .slice A' n c') (by simp [results, Try.f49, go_sem]) rfl ⟨_, rfl, ?_, B1.out⟩
  have := R1.out
  unfold Row at this ⊢
  rw [PN.out] at this ⊢
  exact this
end Ytjanicngedkhnaa
end Go.Proofs
