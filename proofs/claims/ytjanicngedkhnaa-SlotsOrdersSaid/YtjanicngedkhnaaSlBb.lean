/- The reference's put. -/
import Derived.Test.YtjanicngedkhnaaSlBa
namespace Go.Proofs
namespace Ytjanicngedkhnaa
open Go.RowKit

set_option maxRecDepth 100000 in
set_option maxHeartbeats 1000000 in
theorem rput62 (v : Value) (cs : List Int) (a : Int) (w : World) (h : IAt w v cs) (hz : (0 : Int) ∈ cs) (hm : cs.length ≤ 100000) (ha : 1 ≤ a ∧ a ≤ 1600) :
    Calls Try.prog 62 #[v, .int .i64 a] w fun e w' => ∃ u, e = .returned u ∧ Row w w' u (putF cs a) ∧ Below w.heap.size w w' := by
  have h0 := List.length_pos_of_mem hz
  have hb0 := alloc_below w (.cells #[] 3)
  have hv := h.below hb0
  have he := empty_row (Below.refl w.heap.size w)
  obtain ⟨A, cap, rfl, -⟩ := h
  have HV := Lib.hid hv
  have HE := Lib.hid he
  have B0 := Lib.hid hb0
  have PL := Lib.hid (fun i => pos_lt a h0 i)
  have PS := Lib.hid (fun i => pos_succ a h0 i)
  have FL := Lib.hid (free_lt hz a)
  have FA := Lib.hid (free_at hz a)
  have FB := Lib.hid (fun j (hj : j < freeI cs a) => free_before hj)
  have e1 := pos_cast a h0 0
  have PV := Lib.hid (pv_def cs a)
  have PA := Lib.hid (put_at cs a)
  have PN := Lib.hid (put_len cs a)
  have hmul : IntKind.i64.wrap (a * 40503) = a * 40503 := IntWalk.i64_in _ (by omega)
  obtain ⟨m, hm2⟩ : ∃ m, cs.length = m := ⟨_, rfl⟩
  have HM := Lib.hid hm2
  rw [hm2] at hm h0 e1 PL PS FL PA PV PN
  have e2 : (a * 40503) % (m : Int) = (pos a m 0 : Int) := by rw [e1]; simp
  have E2 := Lib.hid e2
  clear e2 hv he hb0 e1 hz
  obtain ⟨D, hD⟩ : ∃ D, putF cs a = D := ⟨_, rfl⟩
  rw [hD] at PA PN ⊢
  generalize freeI cs a = S at *
  clear hD
  go_enter Try.func62, Try.ntmps62
  go_upto_region 3 with (at_builtin; refine push_all HE.out B0.out HV.out (by rw [HM.out]; exact h0) rfl _ _ rfl rfl rfl (by rw [HM.out]; show 0 + m ≤ 1000000; omega) ?_; intro g cap2 W1 ho hb1; have HO := Lib.hid ho; have B1 := Lib.hid hb1; clear ho hb1)
  have O1 := Lib.hid (show W1.ownsRow w.heap.size 3 1 (.slice (some ⟨g, 0, none⟩) m cap2) m (ic cs) by have := HO.out; rwa [List.nil_append, show ([] : List Int).length + cs.length = m by rw [HM.out]; simp] at this)
  clear HO hm2
  go_loopg [6] m (fun gh q wr => ∃ k : Nat, gh + k = m ∧ k ≤ S ∧ q = .int .i64 (pos a m k) ∧ Hid (W1 = wr))
  case atStart => exact ⟨0, by omega, by omega, by rw [E2.out], Lib.hid rfl⟩
  case round =>
    obtain ⟨k, hk, hkS, rfl, hw⟩ := hrel
    obtain rfl := hw.out
    have hkm : k < m := by have := FL.out; omega
    have hp := PL.out k
    have hp' : (pos a m k : Int) < (m : Int) := by omega
    obtain ⟨ca', fa'⟩ := irow_cell O1.out HM.out hp
    rw [PV.out] at ca'
    have ad1 : (⟨g, 0, none⟩ : Addr).add (pos a m k) = ⟨g, pos a m k, none⟩ := by unfold Addr.add; split <;> simp_all
    have hw1 : IntKind.i64.wrap ((pos a m k : Int) + 1) = (pos a m k : Int) + 1 := IntWalk.i64_in _ (by omega)
    have e3 : ((pos a m k : Int) + 1) % (m : Int) = (pos a m (k + 1) : Int) := by rw [PS.out]; simp
    have hnn : (0 : Int) ≤ (pos a m k : Int) + 1 := by omega
    by_cases hkx : k = S
    · subst hkx
      have q0 : decide (0 < pv cs a k) = false := decide_eq_false (by have := FA.out; omega)
      have q0' : ¬ 0 < pv cs a k := by have := FA.out; omega
      obtain ⟨O2, B2⟩ := irow_put O1.out B1.out (pos a m k) a
      rw [← PA.out] at O2
      have HO2 := Lib.hid O2
      have HB2 := Lib.hid B2
      generalize pv cs a k = x at *
      generalize pos a m k = p at *
      clear O2 B2
      go_wp2
      refine bodyPost_ret (v := .slice (some ⟨g, 0, none⟩) m cap2) (by simp [results, Try.f62, go_sem]) rfl ⟨_, rfl, ?_, HB2.out⟩
      unfold Row
      rw [PN.out]
      exact HO2.out
    · have h1 := FB.out k (by omega)
      generalize pv cs a k = x at *
      have q0 : decide (0 < x) = true := decide_eq_true h1
      obtain ⟨p2, hp2⟩ : ∃ p2, pos a m (k + 1) = p2 := ⟨_, rfl⟩
      have HP2 := Lib.hid hp2
      rw [hp2] at e3
      clear hp2
      generalize pos a m k = p at *
      have HK := Lib.hid (show k ≤ S ∧ k ≠ S ∧ gk + k = m from ⟨hkS, hkx, hk⟩)
      clear hkS hkx hk
      go_wp2
      go_roundg (m - (k + 1))
      case measure => have := HK.out; omega
      case rel => exact ⟨k + 1, by omega, by have := HK.out; omega, by rw [HP2.out], Lib.hid rfl⟩
end Ytjanicngedkhnaa
end Go.Proofs
