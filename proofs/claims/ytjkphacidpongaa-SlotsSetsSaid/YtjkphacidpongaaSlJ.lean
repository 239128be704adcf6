/- checkPaths, check and Check, the program's. -/
import Derived.Test.YtjkphacidpongaaSlO
import Derived.Test.YtjkphacidpongaaSlH
import Derived.Test.YtjkphacidpongaaSlI
namespace Go.Proofs
namespace Ytjkphacidpongaa
open Go.RowKit

/-- what checkPaths answers -/
def pathsF (cs : List Int) : Int × Int := if offI cs < cs.length then ((offI cs : Int), 6) else (0, 0)
theorem paths_err {cs : List Int} {k : Nat} (hk : k < cs.length) (h : ∀ j, j < k → offB cs j = false) (hc : offB cs k = true) : pathsF cs = ((k : Int), 6) := by
  have e : offI cs = k := least_eq _ (Nat.zero_le _) (by omega) hc (fun m _ hm => h m hm)
  unfold pathsF
  rw [e, if_pos hk]
theorem paths_ok {cs : List Int} (h : ∀ j, j < cs.length → offB cs j = false) : pathsF cs = (0, 0) := by
  have e : offI cs = 0 + cs.length := least_none _ (fun m _ hm => h m (by omega))
  unfold pathsF
  rw [e, if_neg (by omega)]
theorem offB_eq (cs : List Int) (i : Nat) : offB cs i = (decide (0 < cs.getD i 0) && !hasB cs (cs.getD i 0)) := rfl
set_option maxRecDepth 100000 in
set_option maxHeartbeats 1000000 in
theorem paths57 (v : Value) (cs : List Int) (w : World) (h : IAt w v cs) (hz : (0 : Int) ∈ cs) (hr : ∀ c ∈ cs, -1 ≤ c ∧ c ≤ 1600) (hm : cs.length ≤ 100000) :
    Calls Try.prog 85 #[v] w fun e w' => e = .returned (.tuple #[.int .i64 (pathsF cs).1, .int .i64 (pathsF cs).2]) ∧ Below w.heap.size w w' := by
  have FD := Lib.hid (fun W (hb : Below w.heap.size w W) a (ha : 1 ≤ a ∧ a ≤ 1600) => find46 v cs a W (h.below hb) hz (fun c hc => (hr c hc).1) hm ha)
  have RG := Lib.hid (fun i (hi : i < cs.length) => hr _ (getD_mem hi))
  obtain ⟨A, cap, rfl, hA⟩ := h
  have HA := Lib.hid hA
  clear hA hz hr
  have HE := Lib.hid (fun k (hk : k < cs.length) (h : ∀ j, j < k → offB cs j = false) (hc : offB cs k = true) => paths_err hk h hc)
  have HO := Lib.hid (fun (h : ∀ j, j < cs.length → offB cs j = false) => paths_ok h)
  obtain ⟨R, hR⟩ : ∃ R, pathsF cs = R := ⟨_, rfl⟩
  rw [hR] at HE HO ⊢
  have CE := Lib.hid (offB_eq cs)
  obtain ⟨m, hm2⟩ : ∃ m, cs.length = m := ⟨_, rfl⟩
  rw [hm2] at hm HA HE HO RG FD ⊢
  clear hm2 hR
  go_enter Try.func85, Try.ntmps85
  go_wp2
  go_loopw [4, 5, 6, 7, 10] (fun a b c d i wr => ∃ k : Nat, k ≤ m ∧ i = .int .i64 k ∧ Hid (∀ j, j < k → offB cs j = false) ∧ Hid (Below w.heap.size w wr)) (fun _ _ _ _ i _ => m - (intOf i).toNat)
  case atStart => exact ⟨0, by omega, rfl, Lib.hid (fun j hj => by omega), Lib.hid (Below.refl _ _)⟩
  case round =>
    obtain ⟨k, hk, rfl, HN, HB⟩ := hrel
    by_cases hlt : k < m
    rotate_left
    · have hlt' : ¬ (k : Int) < (m : Int) := by omega
      have T := HO.out (fun j hj => HN.out j (by omega))
      subst T
      go_wp2
      refine bodyPost_ret (v := .tuple #[.int .i64 0, .int .i64 0]) (by simp [results, Try.f85, go_sem]) rfl ⟨rfl, HB.out⟩
    have hlt' : (k : Int) < (m : Int) := by omega
    obtain ⟨b1, o1, rfl, ca⟩ := HA.out (by omega)
    have ca' := (HB.out.cell (cell_lt (ca k hlt))).trans (ca k hlt)
    have ad1 : (⟨b1, o1, none⟩ : Addr).add k = ⟨b1, o1 + k, none⟩ := by unfold Addr.add; split <;> simp_all
    have HX := Lib.hid (CE.out k)
    have FIN := Lib.hid (show offB cs k = true → R = (↑k, 6) from fun hc => HE.out k hlt HN.out hc)
    have NXT := Lib.hid (show offB cs k = false → ∀ j, j < k + 1 → offB cs j = false from fun h j hj => by
      rcases Nat.lt_or_ge j k with h1 | h1
      · exact HN.out j h1
      · obtain rfl : j = k := by omega
        exact h)
    have rg := RG.out k hlt
    clear ca
    generalize cs.getD k 0 = x at *
    have AD := Lib.hid (isaddr51 x wr)
    by_cases h3 : 0 < x
    rotate_left
    · have q3 : isA x = false := by unfold isA; rw [decide_eq_false (by omega)]; rfl
      rw [q3] at AD
      have N := Lib.hid (NXT.out (by rw [HX.out, decide_eq_false h3]; rfl))
      clear h3 q3 FIN NXT
      go_wp2_with (go_at_call 63; refine AD.out.mono ?_; rintro e w1 ⟨rfl, rfl⟩)
      refine ⟨⟨k + 1, by omega, by simp, N, HB⟩, ?_⟩
      show m - ((k : Int) + 1).toNat < m - ((k : Int)).toNat
      omega
    have q3 : isA x = true := isA_iff.2 (by omega)
    rw [q3] at AD
    have FX := Lib.hid (FD.out wr HB.out x (by omega))
    have HX2 := Lib.hid (show offB cs k = !hasB cs x by rw [HX.out, decide_eq_true h3]; rfl)
    generalize findF cs x = p at *
    cases hh : hasB cs x with
    | true =>
      rw [hh] at FX
      have N := Lib.hid (NXT.out (by rw [HX2.out, hh]; rfl))
      clear h3 q3 FIN NXT HX2 HX hh
      go_wp2_with (first | (go_at_call 63; refine AD.out.mono ?_; rintro e w1 ⟨rfl, rfl⟩) | (go_at_call 42; refine FX.out.mono ?_; rintro e w1 ⟨rfl, hb1⟩; have B1 := Lib.hid (HB.out.trans (hb1.mono HB.out.size)); clear hb1))
      refine ⟨⟨k + 1, by omega, by simp, N, B1⟩, ?_⟩
      show m - ((k : Int) + 1).toNat < m - ((k : Int)).toNat
      omega
    | false =>
      rw [hh] at FX
      have T := FIN.out (by rw [HX2.out, hh]; rfl)
      subst T
      clear h3 q3 NXT HX2 HX hh
      go_wp2_with (first | (go_at_call 63; refine AD.out.mono ?_; rintro e w1 ⟨rfl, rfl⟩) | (go_at_call 42; refine FX.out.mono ?_; rintro e w1 ⟨rfl, hb1⟩; have B1 := Lib.hid (HB.out.trans (hb1.mono HB.out.size)); clear hb1))
      refine bodyPost_ret (v := .tuple #[.int .i64 k, .int .i64 6]) (by simp [results, Try.f85, go_sem]) rfl ⟨rfl, B1.out⟩
end Ytjkphacidpongaa
end Go.Proofs
