/- The smallest functions: isAddress, crowded, used, find (the reference's), Ints. -/
import Derived.Test.YtjkphacidpongaaSlM
namespace Go.Proofs
namespace Ytjkphacidpongaa
open Go.RowKit

theorem isA_split (a : Int) : isA a = (if 1 ≤ a then decide (a ≤ 1600) else false) := by
  unfold isA
  split
  · rename_i h; rw [decide_eq_true h]; rfl
  · rename_i h; rw [decide_eq_false h]; rfl
set_option maxRecDepth 100000 in
theorem isaddr51 (a : Int) (w : World) : Calls Try.prog 63 #[.int .i64 a] w fun e w' => e = .returned (.bool (isA a)) ∧ w = w' := by
  rw [isA_split]
  by_cases h : 1 ≤ a
  · rw [if_pos h]
    have q : decide (1 ≤ a) = true := decide_eq_true h
    clear h
    go_enter Try.func63, Try.ntmps63
    go_wp2
    go_ret
    exact ⟨rfl, rfl⟩
  · rw [if_neg h]
    have q : decide (1 ≤ a) = false := decide_eq_false h
    clear h
    go_enter Try.func63, Try.ntmps63
    go_wp2
    go_ret
    exact ⟨rfl, rfl⟩
set_option maxRecDepth 100000 in
theorem raddr53 (a : Int) (w : World) : Calls Try.prog 82 #[.int .i64 a] w fun e w' => e = .returned (.bool (isA a)) ∧ w = w' := by
  rw [isA_split]
  by_cases h : 1 ≤ a
  · rw [if_pos h]
    have q : decide (1 ≤ a) = true := decide_eq_true h
    clear h
    go_enter Try.func82, Try.ntmps82
    go_wp2
    go_ret
    exact ⟨rfl, rfl⟩
  · rw [if_neg h]
    have q : decide (1 ≤ a) = false := decide_eq_false h
    clear h
    go_enter Try.func82, Try.ntmps82
    go_wp2
    go_ret
    exact ⟨rfl, rfl⟩
theorem used_snoc (l : List Int) (x : Int) : usedN (l ++ [x]) = usedN l + if x = 0 then 0 else 1 := by
  unfold usedN
  rw [List.countP_append, List.countP_singleton]
  by_cases h : x = 0 <;> simp [h]
theorem addr_snoc (l : List Int) (x : Int) : addrN (l ++ [x]) = addrN l + if 0 < x then 1 else 0 := by
  unfold addrN
  rw [List.countP_append, List.countP_singleton]
  by_cases h : 0 < x <;> simp [h]
theorem take_snoc {l : List Int} {k : Nat} (h : k < l.length) : l.take (k + 1) = l.take k ++ [l.getD k 0] := by
  rw [List.take_add_one, List.getElem?_eq_getElem h, getElem_getD h]; rfl
theorem used_le (l : List Int) : usedN l ≤ l.length := List.countP_le_length
theorem addr_le (l : List Int) : addrN l ≤ l.length := List.countP_le_length
set_option maxRecDepth 100000 in
set_option maxHeartbeats 1000000 in
theorem crowded56 (v : Value) (cs : List Int) (w : World) (h : IAt w v cs) (hm : cs.length ≤ 100000) :
    Calls Try.prog 67 #[v] w fun e w' => e = .returned (.bool (crowd cs)) ∧ w = w' := by
  obtain ⟨A, cap, rfl, hA⟩ := h
  have HA := Lib.hid hA
  clear hA
  have HC := Lib.hid (show crowd cs = decide ((3 : Int) * cs.length < 4 * (usedN cs : Int)) by unfold crowd; rw [Bool.eq_iff_iff]; simp only [decide_eq_true_eq]; omega)
  obtain ⟨m, hm2⟩ : ∃ m, cs.length = m := ⟨_, rfl⟩
  have HM := Lib.hid hm2
  rw [hm2] at hm ⊢
  have hu := used_le cs
  rw [hm2] at hu
  clear hm2
  go_enter Try.func67, Try.ntmps67
  go_wp2
  go_loopw [3, 5, 8] (fun n x i wr => ∃ k u : Nat, k ≤ m ∧ u ≤ k ∧ i = .int .i64 k ∧ n = .int .i64 u ∧ Hid (u = usedN (cs.take k)) ∧ Hid (w = wr)) (fun _ _ i _ => m - (intOf i).toNat)
  case atStart => exact ⟨0, 0, by omega, by omega, rfl, rfl, Lib.hid rfl, Lib.hid rfl⟩
  case round =>
    obtain ⟨k, u, hk, huk, rfl, rfl, HU, hw⟩ := hrel
    obtain rfl := hw.out
    by_cases hlt : k < m
    · have hlt' : (k : Int) < (m : Int) := by omega
      have hkl : k < cs.length := by rw [HM.out]; exact hlt
      obtain ⟨b1, o1, rfl, ca⟩ := HA.out (by omega)
      have ca' := ca k hkl
      have ad1 : (⟨b1, o1, none⟩ : Addr).add k = ⟨b1, o1 + k, none⟩ := by unfold Addr.add; split <;> simp_all
      have LS := Lib.hid (show usedN (cs.take (k + 1)) = u + if cs.getD k 0 = 0 then 0 else 1 by rw [take_snoc hkl, used_snoc, HU.out])
      generalize cs.getD k 0 = x at *
      clear ca
      by_cases hx : x = 0
      · have q3 : (x != 0) = false := by simpa using hx
        have HX := Lib.hid hx
        clear hx
        go_wp2
        refine ⟨⟨k + 1, u, by omega, by omega, by simp, rfl, Lib.hid (by rw [LS.out, if_pos HX.out]; rfl), Lib.hid trivial⟩, ?_⟩
        show m - ((k : Int) + 1).toNat < m - ((k : Int)).toNat
        omega
      · have q3 : (x != 0) = true := by simpa using hx
        have HX := Lib.hid hx
        clear hx
        go_wp2
        refine ⟨⟨k + 1, u + 1, by omega, by omega, by simp, by simp, Lib.hid (by rw [LS.out, if_neg HX.out]), Lib.hid trivial⟩, ?_⟩
        show m - ((k : Int) + 1).toNat < m - ((k : Int)).toNat
        omega
    · have hlt' : ¬ (k : Int) < (m : Int) := by omega
      have T := Lib.hid (show crowd cs = decide ((3 : Int) * m < 4 * (u : Int)) by rw [HC.out, HU.out, List.take_of_length_le (by rw [HM.out]; omega), HM.out])
      clear HU HC
      go_wp2
      refine bodyPost_ret (v := .bool (decide ((3 : Int) * m < 4 * (u : Int)))) (by simp [results, Try.f67, go_sem]) rfl ⟨by rw [T.out], rfl⟩
set_option maxRecDepth 100000 in
set_option maxHeartbeats 1000000 in
theorem rused39 (v : Value) (cs : List Int) (w : World) (h : IAt w v cs) (hm : cs.length ≤ 100000) :
    Calls Try.prog 39 #[v] w fun e w' => e = .returned (.tuple #[.int .i64 (usedN cs), .int .i64 (addrN cs)]) ∧ w = w' := by
  obtain ⟨A, cap, rfl, hA⟩ := h
  have HA := Lib.hid hA
  clear hA
  obtain ⟨m, hm2⟩ : ∃ m, cs.length = m := ⟨_, rfl⟩
  have HM := Lib.hid hm2
  rw [hm2] at hm ⊢
  clear hm2
  go_enter Try.func39, Try.ntmps39
  go_wp2
  go_loopw [4, 5, 6] (fun n o i wr => ∃ k u v : Nat, k ≤ m ∧ u ≤ k ∧ v ≤ k ∧ i = .int .i64 k ∧ n = .int .i64 u ∧ o = .int .i64 v ∧ Hid (u = usedN (cs.take k)) ∧ Hid (v = addrN (cs.take k)) ∧ Hid (w = wr)) (fun _ _ i _ => m - (intOf i).toNat)
  case atStart => exact ⟨0, 0, 0, by omega, by omega, by omega, rfl, rfl, rfl, Lib.hid rfl, Lib.hid rfl, Lib.hid rfl⟩
  case round =>
    obtain ⟨k, u, v, hk, huk, hvk, rfl, rfl, rfl, HU, HV, hw⟩ := hrel
    obtain rfl := hw.out
    by_cases hlt : k < m
    · have hlt' : (k : Int) < (m : Int) := by omega
      have hkl : k < cs.length := by rw [HM.out]; exact hlt
      obtain ⟨b1, o1, rfl, ca⟩ := HA.out (by omega)
      have ca' := ca k hkl
      have ad1 : (⟨b1, o1, none⟩ : Addr).add k = ⟨b1, o1 + k, none⟩ := by unfold Addr.add; split <;> simp_all
      have LS := Lib.hid (show usedN (cs.take (k + 1)) = u + if cs.getD k 0 = 0 then 0 else 1 by rw [take_snoc hkl, used_snoc, HU.out])
      have LV := Lib.hid (show addrN (cs.take (k + 1)) = v + if 0 < cs.getD k 0 then 1 else 0 by rw [take_snoc hkl, addr_snoc, HV.out])
      generalize cs.getD k 0 = x at *
      clear ca
      have fin : ∀ (U V : Int) (u' v' : Nat), U = u' → V = v' → u' ≤ u + 1 → v' ≤ v + 1 → u' = usedN (cs.take (k + 1)) → v' = addrN (cs.take (k + 1)) → (∃ k_1 u_1 v_1 : Nat, k_1 ≤ m ∧ u_1 ≤ k_1 ∧ v_1 ≤ k_1 ∧ Value.int .i64 ((k : Int) + 1) = .int .i64 k_1 ∧ Value.int .i64 U = .int .i64 u_1 ∧ Value.int .i64 V = .int .i64 v_1 ∧ Hid (u_1 = usedN (cs.take k_1)) ∧ Hid (v_1 = addrN (cs.take k_1)) ∧ Hid True) ∧ m - (intOf (.int .i64 ((k : Int) + 1))).toNat < m - (intOf (.int .i64 (k : Int))).toNat := by
        intro U V u' v' e1 e2 h1 h2 h3 h4
        refine ⟨⟨k + 1, u', v', by omega, by omega, by omega, by simp, by rw [e1], by rw [e2], Lib.hid h3, Lib.hid h4, Lib.hid trivial⟩, ?_⟩
        show m - ((k : Int) + 1).toNat < m - ((k : Int)).toNat
        omega
      have FIN := Lib.hid fin
      clear fin
      by_cases hx : x = 0
      · have q3 : (x != 0) = false := by simpa using hx
        have q4 : decide (0 < x) = false := by simp [hx]
        have HX := Lib.hid (show x = 0 from hx)
        clear hx
        go_wp2
        exact FIN.out _ _ u v rfl rfl (by omega) (by omega) (by rw [LS.out, if_pos HX.out]; rfl) (by rw [LV.out, if_neg (by rw [HX.out]; omega)]; rfl)
      · have q3 : (x != 0) = true := by simpa using hx
        have HX := Lib.hid hx
        clear hx
        by_cases hy : 0 < x
        · have q4 : decide (0 < x) = true := decide_eq_true hy
          have HY := Lib.hid hy
          clear hy
          go_wp2
          exact FIN.out _ _ (u + 1) (v + 1) (by simp) (by simp) (by omega) (by omega) (by rw [LS.out, if_neg HX.out]) (by rw [LV.out, if_pos HY.out])
        · have q4 : decide (0 < x) = false := decide_eq_false hy
          have HY := Lib.hid hy
          clear hy
          go_wp2
          exact FIN.out _ _ (u + 1) v (by simp) rfl (by omega) (by omega) (by rw [LS.out, if_neg HX.out]) (by rw [LV.out, if_neg HY.out]; rfl)
    · have hlt' : ¬ (k : Int) < (m : Int) := by omega
      have T := Lib.hid (show usedN cs = u ∧ addrN cs = v by rw [HU.out, HV.out, List.take_of_length_le (by rw [HM.out]; omega)]; exact ⟨rfl, rfl⟩)
      clear HU HV
      go_wp2
      refine bodyPost_ret (v := .tuple #[.int .i64 u, .int .i64 v]) (by simp [results, Try.f39, go_sem]) rfl ⟨by rw [T.out.1, T.out.2], rfl⟩

end Ytjkphacidpongaa
end Go.Proofs
