/- The reference's Into. -/
import Derived.Test.YteeghjhkfaeflaaQWkV
namespace Go.Proofs
namespace Yteeghjhkfaeflaa
open Go.RowKit

set_option maxRecDepth 100000 in
set_option maxHeartbeats 1000000 in
theorem rinto28 (v : Value) (ws : List Int) (f t lo hi : Int) (w : World) (h : Ar w v ws) :
    Calls Try.prog 28 #[v, .int .i64 f, .int .i64 t, .int .i64 lo, .int .i64 hi] w fun e w' => IAns w (intoF ws f t lo hi) e w' := by
  have E := Lib.hid ((rrefs25 v ws f t w h).mono fun e w' h => h.own2)
  have hlen := refs_len ws f t
  unfold intoF IAns
  generalize refsF ws f t = q at *
  obtain ⟨l, c⟩ := q
  dsimp only at *
  obtain ⟨Av, cv, rfl, -, -⟩ := h.open
  clear h
  by_cases hc : c = 0
  rotate_left
  · rw [if_pos hc]
    have q : (c != 0) = true := by simpa using hc
    clear hc
    go_enter Try.func28, Try.ntmps28
    go_wp2_with (go_at_call 25; refine E.out.mono ?_; rintro e w1 ⟨u, rfl, hx, hb⟩; have HB := Lib.hid hb; clear hb)
    exact bodyPost_ret (v := .tuple #[.slice none 0 0, .int .i64 c]) (by simp [results, Try.f28, go_sem]) rfl ⟨_, rfl, World.ownsRow_nil _ _ _ _, HB.out⟩
  subst hc
  rw [if_neg (by simp)]
  go_enter Try.func28, Try.ntmps28
  go_upto_region 6 with (go_at_call 25; refine E.out.mono ?_; rintro e w1 ⟨u, rfl, hx, hb⟩; have HB := Lib.hid hb; clear hb; obtain ⟨A, cp, rfl, hc⟩ := hx.out; have HA := Lib.hid hc; clear hc hx)
  obtain ⟨m, hm⟩ : ∃ m, l.length = m := ⟨_, rfl⟩
  have HM := Lib.hid hm
  rw [hm] at hlen ⊢
  clear hm
  go_loopw [14, 15] (fun o i wr => ∃ j : Nat, j ≤ m ∧ i = .int .i64 j ∧ Hid (wr.ownsRow w1.heap.size 3 1 o (inL lo hi (l.take j)).length (ic (inL lo hi (l.take j)))) ∧ Hid (Below w1.heap.size w1 wr)) (fun _ i _ => m - (intOf i).toNat)
  case atStart => exact ⟨0, by omega, rfl, Lib.hid (World.ownsRow_nil _ _ _ _), Lib.hid (Below.refl _ _)⟩
  case round =>
    obtain ⟨j, hj, rfl, hown, hB⟩ := hrel
    by_cases hlt : j < m
    · have hlt' : (j : Int) < (m : Int) := by omega
      have hjl : j < l.length := by rw [HM.out]; exact hlt
      obtain ⟨b1, o1, rfl, ca⟩ := HA.out (by omega)
      have ca1 := keep_cell hB.out (ca _ _ (pc_get l j hjl).1)
      have ca2 := keep_cell hB.out (ca _ _ (pc_get l j hjl).2)
      rw [← Nat.add_assoc] at ca2
      have hpl : (inL lo hi (l.take j)).length ≤ 102464 := by have := in_len lo hi (l.take j); have := List.length_take_le j l; omega
      have LS := Lib.hid (in_snoc lo hi (l.take j) (l.getD j (0, 0)))
      rw [← pair_take hjl] at LS
      have ad1 : (⟨b1, o1, none⟩ : Addr).add (j * 2) = ⟨b1, o1 + j * 2, none⟩ := by unfold Addr.add; split <;> simp_all
      generalize l.getD j (0, 0) = x at *
      obtain ⟨y, z⟩ := x
      dsimp only at *
      clear ca
      have own3 := hown
      have B3 := hB
      have fin : ∀ v5 W5, Hid (W5.ownsRow w1.heap.size 3 1 v5 (inL lo hi (l.take (j + 1))).length (ic (inL lo hi (l.take (j + 1))))) → Hid (Below w1.heap.size w1 W5) → (∃ j_1 : Nat, j_1 ≤ m ∧ Value.int .i64 ((j : Int) + 1) = .int .i64 j_1 ∧ Hid (W5.ownsRow w1.heap.size 3 1 v5 (inL lo hi (l.take j_1)).length (ic (inL lo hi (l.take j_1)))) ∧ Hid (Below w1.heap.size w1 W5)) ∧ m - (intOf (.int .i64 ((j : Int) + 1))).toNat < m - (intOf (.int .i64 (j : Int))).toNat := by
        intro v5 W5 h1 h2
        refine ⟨⟨j + 1, by omega, by simp, h1, h2⟩, ?_⟩
        show m - ((j : Int) + 1).toNat < m - ((j : Int)).toNat
        omega
      have FIN := Lib.hid fin
      clear fin
      by_cases hz : z = 0
      · have q1 : (z != 0) = false := by simpa using hz
        have hin : inB lo hi (y, z) = false := by simp [inB, hz]
        have e := LS.out
        rw [hin, if_neg (by simp)] at e
        clear hz hin LS
        go_wp2
        exact FIN.out _ _ (by rw [e]; exact own3) B3
      have q1 : (z != 0) = true := by simpa using hz
      by_cases hlo : lo ≤ z
      rotate_left
      · have q2 : decide (lo ≤ z) = false := decide_eq_false hlo
        have hin : inB lo hi (y, z) = false := by simp [inB, hlo]
        have e := LS.out
        rw [hin, if_neg (by simp)] at e
        clear hz hin LS hlo
        go_wp2
        exact FIN.out _ _ (by rw [e]; exact own3) B3
      have q2 : decide (lo ≤ z) = true := decide_eq_true hlo
      by_cases hhi : z < hi
      rotate_left
      · have q3 : decide (z < hi) = false := decide_eq_false hhi
        have hin : inB lo hi (y, z) = false := by simp [inB, hhi]
        have e := LS.out
        rw [hin, if_neg (by simp)] at e
        clear hz hin LS hlo hhi
        go_wp2
        exact FIN.out _ _ (by rw [e]; exact own3) B3
      have q3 : decide (z < hi) = true := decide_eq_true hhi
      have hin : inB lo hi (y, z) = true := by simp [inB, hhi, hlo, hz]
      have e := Lib.hid LS.out
      rw [hin, if_pos rfl] at e
      clear hz hin LS hlo hhi
      go_wp2_with (at_builtin; refine push_int own3.out B3.out y rfl _ _ rfl rfl wr.heap.size rfl rfl rfl (by omega) ?_; intro v5 W5 ho5 hb5 hs5)
      exact FIN.out _ _ (by rw [e.out]; exact Lib.hid ho5) (Lib.hid hb5)
    · have ek : j = m := by omega
      have ht : l.take j = l := List.take_of_length_le (by rw [HM.out]; omega)
      rw [ht] at hown
      have hlt' : ¬ (j : Int) < (m : Int) := by omega
      clear ht ek
      obtain ⟨A', c', rfl⟩ := own_form hown.out
      go_wp2
      exact bodyPost_ret (v := .tuple #[.slice A' (inL lo hi l).length c', .int .i64 0]) (by simp [results, Try.f28, go_sem]) rfl ⟨_, rfl, own_mono hown.out HB.out.size, below_end HB.out hB.out⟩
end Yteeghjhkfaeflaa
end Go.Proofs
