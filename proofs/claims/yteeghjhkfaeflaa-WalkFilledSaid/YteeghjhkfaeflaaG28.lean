/- Into and Count, the program's. -/
import Derived.Test.YteeghjhkfaeflaaG27
namespace Go.Proofs
namespace Yteeghjhkfaeflaa
open Go.RowKit

theorem pc_get (l : List (Int × Int)) : ∀ j, j < l.length → (pc l)[j * 2]? = some (.int .i64 (l.getD j (0, 0)).1) ∧ (pc l)[j * 2 + 1]? = some (.int .i64 (l.getD j (0, 0)).2) := by
  induction l with
  | nil => intro j h; simp at h
  | cons p l ih =>
    intro j h
    have e : pc (p :: l) = .int .i64 p.1 :: .int .i64 p.2 :: pc l := rfl
    rw [e]
    cases j with
    | zero => exact ⟨rfl, rfl⟩
    | succ j =>
      have := ih j (by simpa using h)
      rw [show (j + 1) * 2 = j * 2 + 1 + 1 by omega]
      simpa using this
/-- what Into looks for -/
def inB (lo hi : Int) (p : Int × Int) : Bool := decide (p.2 ≠ 0) && decide (lo ≤ p.2) && decide (p.2 < hi)
def inL (lo hi : Int) (l : List (Int × Int)) : List Int := (l.filter (inB lo hi)).map Prod.fst
theorem in_snoc (lo hi : Int) (l : List (Int × Int)) (p : Int × Int) : inL lo hi (l ++ [p]) = if inB lo hi p = true then inL lo hi l ++ [p.1] else inL lo hi l := by
  unfold inL
  by_cases h : inB lo hi p = true <;> simp [List.filter_append, h]
theorem in_len (lo hi : Int) (l : List (Int × Int)) : (inL lo hi l).length ≤ l.length := by
  unfold inL; rw [List.length_map]; exact List.length_filter_le _ _
def intoF (ws : List Int) (f t lo hi : Int) : List Int × Int := if (refsF ws f t).2 ≠ 0 then ([], (refsF ws f t).2) else (inL lo hi (refsF ws f t).1, 0)
theorem refs_len (ws : List Int) (f t : Int) : (refsF ws f t).1.length ≤ 102464 := col_len _ _ (ref_len ws) ws f t
theorem RfAns.own2 {W : World} {R : List (Int × Int) × Int} {e : Ending} {w' : World} (h : RfAns W R e w') : ∃ v, e = .returned (.tuple #[v, .int .i64 R.2]) ∧ Hid (XAt w' v R.1.length (pc R.1)) ∧ Below W.heap.size W w' := by
  obtain ⟨v, h1, h2, h3⟩ := h
  exact ⟨v, h1, Lib.hid (XAt.of_own h2), h3⟩
theorem pair_take {l : List (Int × Int)} {j : Nat} (hj : j < l.length) : l.take (j + 1) = l.take j ++ [l.getD j (0, 0)] := by
  rw [List.take_add_one, List.getElem?_eq_getElem hj]
  simp [List.getD_eq_getElem?_getD, List.getElem?_eq_getElem hj]
set_option maxRecDepth 100000 in
set_option maxHeartbeats 1000000 in
theorem into27 (v : Value) (ws : List Int) (f t lo hi : Int) (w : World) (h : Ar w v ws) :
    Calls Try.prog 27 #[v, .int .i64 f, .int .i64 t, .int .i64 lo, .int .i64 hi] w fun e w' => IAns w (intoF ws f t lo hi) e w' := by
  have E := Lib.hid ((refs24 v ws f t w h).mono fun e w' h => h.own2)
  have hlen := refs_len ws f t
  unfold intoF IAns
  generalize refsF ws f t = q at *
  obtain ⟨l, c⟩ := q
  dsimp only at *
  obtain ⟨Av, cv, rfl, -, -⟩ := h.open
  clear h
  by_cases hc : c = 0
  rotate_left
  · rw [if_pos hc]
    have q : (c != 0) = true := by simpa using hc
    clear hc
    go_enter Try.func27, Try.ntmps27
    go_wp2_with (go_at_call 24; refine E.out.mono ?_; rintro e w1 ⟨u, rfl, hx, hb⟩; have HB := Lib.hid hb; clear hb)
    exact bodyPost_ret (v := .tuple #[.slice none 0 0, .int .i64 c]) (by simp [results, Try.f27, go_sem]) rfl ⟨_, rfl, World.ownsRow_nil _ _ _ _, HB.out⟩
  subst hc
  rw [if_neg (by simp)]
  go_enter Try.func27, Try.ntmps27
  go_upto_region 5 with (go_at_call 24; refine E.out.mono ?_; rintro e w1 ⟨u, rfl, hx, hb⟩; have HB := Lib.hid hb; clear hb; obtain ⟨A, cp, rfl, hc⟩ := hx.out; have HA := Lib.hid hc; clear hc hx)
  obtain ⟨m, hm⟩ : ∃ m, l.length = m := ⟨_, rfl⟩
  have HM := Lib.hid hm
  rw [hm] at hlen ⊢
  clear hm
  go_wp2
  go_loopw [14, 29] (fun o i wr => ∃ j : Nat, j ≤ m ∧ i = .int .i64 j ∧ Hid (wr.ownsRow w1.heap.size 3 1 o (inL lo hi (l.take j)).length (ic (inL lo hi (l.take j)))) ∧ Hid (Below w1.heap.size w1 wr)) (fun _ i _ => m - (intOf i).toNat)
  case atStart => exact ⟨0, by omega, rfl, Lib.hid (World.ownsRow_nil _ _ _ _), Lib.hid (Below.refl _ _)⟩
  case round =>
    obtain ⟨j, hj, rfl, hown, hB⟩ := hrel
    by_cases hlt : j < m
    · have hlt' : (j : Int) < (m : Int) := by omega
      have hjl : j < l.length := by rw [HM.out]; exact hlt
      obtain ⟨b1, o1, rfl, ca⟩ := HA.out (by omega)
      have ca1 := keep_cell hB.out (ca _ _ (pc_get l j hjl).1)
      have ca2 := keep_cell hB.out (ca _ _ (pc_get l j hjl).2)
      rw [← Nat.add_assoc] at ca2
      have hpl : (inL lo hi (l.take j)).length ≤ 102464 := by have := in_len lo hi (l.take j); have := List.length_take_le j l; omega
      have LS := Lib.hid (in_snoc lo hi (l.take j) (l.getD j (0, 0)))
      rw [← pair_take hjl] at LS
      have ad1 : (⟨b1, o1, none⟩ : Addr).add (j * 2) = ⟨b1, o1 + j * 2, none⟩ := by unfold Addr.add; split <;> simp_all
      generalize l.getD j (0, 0) = x at *
      obtain ⟨y, z⟩ := x
      dsimp only at *
      clear ca
      go_upto_region 8 with (fail)
      have hb3 := alloc_below wr (.cells #[.int .i64 y, .int .i64 z] 57)
      have N := Lib.hid (heap_alloc_new wr (.cells #[.int .i64 y, .int .i64 z] 57))
      have own3 := Lib.hid (own_below hown.out hb3)
      have B3 := Lib.hid (below_end hB.out hb3)
      generalize wr.heap.size = g at *
      generalize wr.alloc (.cells #[.int .i64 y, .int .i64 z] 57) = W3 at *
      obtain ⟨t0, t1, -, -⟩ := two_free N.out
      clear hb3 ca1 ca2 hown hB
      have fin : ∀ v5 W5, Hid (W5.ownsRow w1.heap.size 3 1 v5 (inL lo hi (l.take (j + 1))).length (ic (inL lo hi (l.take (j + 1))))) → Hid (Below w1.heap.size w1 W5) → (∃ j_1 : Nat, j_1 ≤ m ∧ Value.int .i64 ((j : Int) + 1) = .int .i64 j_1 ∧ Hid (W5.ownsRow w1.heap.size 3 1 v5 (inL lo hi (l.take j_1)).length (ic (inL lo hi (l.take j_1)))) ∧ Hid (Below w1.heap.size w1 W5)) ∧ m - (intOf (.int .i64 ((j : Int) + 1))).toNat < m - (intOf (.int .i64 (j : Int))).toNat := by
        intro v5 W5 h1 h2
        refine ⟨⟨j + 1, by omega, by simp, h1, h2⟩, ?_⟩
        show m - ((j : Int) + 1).toNat < m - ((j : Int)).toNat
        omega
      have FIN := Lib.hid fin
      clear fin
      by_cases hz : z = 0
      · have q1 : (z != 0) = false := by simpa using hz
        have hin : inB lo hi (y, z) = false := by simp [inB, hz]
        have e := LS.out
        rw [hin, if_neg (by simp)] at e
        clear hz hin LS
        go_wp2
        exact FIN.out _ _ (by rw [e]; exact own3) B3
      have q1 : (z != 0) = true := by simpa using hz
      by_cases hlo : lo ≤ z
      rotate_left
      · have q2 : decide (lo ≤ z) = false := decide_eq_false hlo
        have hin : inB lo hi (y, z) = false := by simp [inB, hlo]
        have e := LS.out
        rw [hin, if_neg (by simp)] at e
        clear hz hin LS hlo
        go_wp2
        exact FIN.out _ _ (by rw [e]; exact own3) B3
      have q2 : decide (lo ≤ z) = true := decide_eq_true hlo
      by_cases hhi : z < hi
      rotate_left
      · have q3 : decide (z < hi) = false := decide_eq_false hhi
        have hin : inB lo hi (y, z) = false := by simp [inB, hhi]
        have e := LS.out
        rw [hin, if_neg (by simp)] at e
        clear hz hin LS hlo hhi
        go_wp2
        exact FIN.out _ _ (by rw [e]; exact own3) B3
      have q3 : decide (z < hi) = true := decide_eq_true hhi
      have hin : inB lo hi (y, z) = true := by simp [inB, hhi, hlo, hz]
      have e := Lib.hid LS.out
      rw [hin, if_pos rfl] at e
      clear hz hin LS hlo hhi
      go_wp2_with (at_builtin; refine push_int own3.out B3.out y rfl _ _ rfl rfl W3.heap.size rfl rfl rfl (by omega) ?_; intro v5 W5 ho5 hb5 hs5)
      exact FIN.out _ _ (by rw [e.out]; exact Lib.hid ho5) (Lib.hid hb5)
    · have ek : j = m := by omega
      have ht : l.take j = l := List.take_of_length_le (by rw [HM.out]; omega)
      rw [ht] at hown
      have hlt' : ¬ (j : Int) < (m : Int) := by omega
      clear ht ek
      obtain ⟨A', c', rfl⟩ := own_form hown.out
      go_wp2
      exact bodyPost_ret (v := .tuple #[.slice A' (inL lo hi l).length c', .int .i64 0]) (by simp [results, Try.f27, go_sem]) rfl ⟨_, rfl, own_mono hown.out HB.out.size, below_end HB.out hB.out⟩
end Yteeghjhkfaeflaa
end Go.Proofs
