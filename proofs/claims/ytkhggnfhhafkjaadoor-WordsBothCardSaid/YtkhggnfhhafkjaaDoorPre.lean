/- Reading one written byte: what takeByte answers, said by the written forms themselves. -/
import Derived.Test.YtkhggnfhhafkjaaDoorQuote
namespace Go.Proofs
namespace YtkhggnfhhafkjaaDoor
open Go.RowKit

theorem hexV_U (k : Nat) (hk : k < 16) : hexV ((hexU k).toNat : Int) = k := by
  have H : ∀ j : Fin 16, hexV ((hexU j.val).toNat : Int) = j.val := by decide
  exact H ⟨k, hk⟩
theorem hexU_V (u : UInt8) (h : 0 ≤ hexV u.toNat) : hexU (hexV u.toNat).toNat = u ∧ hexV u.toNat < 16 := by
  have H : ∀ n : Fin 256, 0 ≤ hexV ((UInt8.ofNat n.val).toNat : Int) → hexU (hexV ((UInt8.ofNat n.val).toNat : Int)).toNat = UInt8.ofNat n.val ∧ hexV ((UInt8.ofNat n.val).toNat : Int) < 16 := by decide +kernel
  have h2 := H ⟨u.toNat, UInt8.toNat_lt u⟩
  simp only [UInt8.ofNat_toNat] at h2
  exact h2 h

theorem esc_take (u : UInt8) (t : List UInt8) : takeByteL (escL u ++ t) = some ((u.toNat : Int), (escL u).length) := by
  have hu : u.toNat < 256 := UInt8.toNat_lt u
  cases hp : plainB u.toNat with
  | true =>
    have e : escL u = [u] := by simp [escL, hp]
    rw [e]
    have e0 : g ([u] ++ t) 0 = (u.toNat : Int) := rfl
    unfold takeByteL
    rw [e0, if_pos hp]; rfl
  | false =>
    cases hq : letterQ u.toNat with
    | true =>
      simp only [letterQ, decide_eq_true_eq] at hq
      rcases hq with h | h | h | h | h
      · obtain rfl : u = 34 := UInt8.toNat_inj.1 (show u.toNat = 34 by omega)
        rfl
      · obtain rfl : u = 92 := UInt8.toNat_inj.1 (show u.toNat = 92 by omega)
        rfl
      · obtain rfl : u = 10 := UInt8.toNat_inj.1 (show u.toNat = 10 by omega)
        rfl
      · obtain rfl : u = 13 := UInt8.toNat_inj.1 (show u.toNat = 13 by omega)
        rfl
      · obtain rfl : u = 9 := UInt8.toNat_inj.1 (show u.toNat = 9 by omega)
        rfl
    | false =>
      have e : escL u = [92, 120, hexU (u.toNat / 16), hexU (u.toNat % 16)] := by simp [escL, hp, hq]
      rw [e]
      have e0 : g ([92, 120, hexU (u.toNat / 16), hexU (u.toNat % 16)] ++ t) 0 = 92 := rfl
      have e1 : g ([92, 120, hexU (u.toNat / 16), hexU (u.toNat % 16)] ++ t) 1 = 120 := rfl
      have e2 : g ([92, 120, hexU (u.toNat / 16), hexU (u.toNat % 16)] ++ t) 2 = ((hexU (u.toNat / 16)).toNat : Int) := rfl
      have e3 : g ([92, 120, hexU (u.toNat / 16), hexU (u.toNat % 16)] ++ t) 3 = ((hexU (u.toNat % 16)).toNat : Int) := rfl
      have es : hexV ((hexU (u.toNat / 16)).toNat : Int) * 16 + hexV ((hexU (u.toNat % 16)).toNat : Int) = (u.toNat : Int) := by
        rw [hexV_U _ (by omega), hexV_U _ (by omega)]; omega
      have p0 : 0 ≤ hexV ((hexU (u.toNat / 16)).toNat : Int) := by rw [hexV_U _ (by omega)]; omega
      have p1 : 0 ≤ hexV ((hexU (u.toNat % 16)).toNat : Int) := by rw [hexV_U _ (by omega)]; omega
      unfold takeByteL takeHexL
      rw [e0, e1, e2, e3, es, if_neg (by decide), if_neg (by simp), if_neg (by decide), if_pos ⟨by simp, rfl, p0, p1, hq, hp⟩]
      rfl

theorem take_esc {l : List UInt8} {b : Int} {n : Nat} (h : takeByteL l = some (b, n)) : ∃ (u : UInt8) (t : List UInt8), b = u.toNat ∧ l = escL u ++ t ∧ n = (escL u).length := by
  unfold takeByteL at h
  split at h
  · rename_i hp
    cases l with
    | nil => simp [g, plainB] at hp
    | cons c t =>
      have e0 : g (c :: t) 0 = (c.toNat : Int) := rfl
      rw [e0] at h hp
      have e : escL c = [c] := by simp [escL, hp]
      simp only [Option.some.injEq, Prod.mk.injEq] at h
      exact ⟨c, t, h.1.symm, by rw [e]; rfl, by rw [e]; exact h.2.symm⟩
  · rename_i hp
    split at h
    · cases h
    · rename_i h2
      match l, h2 with
      | [], h2 => simp at h2
      | [_], h2 => simp at h2
      | c0 :: c1 :: t, h2 =>
        have e0 : g (c0 :: c1 :: t) 0 = (c0.toNat : Int) := rfl
        have e1 : g (c0 :: c1 :: t) 1 = (c1.toNat : Int) := rfl
        have hc0 : c0 = 92 := UInt8.toNat_inj.1 (by
          have : ¬ (g (c0 :: c1 :: t) 0 ≠ 92) := fun hh => h2 (.inl hh)
          rw [e0] at this
          have h9 : (c0.toNat : Int) = 92 := by omega
          show c0.toNat = 92
          omega)
        subst hc0
        split at h
        · rename_i hm
          rw [e1] at h hm
          simp only [meantQ, decide_eq_true_eq] at hm
          rcases hm with hh | hh | hh | hh | hh
          · obtain rfl : c1 = 34 := UInt8.toNat_inj.1 (show c1.toNat = 34 by omega)
            cases h; exact ⟨34, t, rfl, rfl, rfl⟩
          · obtain rfl : c1 = 92 := UInt8.toNat_inj.1 (show c1.toNat = 92 by omega)
            cases h; exact ⟨92, t, rfl, rfl, rfl⟩
          · obtain rfl : c1 = 110 := UInt8.toNat_inj.1 (show c1.toNat = 110 by omega)
            cases h; exact ⟨10, t, rfl, rfl, rfl⟩
          · obtain rfl : c1 = 114 := UInt8.toNat_inj.1 (show c1.toNat = 114 by omega)
            cases h; exact ⟨13, t, rfl, rfl, rfl⟩
          · obtain rfl : c1 = 116 := UInt8.toNat_inj.1 (show c1.toNat = 116 by omega)
            cases h; exact ⟨9, t, rfl, rfl, rfl⟩
        · unfold takeHexL at h
          split at h
          · rename_i hh
            obtain ⟨hl, h120, hx, hy, hlq, hpp⟩ := hh
            match t, hl with
            | [], hl => simp at hl
            | [_], hl => simp at hl
            | x :: y :: t, hl =>
              have g2 : g (92 :: c1 :: x :: y :: t) 2 = (x.toNat : Int) := rfl
              have g3 : g (92 :: c1 :: x :: y :: t) 3 = (y.toNat : Int) := rfl
              rw [e1] at h120
              rw [g2] at hx hlq hpp h
              rw [g3] at hy hlq hpp h
              obtain rfl : c1 = 120 := UInt8.toNat_inj.1 (show c1.toNat = 120 by omega)
              obtain ⟨ux, lx⟩ := hexU_V x hx
              obtain ⟨uy, ly⟩ := hexU_V y hy
              have hb : (UInt8.ofNat (hexV x.toNat * 16 + hexV y.toNat).toNat).toNat = (hexV x.toNat * 16 + hexV y.toNat).toNat := by
                rw [UInt8.toNat_ofNat']; omega
              have hbi : ((UInt8.ofNat (hexV x.toNat * 16 + hexV y.toNat).toNat).toNat : Int) = hexV x.toNat * 16 + hexV y.toNat := by rw [hb]; omega
              have d1 : (UInt8.ofNat (hexV x.toNat * 16 + hexV y.toNat).toNat).toNat / 16 = (hexV x.toNat).toNat := by rw [hb]; omega
              have d2 : (UInt8.ofNat (hexV x.toNat * 16 + hexV y.toNat).toNat).toNat % 16 = (hexV y.toNat).toNat := by rw [hb]; omega
              have e : escL (UInt8.ofNat (hexV x.toNat * 16 + hexV y.toNat).toNat) = [92, 120, x, y] := by
                unfold escL
                rw [hbi, d1, d2, ux, uy, hpp, hlq]; rfl
              simp only [Option.some.injEq, Prod.mk.injEq] at h
              exact ⟨UInt8.ofNat (hexV x.toNat * 16 + hexV y.toNat).toNat, t, by rw [hbi]; exact h.1.symm, by rw [e]; rfl, by rw [e]; exact h.2.symm⟩
          · cases h
end YtkhggnfhhafkjaaDoor
end Go.Proofs
