/- The law ObjectsAlike answers true, for every input. -/
import Derived.Test.YtmgoonahpndfoaaObAw
namespace Go.Proofs
namespace Ytmgoonahpndfoaa
open Go.RowKit

theorem zeros_get (m j : Nat) : (zeros m).getD j 0 = 0 := by
  simp only [zeros, List.getD_eq_getElem?_getD, List.getElem?_replicate]
  split <;> rfl
theorem zeros_len (m : Nat) : (zeros m).length = m := by simp [zeros]
theorem zeros_chk {m : Nat} (h1 : 1 ≤ m) (h2 : m ≤ 1601) : chkF (zeros m) = 0 := by
  rw [chk_cases (by rw [zeros_len]; omega), zeros_get, if_pos rfl]
theorem zeros_ui (m : Nat) : ∀ z ∈ zeros m, Hd.UI z := fun z hz => by rw [(List.mem_replicate.1 hz).2]; exact ⟨by decide, by decide⟩
/-- two objects of a shape, one behind the other -/
structure TwoOb (ws : List Int) (P R : Nat) : Prop where
  one : ObOk ws 1 P R
  two : ObOk ws (1 + (1 + P + R)) P R
  len : ws.length = 1 + 2 * (1 + P + R)
  ui : ∀ z ∈ ws, Hd.UI z
  nil : ∀ j, j ≠ 1 → j ≠ 1 + (1 + P + R) → ws.getD j 0 = 0
theorem two_made {P R : Nat} (hs : P + R ≤ 39) : TwoOb (mkL (mkL (zeros (1 + 2 * (1 + P + R))) 1 (1 + P + R) (Hd.packV P R)) (1 + (1 + P + R)) (1 + P + R) (Hd.packV P R)) P R := by
  have l0 := zeros_len (1 + 2 * (1 + P + R))
  have c0 := zeros_chk (m := 1 + 2 * (1 + P + R)) (by omega) (by omega)
  have u0 := zeros_ui (1 + 2 * (1 + P + R))
  have g0 := zeros_get (1 + 2 * (1 + P + R))
  have hp := pack_ui (P := P) (R := R) (by omega) (by omega) (by omega)
  generalize zeros (1 + 2 * (1 + P + R)) = ws0 at *
  have f1 : 1 + (1 + P + R) ≤ ws0.length := by omega
  have l1 := mkL_length (Hd.packV P R) f1
  have c1 := mkL_chk (Hd.packV P R) c0 (Nat.le_refl 1) f1
  have u1 := mkL_ui u0 1 (1 + P + R) hp
  have g1 := mkL_get (Hd.packV P R) f1 (by omega)
  have o1 := mk_ob c0 (show P + R ≤ 63 by omega) (Nat.le_refl 1) f1
  generalize mkL ws0 1 (1 + P + R) (Hd.packV P R) = ws1 at *
  have f2 : 1 + (1 + P + R) + (1 + P + R) ≤ ws1.length := by omega
  have g2 := mkL_get (Hd.packV P R) f2 (by omega)
  refine ⟨ob_of (mkL_chk _ c1 (by omega) f2) (Nat.le_refl 1) (by rw [mkL_length _ f2]; omega) (by omega) ?_, mk_ob c1 (by omega) (by omega) f2, by rw [mkL_length _ f2]; omega, mkL_ui u1 _ _ hp, ?_⟩
  · rw [g2, if_neg (by omega), if_neg (by omega)]; exact o1.head
  · intro j h1 h2
    rw [g2, if_neg h2, g1, if_neg h1, g0]
    split <;> first | rfl | (split <;> rfl)
theorem al_eq {ws : List Int} {k j P R : Nat} (h1 : ObOk ws k P R) (h2 : ObOk ws j P R) (h : ∀ i, i < R → ws.getD (k + 1 + P + i) 0 = ws.getD (j + 1 + P + i) 0) : alkF ws k j = (true, 0) := by
  have f1 := h1.fit
  have f2 := h2.fit
  rw [alk_eq h1 h2, decide_eq_true (part_ext (by omega) (by omega) h)]
theorem al_neq {ws : List Int} {k j P R i : Nat} (h1 : ObOk ws k P R) (h2 : ObOk ws j P R) (hi : i < R) (h : ws.getD (k + 1 + P + i) 0 ≠ ws.getD (j + 1 + P + i) 0) : alkF ws k j = (false, 0) := by
  rw [alk_eq h1 h2, decide_eq_false (fun e => h (part_at_get e hi))]
theorem ret_al {w : World} {u : Value} {ws : List Int} (h : Ar w u ws) {a b : Int} {d : Bool} (e : alkF ws a b = (d, 0)) : Calls Try.prog 28 #[u, .int .i64 a, .int .i64 b] w fun e w' => e = .returned (.tuple #[.bool d, .int .i64 0]) ∧ Below w.heap.size w w' := by
  have := alike28 u ws a b w h
  rwa [e] at this
theorem ret_c {w : World} {rs : List Int} {e : Ending} {w' : World} (h : CAns w (rs, 0) e w') (hu : ∀ z ∈ rs, Hd.UI z) (hl : rs.length ≤ 1601) : RAns w rs e w' := by
  obtain ⟨u, rfl, ho, hb⟩ := h
  exact ⟨u, rfl, Lib.hid (own_ar ho hu (by omega)), hb⟩
theorem alike8 (P R z p : Int) (w : World) (hP : Hd.SI P) (hR : Hd.SI R) (hz : 0 ≤ z ∧ z ≤ 18446744073709551615) (hp : 0 ≤ p ∧ p ≤ 255) :
    Calls Try.prog 8 #[.agg #[.int .i64 P, .int .i64 R], .int .u64 z, .int .u8 p] w fun e w' => e = .returned (.bool true) ∧ Below w.heap.size w w' := by
  have K := fun (W : World) => Hd.size36 P R hP hR W
  by_cases hc : Hd.chkV P R = 0
  rotate_left
  · exact alike8_err P R z p _ _ w (.inl hc) (Lib.hid K)
  have hsz : Hd.sizeV P R = 1 + P + R := if_pos hc
  rw [hsz, hc] at K
  by_cases h40 : 40 < 1 + P + R
  · exact alike8_err P R z p 0 _ w (.inr ⟨rfl, h40⟩) (Lib.hid K)
  obtain ⟨z0, z1, z2⟩ := Hd.chk_zero.1 hc
  obtain ⟨P, rfl⟩ : ∃ k : Nat, P = (k : Int) := ⟨P.toNat, by omega⟩
  obtain ⟨R, rfl⟩ : ∃ k : Nat, R = (k : Int) := ⟨R.toNat, by omega⟩
  have hs : P + R ≤ 39 := by omega
  have l0 := zeros_len (1 + 2 * (1 + P + R))
  have c0 := zeros_chk (m := 1 + 2 * (1 + P + R)) (by omega) (by omega)
  have u0 := zeros_ui (1 + 2 * (1 + P + R))
  have hpk := pack_ui (P := P) (R := R) (by omega) (by omega) (by omega)
  have f1 : 1 + (1 + P + R) ≤ (zeros (1 + 2 * (1 + P + R))).length := by omega
  have l1 := mkL_length (Hd.packV P R) f1
  have c1 := mkL_chk (Hd.packV P R) c0 (Nat.le_refl 1) f1
  have u1 := mkL_ui u0 1 (1 + P + R) hpk
  have T := two_made hs
  have m1 := mak_is c0 (show P + R ≤ 63 by omega) (Nat.le_refl 1) f1
  have m2 := mak_is c1 (show P + R ≤ 63 by omega) (show 1 ≤ 1 + (1 + P + R) by omega) (by omega)
  have eN : (1 + (1 + (P : Int) + (R : Int))) = ((1 + (1 + P + R) : Nat) : Int) := by omega
  have D12a : Hid (∀ W u, Ar W u (zeros (1 + 2 * (1 + P + R))) → Calls Try.prog 12 #[u, .int .i64 1, .agg #[.int .i64 P, .int .i64 R]] W fun e w' => RAns W (mkL (zeros (1 + 2 * (1 + P + R))) 1 (1 + P + R) (Hd.packV P R)) e w') :=
    Lib.hid (fun W u hu => by
      have := make12 u _ ((1 : Nat) : Int) P R W hu hP hR
      rw [m1] at this
      exact this.mono (fun _ _ q => ret_c q u1 (by omega)))
  have D12b : Hid (∀ W u, Ar W u (mkL (zeros (1 + 2 * (1 + P + R))) 1 (1 + P + R) (Hd.packV P R)) → Calls Try.prog 12 #[u, .int .i64 (1 + (1 + (P : Int) + (R : Int))), .agg #[.int .i64 P, .int .i64 R]] W fun e w' => RAns W (mkL (mkL (zeros (1 + 2 * (1 + P + R))) 1 (1 + P + R) (Hd.packV P R)) (1 + (1 + P + R)) (1 + P + R) (Hd.packV P R)) e w') :=
    Lib.hid (fun W u hu => by
      have := make12 u _ (1 + (1 + (P : Int) + (R : Int))) P R W hu hP hR
      rw [eN, m2] at this
      rw [eN]
      exact this.mono (fun _ _ q => ret_c q T.ui (by rw [T.len]; omega)))
  generalize mkL (mkL (zeros (1 + 2 * (1 + P + R))) 1 (1 + P + R) (Hd.packV P R)) (1 + (1 + P + R)) (1 + P + R) (Hd.packV P R) = ws at *
  generalize mkL (zeros (1 + 2 * (1 + P + R))) 1 (1 + P + R) (Hd.packV P R) = ws1 at *
  have tl := T.len
  have D28a : Hid (∀ W u, Ar W u ws → Calls Try.prog 28 #[u, .int .i64 1, .int .i64 1] W fun e w' => e = .returned (.tuple #[.bool true, .int .i64 0]) ∧ Below W.heap.size W w') :=
    Lib.hid (fun W u hu => ret_al hu (al_eq (k := 1) (j := 1) T.one T.one (fun i hi => rfl)))
  have D28b : Hid (∀ W u, Ar W u ws → Calls Try.prog 28 #[u, .int .i64 1, .int .i64 (1 + (1 + (P : Int) + (R : Int)))] W fun e w' => e = .returned (.tuple #[.bool true, .int .i64 0]) ∧ Below W.heap.size W w') :=
    Lib.hid (fun W u hu => by
      rw [eN]
      exact ret_al hu (al_eq (k := 1) T.one T.two (fun i hi => by rw [T.nil _ (by omega) (by omega), T.nil _ (by omega) (by omega)])))
  -- a pointer that is set
  have hSP : 0 < P → ∃ us : List Int, (∀ W u, Ar W u ws → Calls Try.prog 30 #[u, .int .i64 1, .int .i64 (p % (P : Int)), .int .i64 (1 + (1 + (P : Int) + (R : Int)))] W fun e w' => RAns W us e w') ∧
      (∀ W u, Ar W u us → Calls Try.prog 28 #[u, .int .i64 1, .int .i64 (1 + (1 + (P : Int) + (R : Int)))] W fun e w' => e = .returned (.tuple #[.bool true, .int .i64 0]) ∧ Below W.heap.size W w') := fun hP0 => by
    have hf0 : 0 ≤ p % (P : Int) := Int.emod_nonneg _ (by omega)
    have hf1 : p % (P : Int) < P := Int.emod_lt_of_pos _ (by omega)
    obtain ⟨f, hf⟩ : ∃ f : Nat, p % (P : Int) = (f : Int) := ⟨(p % (P : Int)).toNat, by omega⟩
    rw [hf] at hf0 hf1 ⊢
    have hi : 1 + 1 + f < ws.length := by omega
    have hcu : Hd.UI (1 + (1 + (P : Int) + (R : Int))) := ⟨by omega, by omega⟩
    have e : spF ws ((1 : Nat) : Int) f (1 + (1 + (P : Int) + (R : Int))) = (ws.set (1 + 1 + f) (1 + (1 + (P : Int) + (R : Int))), 0) := by
      unfold spF
      rw [T.one.is, if_pos rfl]
      simp only [Int.toNat_natCast]
      unfold stF
      rw [if_pos ⟨hf0, hf1⟩, if_pos ⟨by omega, by omega⟩, Int.toNat_natCast]
    have g := set_get hi (1 + (1 + (P : Int) + (R : Int)))
    refine ⟨ws.set (1 + 1 + f) (1 + (1 + (P : Int) + (R : Int))), fun W u hu => ?_, fun W u hu => ?_⟩
    · have := setp30 u ws ((1 : Nat) : Int) f (1 + (1 + (P : Int) + (R : Int))) W hu
      rw [e] at this
      exact this.mono (fun _ _ q => ret_c q (set_ui T.ui hcu _) (by rw [List.length_set]; omega))
    · rw [eN]
      rw [eN] at hu g
      refine ret_al hu (al_eq (k := 1) (ob_set T.one (by omega) hi _) ?_ (fun i hi2 => ?_))
      · refine ob_of (set_chk _ T.two.chk (by omega)) T.two.one (by rw [List.length_set]; exact T.two.fit) T.two.sum ?_
        rw [g, if_neg (by omega)]; exact T.two.head
      · rw [g, g, if_neg (by omega), if_neg (by omega), T.nil _ (by omega) (by omega), T.nil _ (by omega) (by omega)]
  -- a raw field that is set
  have hSR : 0 < R → ∃ rs : List Int, (∀ W u, Ar W u ws → Calls Try.prog 32 #[u, .int .i64 1, .int .i64 (p % (R : Int)), .int .u64 z] W fun e w' => RAns W rs e w') ∧
      (∀ W u, Ar W u rs → Calls Try.prog 28 #[u, .int .i64 1, .int .i64 (1 + (1 + (P : Int) + (R : Int)))] W fun e w' => e = .returned (.tuple #[.bool (z == 0), .int .i64 0]) ∧ Below W.heap.size W w') ∧
      (∀ W u, Ar W u rs → Calls Try.prog 28 #[u, .int .i64 (1 + (1 + (P : Int) + (R : Int))), .int .i64 1] W fun e w' => e = .returned (.tuple #[.bool (z == 0), .int .i64 0]) ∧ Below W.heap.size W w') := fun hR0 => by
    have hf0 : 0 ≤ p % (R : Int) := Int.emod_nonneg _ (by omega)
    have hf1 : p % (R : Int) < R := Int.emod_lt_of_pos _ (by omega)
    obtain ⟨f, hf⟩ : ∃ f : Nat, p % (R : Int) = (f : Int) := ⟨(p % (R : Int)).toNat, by omega⟩
    rw [hf] at hf0 hf1 ⊢
    have hfR : f < R := by omega
    have hi : 1 + 1 + P + f < ws.length := by omega
    have e : srF ws ((1 : Nat) : Int) f z = (ws.set (1 + 1 + P + f) z, 0) := by
      unfold srF
      rw [T.one.is, if_pos rfl]
      simp only [Int.toNat_natCast]
      unfold wrF
      rw [if_pos ⟨hf0, hf1⟩, Int.toNat_natCast]
    have g := set_get hi z
    have o1 := ob_set T.one (i := 1 + 1 + P + f) (by omega) hi z
    have o2 : ObOk (ws.set (1 + 1 + P + f) z) (1 + (1 + P + R)) P R := by
      refine ob_of (set_chk _ T.two.chk (by omega)) T.two.one (by rw [List.length_set]; exact T.two.fit) T.two.sum ?_
      rw [g, if_neg (by omega)]; exact T.two.head
    have ga : (ws.set (1 + 1 + P + f) z).getD (1 + 1 + P + f) 0 = z := by rw [g, if_pos rfl]
    have gb : ∀ i, i < R → (ws.set (1 + 1 + P + f) z).getD (1 + (1 + P + R) + 1 + P + i) 0 = 0 := fun i hi2 => by rw [g, if_neg (by omega), T.nil _ (by omega) (by omega)]
    have gc : ∀ i, i < R → i ≠ f → (ws.set (1 + 1 + P + f) z).getD (1 + 1 + P + i) 0 = 0 := fun i hi2 hne => by rw [g, if_neg (by omega), T.nil _ (by omega) (by omega)]
    have both : alkF (ws.set (1 + 1 + P + f) z) ((1 : Nat) : Int) ((1 + (1 + P + R) : Nat) : Int) = ((z == 0), 0) ∧ alkF (ws.set (1 + 1 + P + f) z) ((1 + (1 + P + R) : Nat) : Int) ((1 : Nat) : Int) = ((z == 0), 0) := by
      by_cases hz0 : z = 0
      · have e0 : (z == 0) = true := by simpa using hz0
        rw [e0]
        have h : ∀ i, i < R → (ws.set (1 + 1 + P + f) z).getD (1 + 1 + P + i) 0 = (ws.set (1 + 1 + P + f) z).getD (1 + (1 + P + R) + 1 + P + i) 0 := fun i hi2 => by
          rw [gb i hi2]
          by_cases hne : i = f
          · rw [hne, ga]; exact hz0
          · exact gc i hi2 hne
        exact ⟨al_eq o1 o2 h, al_eq o2 o1 (fun i hi2 => (h i hi2).symm)⟩
      · have e0 : (z == 0) = false := by simpa using hz0
        rw [e0]
        exact ⟨al_neq o1 o2 hfR (by rw [ga, gb f hfR]; exact hz0), al_neq o2 o1 hfR (by rw [ga, gb f hfR]; exact fun q => hz0 q.symm)⟩
    refine ⟨ws.set (1 + 1 + P + f) z, fun W u hu => ?_, fun W u hu => ?_, fun W u hu => ?_⟩
    · have := setr32 u ws ((1 : Nat) : Int) f z W hu
      rw [e] at this
      exact this.mono (fun _ _ q => ret_c q (set_ui T.ui hz _) (by rw [List.length_set]; omega))
    · rw [eN]; exact ret_al hu both.1
    · rw [eN]; exact ret_al hu both.2
  -- another shape
  have hST : ∃ ts : List Int, (∀ W u, Ar W u ws → Calls Try.prog 12 #[u, .int .i64 (1 + (1 + (P : Int) + (R : Int))), .agg #[.int .i64 R, .int .i64 P]] W fun e w' => RAns W ts e w') ∧
      (∀ W u, Ar W u ts → Calls Try.prog 28 #[u, .int .i64 1, .int .i64 (1 + (1 + (P : Int) + (R : Int)))] W fun e w' => e = .returned (.tuple #[.bool ((P : Int) == (R : Int)), .int .i64 0]) ∧ Below W.heap.size W w') := by
    have f3 : 1 + (1 + P + R) + (1 + R + P) ≤ ws.length := by omega
    have m3 := mak_is T.one.chk (show R + P ≤ 63 by omega) (show 1 ≤ 1 + (1 + P + R) by omega) f3
    have g := mkL_get (Hd.packV R P) f3 (by omega)
    have o2 := mk_ob T.one.chk (show R + P ≤ 63 by omega) (show 1 ≤ 1 + (1 + P + R) by omega) f3
    have o1 : ObOk (mkL ws (1 + (1 + P + R)) (1 + R + P) (Hd.packV R P)) 1 P R := by
      refine ob_of o2.chk (Nat.le_refl 1) (by rw [mkL_length _ f3]; omega) (by omega) ?_
      rw [g, if_neg (by omega), if_neg (by omega)]; exact T.one.head
    refine ⟨mkL ws (1 + (1 + P + R)) (1 + R + P) (Hd.packV R P), fun W u hu => ?_, fun W u hu => ?_⟩
    · have := make12 u _ (1 + (1 + (P : Int) + (R : Int))) R P W hu hR hP
      rw [eN, m3] at this
      rw [eN]
      exact this.mono (fun _ _ q => ret_c q (mkL_ui T.ui _ _ (pack_ui (by omega) (by omega) (by omega))) (by rw [mkL_length _ f3]; omega))
    · rw [eN]
      by_cases hPR : P = R
      · subst hPR
        have e0 : ((P : Int) == (P : Int)) = true := by simp
        rw [e0]
        refine ret_al hu (al_eq (k := 1) o1 o2 (fun i hi => ?_))
        rw [g, g, if_neg (by omega), if_neg (by omega), if_neg (by omega), if_pos ⟨by omega, by omega⟩, T.nil _ (by omega) (by omega)]
      · have e0 : ((P : Int) == (R : Int)) = false := by simp; omega
        rw [e0]
        exact ret_al hu (alk_ne (k := 1) o1 o2 (fun q => hPR q.1))
  obtain ⟨ts, D12c, D28f⟩ := hST
  rcases Nat.eq_zero_or_pos P with hP0 | hP0 <;> rcases Nat.eq_zero_or_pos R with hR0 | hR0
  · exact alike8_00 P R _ z p ws1 ws ws ws ws w rfl hs hp (Lib.hid K) D12a D12b D28a D28b hP0 hR0
  · obtain ⟨rs, D32, D28d, D28e⟩ := hSR hR0
    exact alike8_01 P R _ z p ws1 ws ws rs ts w rfl hs hp (Lib.hid K) D12a D12b D28a D28b hP0 hR0 _ rfl _ rfl (Lib.hid D32) (Lib.hid D28d) (Lib.hid D28e) _ rfl (Lib.hid D12c) (Lib.hid D28f)
  · obtain ⟨us, D30, D28c⟩ := hSP hP0
    exact alike8_10 P R _ z p ws1 ws us ws ts w rfl hs hp (Lib.hid K) D12a D12b D28a D28b hP0 _ rfl (Lib.hid D30) (Lib.hid D28c) hR0 _ rfl (Lib.hid D12c) (Lib.hid D28f)
  · obtain ⟨us, D30, D28c⟩ := hSP hP0
    obtain ⟨rs, D32, D28d, D28e⟩ := hSR hR0
    exact alike8_11 P R _ z p ws1 ws us rs ts w rfl hs hp (Lib.hid K) D12a D12b D28a D28b hP0 _ rfl (Lib.hid D30) (Lib.hid D28c) hR0 _ rfl _ rfl (Lib.hid D32) (Lib.hid D28d) (Lib.hid D28e) _ rfl (Lib.hid D12c) (Lib.hid D28f)
end Ytmgoonahpndfoaa
end Go.Proofs
