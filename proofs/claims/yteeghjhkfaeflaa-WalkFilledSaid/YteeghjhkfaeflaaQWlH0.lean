/- What Fill makes, as plain facts. -/
import Derived.Test.YteeghjhkfaeflaaQWlG
namespace Go.Proofs
namespace Yteeghjhkfaeflaa
open Go.RowKit

/-- the arena in which objects of these shapes are made -/
def filW (ws : List Int) (f : Int) : List (Int × Int) → List Int
  | [] => ws
  | p :: l => filW (makF ws f p.1 p.2).1 (f + (1 + p.1 + p.2)) l
def filF (ws : List Int) (f t : Int) (l : List (Int × Int)) : (List Int × Int) × Int :=
  if strF ws f t ≠ 0 then (([], 0), strF ws f t) else if shpE l ≠ 0 then (([], 0), shpE l) else if t < endF f l then (([], 0), 5) else ((filW ws f l, endF f l), 0)
theorem fil_snoc : ∀ (l : List (Int × Int)) (ws : List Int) (f : Int) (p : Int × Int), filW ws f (l ++ [p]) = (makF (filW ws f l) (endF f l) p.1 p.2).1
  | [], _, _, _ => rfl
  | q :: l, ws, f, p => by rw [List.cons_append, filW, fil_snoc l, filW, endF]
theorem end_app : ∀ (l r : List (Int × Int)) (f : Int), endF f (l ++ r) = endF (endF f l) r
  | [], _, _ => rfl
  | q :: l, r, f => by rw [List.cons_append, endF, end_app l, endF]
theorem end_ge : ∀ (l : List (Int × Int)) (f : Int), shpE l = 0 → f ≤ endF f l
  | [], f, _ => Int.le_refl _
  | p :: l, f, h => by
    have hp := Hd.chk_zero.1 (shp_all h p (by simp))
    have hl : shpE l = 0 := by
      rw [shpE] at h
      split at h
      · rename_i hh; exact absurd h hh
      · exact h
    have := end_ge l (f + (1 + p.1 + p.2)) hl
    rw [endF]
    omega
theorem shp_part {l r : List (Int × Int)} (h : shpE (l ++ r) = 0) : shpE l = 0 ∧ shpE r = 0 := by
  rw [shp_app] at h
  by_cases hl : shpE l = 0
  · rw [if_neg (by simp [hl])] at h; exact ⟨hl, h⟩
  · rw [if_pos hl] at h; exact absurd h hl
theorem end_upto {l : List (Int × Int)} {f : Int} (h : shpE l = 0) (j : Nat) : f ≤ endF f (l.take j) ∧ endF f (l.take j) ≤ endF f l := by
  rw [← List.take_append_drop j l] at h
  obtain ⟨h1, h2⟩ := shp_part h
  refine ⟨end_ge _ _ h1, ?_⟩
  conv => rhs; rw [← List.take_append_drop j l, end_app]
  exact end_ge _ _ h2
/-- one object made -/
theorem mak_step {ws : List Int} {a P R : Int} (hc : chkF ws = 0) (hu : ∀ z ∈ ws, Hd.UI z) (hs : Hd.chkV P R = 0) (h1 : 1 ≤ a) (h2 : a + (1 + P + R) ≤ ws.length) :
    (makF ws a P R).2 = 0 ∧ (makF ws a P R).1.length = ws.length ∧ chkF (makF ws a P R).1 = 0 ∧ ∀ z ∈ (makF ws a P R).1, Hd.UI z := by
  obtain ⟨z0, z1, z2⟩ := Hd.chk_zero.1 hs
  obtain ⟨k, rfl⟩ : ∃ k : Nat, a = k := ⟨a.toNat, by omega⟩
  obtain ⟨p, rfl⟩ : ∃ p : Nat, P = p := ⟨P.toNat, by omega⟩
  obtain ⟨r, rfl⟩ : ∃ r : Nat, R = r := ⟨R.toNat, by omega⟩
  rw [mak_is hc (by omega) (by omega) (by omega)]
  refine ⟨rfl, mkL_length _ (by omega), mkL_chk _ hc (by omega) (by omega), mkL_ui hu _ _ ?_⟩
  unfold Hd.UI Hd.packV
  omega
/-- the arena while it is filled -/
theorem fil_upto {ws : List Int} {f t : Int} {l : List (Int × Int)} (hu : ∀ z ∈ ws, Hd.UI z) (hs : strF ws f t = 0) (h : shpE l = 0) (ht : endF f l ≤ t) : ∀ (j : Nat), j ≤ l.length →
    (filW ws f (l.take j)).length = ws.length ∧ chkF (filW ws f (l.take j)) = 0 ∧ ∀ z ∈ filW ws f (l.take j), Hd.UI z
  | 0, _ => ⟨rfl, (str_ok hs).1, hu⟩
  | j + 1, hj => by
    obtain ⟨i1, i2, i3⟩ := fil_upto hu hs h ht j (by omega)
    have hjl : j < l.length := by omega
    have e : l.take (j + 1) = l.take j ++ [l[j]] := by rw [List.take_add_one, List.getElem?_eq_getElem hjl]; rfl
    have e1 := (end_upto (f := f) h (j + 1)).2
    have e2 := (end_upto (f := f) h j).1
    rw [e, end_snoc] at e1
    obtain ⟨-, s1, s2, s3, -⟩ := str_ok hs
    rw [e, fil_snoc]
    obtain ⟨m1, m2, m3, m4⟩ := mak_step (a := endF f (l.take j)) i2 i3 (shp_all h l[j] (List.getElem_mem hjl)) (by omega) (by rw [i1]; omega)
    exact ⟨m2.trans i1, m3, m4⟩
theorem plc_get : ∀ (l : List (Int × Int)) (f : Int) (j : Nat), j < l.length → (plcF f l).getD j 0 = endF f (l.take j)
  | [], _, _, h => by simp at h
  | p :: l, f, 0, _ => by simp [plcF, endF]
  | p :: l, f, j + 1, h => by
    rw [plcF, List.take_succ_cons, endF, ← plc_get l _ j (by simpa using h)]
    simp [List.getD_eq_getElem?_getD]
end Yteeghjhkfaeflaa
end Go.Proofs
