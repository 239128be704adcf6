/- The reference's Parse answers by the same plain function. -/
import Derived.Test.YtoebnjciioiccaaDoorCtE
import Derived.Test.YtoebnjciioiccaaDoorCtY
namespace Go.Proofs
namespace YtoebnjciioiccaaDoor
namespace Ct
open Go.RowKit

def eR (L : List UInt8) (k : Nat) : Int := (intF ((spl L).getD (2 * k + 1) []) 0 1000000).2
def xR (L : List UInt8) (k : Nat) : Int := (intF ((spl L).getD (2 * k + 1) []) 0 1000000).1
theorem intF_six (p : List UInt8) (lo hi : Int) : (intF p lo hi).2 = 6 ↔ decL p = false := by
  unfold intF
  cases h : decL p with
  | false => simp
  | true =>
    simp only [if_true]
    split <;> simp
theorem intF_zero (p : List UInt8) (lo hi : Int) (h : decL p = true) (h0 : -1000000 ≤ lo) (h1 : hi ≤ 1000000) : (intF p lo hi).2 = 0 ↔ lo ≤ intVal p ∧ intVal p ≤ hi := by
  unfold intF
  rw [if_pos h]
  by_cases hr : (-9223372036854775808 ≤ intVal p ∧ intVal p ≤ 9223372036854775807) ∧ lo ≤ intVal p ∧ intVal p ≤ hi
  · rw [if_pos hr]
    exact ⟨fun _ => hr.2, fun _ => rfl⟩
  · rw [if_neg hr]
    constructor
    · intro e; exact absurd e (by decide)
    · intro e; exact absurd ⟨by omega, e⟩ hr
theorem intF_val (p : List UInt8) (lo hi : Int) (h : (intF p lo hi).2 = 0) : (intF p lo hi).1 = intVal p := by
  unfold intF at h ⊢
  split
  · rename_i hd
    rw [if_pos hd] at h
    split
    · rfl
    · rename_i hr
      rw [if_neg hr] at h
      exact absurd h (by decide)
  · rename_i hd
    rw [if_neg hd] at h
    exact absurd h (by decide)
theorem eR_six (L : List UInt8) (k : Nat) : eR L k = 6 ↔ eOf L k = 6 := (intF_six _ _ _).trans (intF_six _ _ _).symm
theorem form_same (L : List UInt8) : formOk (wdOf L) (eR L) 5 ↔ formOk (wdOf L) (eOf L) 5 := by
  unfold formOk
  constructor
  · intro h j hj; exact ⟨(h j hj).1, fun e => (h j hj).2 ((eR_six L j).2 e)⟩
  · intro h j hj; exact ⟨(h j hj).1, fun e => (h j hj).2 ((eR_six L j).1 e)⟩
theorem dec_of_form {L : List UInt8} (h : formOk (wdOf L) (eOf L) 5) (j : Nat) (hj : j < 5) : decL ((spl L).getD (2 * j + 1) []) = true := by
  have h1 := (h j hj).2
  cases hd : decL ((spl L).getD (2 * j + 1) []) with
  | true => rfl
  | false => exact absurd ((intF_six _ _ _).2 hd) h1
theorem all5 {P : Nat → Prop} : (∀ j, j < 5 → P j) ↔ P 0 ∧ P 1 ∧ P 2 ∧ P 3 ∧ P 4 := by
  constructor
  · intro h; exact ⟨h 0 (by omega), h 1 (by omega), h 2 (by omega), h 3 (by omega), h 4 (by omega)⟩
  · rintro ⟨h0, h1, h2, h3, h4⟩ j hj
    match j, hj with
    | 0, _ => exact h0
    | 1, _ => exact h1
    | 2, _ => exact h2
    | 3, _ => exact h3
    | 4, _ => exact h4
theorem range_same {L : List UInt8} (h : formOk (wdOf L) (eOf L) 5) :
    ((∀ j, j < 5 → eR L j = 0) ∧ good (xR L 1) (xR L 0) (xR L 2) (xR L 3) (xR L 4)) ↔ ∀ j, j < 5 → eOf L j = 0 := by
  have D := dec_of_form h
  have a : ∀ j, j < 5 → (eOf L j = 0 ↔ limLow j ≤ intVal ((spl L).getD (2 * j + 1) []) ∧ intVal ((spl L).getD (2 * j + 1) []) ≤ limHigh j) := fun j hj =>
    intF_zero _ _ _ (D j hj) (by unfold limLow; split <;> decide) (by unfold limHigh; split <;> decide)
  have b : ∀ j, j < 5 → (eR L j = 0 ↔ 0 ≤ intVal ((spl L).getD (2 * j + 1) []) ∧ intVal ((spl L).getD (2 * j + 1) []) ≤ 1000000) := fun j hj =>
    intF_zero _ _ _ (D j hj) (by decide) (by decide)
  have v : ∀ j, eR L j = 0 → xR L j = intVal ((spl L).getD (2 * j + 1) []) := fun j hj => intF_val _ _ _ hj
  rw [all5, all5]
  have a0 := a 0 (by omega)
  have a1 := a 1 (by omega)
  have a2 := a 2 (by omega)
  have a3 := a 3 (by omega)
  have a4 := a 4 (by omega)
  have b0 := b 0 (by omega)
  have b1 := b 1 (by omega)
  have b2 := b 2 (by omega)
  have b3 := b 3 (by omega)
  have b4 := b 4 (by omega)
  have v0 := v 0
  have v1 := v 1
  have v2 := v 2
  have v3 := v 3
  have v4 := v 4
  simp only [limLow, limHigh] at a0 a1 a2 a3 a4
  generalize intVal ((spl L).getD (2 * 0 + 1) []) = i0 at *
  generalize intVal ((spl L).getD (2 * 1 + 1) []) = i1 at *
  generalize intVal ((spl L).getD (2 * 2 + 1) []) = i2 at *
  generalize intVal ((spl L).getD (2 * 3 + 1) []) = i3 at *
  generalize intVal ((spl L).getD (2 * 4 + 1) []) = i4 at *
  constructor
  · rintro ⟨⟨z0, z1, z2, z3, z4⟩, hg⟩
    rw [v0 z0, v1 z1, v2 z2, v3 z3, v4 z4] at hg
    unfold good at hg
    exact ⟨a0.2 (by omega), a1.2 (by omega), a2.2 (by omega), a3.2 (by omega), a4.2 (by omega)⟩
  · rintro ⟨z0, z1, z2, z3, z4⟩
    have y0 := a0.1 z0
    have y1 := a1.1 z1
    have y2 := a2.1 z2
    have y3 := a3.1 z3
    have y4 := a4.1 z4
    have w0 := b0.2 (by omega)
    have w1 := b1.2 (by omega)
    have w2 := b2.2 (by omega)
    have w3 := b3.2 (by omega)
    have w4 := b4.2 (by omega)
    refine ⟨⟨w0, w1, w2, w3, w4⟩, ?_⟩
    rw [v0 w0, v1 w1, v2 w2, v3 w3, v4 w4]
    unfold good
    omega
theorem val_same {L : List UInt8} (h1 : ∀ j, j < 5 → eR L j = 0) (h2 : ∀ j, j < 5 → eOf L j = 0) : valL (xR L) 5 = valL (xOf L) 5 := by
  have e : ∀ j, j < 5 → xR L j = xOf L j := fun j hj => (intF_val _ _ _ (h1 j hj)).trans (intF_val _ _ _ (h2 j hj)).symm
  simp only [valL]
  rw [e 0 (by omega), e 1 (by omega), e 2 (by omega), e 3 (by omega), e 4 (by omega)]
theorem wName_lim (k : Nat) : wName k = limName k := by
  match k with
  | 0 | 1 | 2 | 3 | _ + 4 => rfl
theorem parse35 (s : ByteArray) (w : World) (hs : s.size ≤ 1000) :
    Calls Tryd.prog 35 #[.string s] w fun e w' => e = .returned (ansV (pC s.data.toList) (pE s.data.toList)) ∧ Below w.heap.size w w' := by
  have hsz : s.size = s.data.toList.length := by simp
  refine (rparse35 s w hs (qOf s.data.toList) (fun j => by simp [qOf]) (xR s.data.toList) (eR s.data.toList) (wdOf s.data.toList) (Lib.hid ?_) (Lib.hid ?_)).mono ?_
  · intro k _ W
    have hq := qOf_size s.data.toList (2 * k + 1)
    exact rint14 (qOf s.data.toList (2 * k + 1)) 0 1000000 W (by omega)
  · intro k _
    rw [wName_lim]
    rfl
  · rintro e w' ⟨r, rfl, hr, hb⟩
    refine ⟨?_, hb⟩
    rcases hr with ⟨hl, rfl⟩ | ⟨hl, hr⟩
    · rw [ans_form (L := s.data.toList) (fun h => hl h.1)]
    · rcases hr with ⟨h1, rfl⟩ | ⟨h1, h2, rfl⟩ | ⟨h1, h2, rfl⟩
      · rw [ans_form (L := s.data.toList) (fun h => h1 ((form_same _).2 h.2))]
      · have hf := (form_same _).1 h1
        have h0 := (range_same hf).1 h2
        rw [val_same h2.1 h0, ans_ok (L := s.data.toList) ⟨hl, hf⟩ h0]
      · have hf := (form_same _).1 h1
        rw [ans_range (L := s.data.toList) ⟨hl, hf⟩ (fun h0 => h2 ((range_same hf).2 h0))]
end Ct
end YtoebnjciioiccaaDoor
end Go.Proofs
