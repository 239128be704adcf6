/- What Parse answers, as a plain function of the text; the program's Parse answers so. -/
import Derived.Test.YtoebnjciioiccaaDoorCtF
import Derived.Test.YtoebnjciioiccaaDoorCtV
namespace Go.Proofs
namespace YtoebnjciioiccaaDoor
namespace Ct
open Go.RowKit

def qOf (L : List UInt8) (j : Nat) : ByteArray := ⟨((spl L).getD j []).toArray⟩
def wdOf (L : List UInt8) (k : Nat) : Bool := (qOf L (2 * k)).toList == (limName k).toList
def eOf (L : List UInt8) (k : Nat) : Int := (intF ((spl L).getD (2 * k + 1) []) (limLow k) (limHigh k)).2
def xOf (L : List UInt8) (k : Nat) : Int := (intF ((spl L).getD (2 * k + 1) []) (limLow k) (limHigh k)).1
/-- the form of the text is right -/
def formG (L : List UInt8) : Prop := (spl L).length = 10 ∧ formOk (wdOf L) (eOf L) 5
open Classical in
noncomputable def pE (L : List UInt8) : Int := if formG L then (if ∀ j, j < 5 → eOf L j = 0 then 0 else 7) else 6
open Classical in
noncomputable def pC (L : List UInt8) : List Int := if pE L = 0 then valL (xOf L) 5 else [0, 0, 0, 0, 0]
theorem pE_ok {L : List UInt8} (h : formG L) (h2 : ∀ j, j < 5 → eOf L j = 0) : pE L = 0 := by unfold pE; rw [if_pos h, if_pos h2]
theorem pE_range {L : List UInt8} (h : formG L) (h2 : ¬ ∀ j, j < 5 → eOf L j = 0) : pE L = 7 := by unfold pE; rw [if_pos h, if_neg h2]
theorem pE_form {L : List UInt8} (h : ¬ formG L) : pE L = 6 := by unfold pE; rw [if_neg h]
theorem ans_ok {L : List UInt8} (h : formG L) (h2 : ∀ j, j < 5 → eOf L j = 0) : ansV (valL (xOf L) 5) 0 = ansV (pC L) (pE L) := by
  have e := pE_ok h h2
  unfold pC
  rw [if_pos e, e]
theorem ans_range {L : List UInt8} (h : formG L) (h2 : ¬ ∀ j, j < 5 → eOf L j = 0) : ansV [0, 0, 0, 0, 0] 7 = ansV (pC L) (pE L) := by
  have e := pE_range h h2
  unfold pC
  rw [if_neg (by rw [e]; decide), e]
theorem ans_form {L : List UInt8} (h : ¬ formG L) : ansV [0, 0, 0, 0, 0] 6 = ansV (pC L) (pE L) := by
  have e := pE_form h
  unfold pC
  rw [if_neg (by rw [e]; decide), e]
theorem cells_get (P : List ByteArray) (N j : Nat) (hj : j < P.length) : (Lib.cellsOf P N)[j]? = some (.string P[j]) := by
  unfold Lib.cellsOf
  simp [List.getElem?_append, hj]
theorem spl_part_le (L : List UInt8) : ∀ p ∈ spl L, p.length ≤ L.length := by
  induction L with
  | nil => intro p hp; simp [spl] at hp; subst hp; simp
  | cons c r ih =>
    intro p hp
    by_cases h : c = 32
    · subst h
      rw [spl_sp] at hp
      rcases List.mem_cons.1 hp with rfl | hp
      · simp
      · have := ih p hp; simp only [List.length_cons]; omega
    · obtain ⟨a, ar, h1, h2⟩ := spl_cons (r := r) h
      rw [h2] at hp
      rcases List.mem_cons.1 hp with rfl | hp
      · have := ih a (by rw [h1]; simp); simp only [List.length_cons]; omega
      · have := ih p (by rw [h1]; simp [hp]); simp only [List.length_cons]; omega
theorem qOf_size (L : List UInt8) (j : Nat) : (qOf L j).size ≤ L.length := by
  have e : (qOf L j).size = ((spl L).getD j []).length := by simp [qOf, ByteArray.size]
  rw [e, List.getD_eq_getElem?_getD]
  cases h : (spl L)[j]? with
  | none => simp
  | some p => exact spl_part_le L p (List.mem_of_getElem? h)
theorem ba_list (s : ByteArray) : (⟨s.data.toList.toArray⟩ : ByteArray) = s := by cases s; simp

theorem parse34 (s : ByteArray) (w : World) (hm : Laid w) (hs : s.size ≤ 1000) :
    Calls Tryd.prog 34 #[.string s] w fun e w' => e = .returned (ansV (pC s.data.toList) (pE s.data.toList)) ∧ Below w.heap.size w w' := by
  have hdata := Lib.splitB_data ⟨#[32]⟩ 0 (min 11 (s.size + 1) - 1) s
  have hsz : s.size = s.data.toList.length := by simp
  have e32 : (⟨#[32]⟩ : ByteArray).data.toList = [32] := rfl
  rw [e32, show (min 11 (s.size + 1) - 1) = (min 11 (s.data.toList.length + 1) - 1) by rw [← hsz]] at hdata
  have hlen := congrArg List.length hdata
  rw [List.length_map] at hlen
  have h10 := split_ten s.data.toList
  rw [← hlen] at h10
  have HS : ∀ W : World, Laid W → Calls Tryd.prog 46 #[.string s, .string ⟨#[32]⟩, .int .i64 11] W fun e w' =>
      e = .returned (.slice (some ⟨W.heap.size, 0, none⟩) (Lib.splitB ⟨#[32]⟩ 0 (min 11 (s.data.toList.length + 1) - 1) s).length (min 11 (s.size + 1))) ∧ w' = W.alloc (.cells (Lib.cellsOf (Lib.splitB ⟨#[32]⟩ 0 (min 11 (s.data.toList.length + 1) - 1) s) (min 11 (s.size + 1))) 9) := fun W hL => by
    obtain ⟨m, hmx⟩ := hL.mx
    have := split46 s m W (by omega) hmx
    rwa [show (min 11 (s.size + 1) - 1) = (min 11 (s.data.toList.length + 1) - 1) by rw [← hsz]] at this
  by_cases hl : (spl s.data.toList).length = 10
  · have hl' := h10.2 hl
    rw [hl'] at HS
    have hsame := split_same s.data.toList hl
    have hcs : ∀ j, j < 10 → (Lib.cellsOf (Lib.splitB ⟨#[32]⟩ 0 (min 11 (s.data.toList.length + 1) - 1) s) (min 11 (s.size + 1)))[j]? = some (.string (qOf s.data.toList j)) := fun j hj => by
      have hj' : j < (Lib.splitB ⟨#[32]⟩ 0 (min 11 (s.data.toList.length + 1) - 1) s).length := by omega
      have e1 : (Lib.splitB ⟨#[32]⟩ 0 (min 11 (s.data.toList.length + 1) - 1) s)[j] = qOf s.data.toList j := by
        have e2 := congrArg (fun l => l.getD j []) (hdata.trans hsame)
        simp only [List.getD_eq_getElem?_getD, List.getElem?_map, List.getElem?_eq_getElem hj', Option.map_some, Option.getD_some] at e2
        unfold qOf
        rw [List.getD_eq_getElem?_getD, ← e2]
      rw [cells_get _ _ _ hj', e1]
    have hqs : ∀ j, (qOf s.data.toList j).size ≤ 1000000 := fun j => by
      have := qOf_size s.data.toList j
      omega
    refine (parse34_ten s w hm (qOf s.data.toList) (xOf s.data.toList) (eOf s.data.toList) (wdOf s.data.toList) _ _ hcs (Lib.hid HS) (Lib.hid ?_) (Lib.hid fun k _ => rfl)).mono ?_
    · intro k _ W hL
      exact int13 (qOf s.data.toList (2 * k + 1)) (limLow k) (limHigh k) W hL (hqs _)
    · rintro e w' ⟨r, rfl, hr, hb⟩
      refine ⟨?_, hb⟩
      rcases hr with ⟨h1, rfl⟩ | ⟨h1, h2, rfl⟩ | ⟨h1, h2, rfl⟩
      · rw [ans_form (L := s.data.toList) (fun h => h1 h.2)]
      · rw [ans_ok (L := s.data.toList) ⟨hl, h1⟩ h2]
      · rw [ans_range (L := s.data.toList) ⟨hl, h1⟩ h2]
  · refine (parse34_no s w hm _ (fun h => hl (h10.1 h)) _ _ (Lib.hid HS)).mono ?_
    rintro e w' ⟨rfl, hb⟩
    refine ⟨?_, hb⟩
    rw [ans_form (L := s.data.toList) (fun h => hl h.1)]
end Ct
end YtoebnjciioiccaaDoor
end Go.Proofs
