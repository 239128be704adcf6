/- Int, the program's. -/
import Derived.Test.YtoebnjciioiccaaDoorCtR
import Derived.Test.YtoebnjciioiccaaDoorShelf
import Derived.Lib.AppendIntMem
import Derived.Lib.AtoiErrMem
namespace Go.Proofs
namespace YtoebnjciioiccaaDoor
namespace Ct
open Go.RowKit

/-- what the laid variables hold, as far as Parse looks -/
structure Laid (w : World) : Prop where
  rng : ∃ tp p, w.var? Tryd.prog "strconv.ErrRange" = some #[.iface tp p]
  mx : ∃ m, w.cell? ⟨1, 0, none⟩ = some (.int .i64 m)


theorem var_self {P : Program} {w w' : World} {n : String} {cs : Array Value} (hb : Below w.heap.size w w') (h : w.var? P n = some cs) : w'.var? P n = some cs := by
  have T := Lib.hid h
  unfold World.var? at *
  cases hg : P.globalNamed n with
  | none => simp [hg] at h
  | some gg =>
    simp only [hg] at h ⊢
    by_cases hl : gg < w.heap.size
    · have e := hb.block gg hl
      simp_all
    · have : w.heap[gg]? = none := Array.getElem?_eq_none (by omega)
      simp_all
theorem trim36 (s : ByteArray) (w : World) : Calls Tryd.prog 60 #[.string s, .string ⟨#[45]⟩] w fun e w' => e = .returned (.string ⟨(unsign s.data.toList).toArray⟩) ∧ w = w' :=
  (Tryd.strings_TrimPrefix s ⟨#[45]⟩ w).mono fun e w' h => by
    obtain ⟨rfl, rfl⟩ := h
    exact ⟨by rw [← trim_minus], rfl⟩
theorem nat35L (l : List UInt8) (w : World) (hs : l.length ≤ maxLen) : Calls Tryd.prog 59 #[.string ⟨l.toArray⟩] w fun e w' => e = .returned (.bool (natL l)) ∧ w = w' :=
  nat35 ⟨l.toArray⟩ w (by simpa [ByteArray.size] using hs)
set_option maxRecDepth 100000 in
theorem int13_form (s : ByteArray) (lo hi : Int) (w : World) (hs : s.size ≤ 1000000) (hd : decL s.data.toList = false) :
    Calls Tryd.prog 47 #[.string s, .int .i64 lo, .int .i64 hi] w fun e w' => e = .returned (intV (intF s.data.toList lo hi)) ∧ w = w' := by
  have hl := Lib.hid (show s.data.toList.length = s.size by simp)
  have T := Lib.hid (show intF s.data.toList lo hi = (0, 6) by simp [intF, hd])
  by_cases h0 : s.data.toList = [45, 48]
  · have q : s.toList = [45, 48] := by rw [ByteArray.toList_eq, h0]
    have Q := Lib.hid q
    have q2 : (s.toList == [45, 48]) = true := by rw [Q.out]; rfl
    clear h0 q hd
    go_enter Tryd.func47, Tryd.ntmps47
    go_wp2
    go_ret2
    exact ⟨by rw [T.out]; rfl, rfl⟩
  · have hn : natL (unsign s.data.toList) = false := by
      simp only [decL, Bool.and_eq_false_iff] at hd
      rcases hd with hd | hd
      · exact hd
      · simp at hd; exact absurd hd h0
    have q2 : (s.toList == [45, 48]) = false := by rw [ByteArray.toList_eq]; simp [h0]
    have H := Lib.hid hn
    clear h0 hd hn
    have hle : (unsign s.data.toList).length ≤ maxLen := by have := unsign_le s.data.toList; rw [hl.out] at this; unfold maxLen; omega
    have HL := Lib.hid hle
    clear hle
    go_enter Tryd.func47, Tryd.ntmps47
    go_wp2_with (first | (go_at_call 60; refine (trim36 _ _).mono ?_; rintro e w' ⟨rfl, rfl⟩) | (go_at_call 59; refine (nat35L _ _ HL.out).mono ?_; rintro e w' ⟨rfl, rfl⟩; rw [H.out]))
    go_ret2
    exact ⟨by rw [T.out]; rfl, rfl⟩
theorem parse_ok (s : ByteArray) (hs : s.size ≤ 1000000) (v : Int) (h : Lib.parseIntB 64 s.data.toList = .ok v) (w : World) :
    Calls Tryd.prog 61 #[.string s, .int .i64 10, .int .i64 64] w fun e w' => e = .returned (.tuple #[.int .i64 v, .nilIface]) ∧ Below w.heap.size w w' :=
  (Tryd.strconv_ParseInt_10_at64_ok s (by omega) v h w).mono fun e w' hh => by
    obtain ⟨rfl, rfl | ⟨t, rfl⟩⟩ := hh
    · exact ⟨rfl, Below.refl _ _⟩
    · exact ⟨rfl, Lib.bytesWorld_below w 5 t⟩
theorem parse_range (s : ByteArray) (hs : s.size ≤ 1000000) (h : Lib.parseIntB 64 s.data.toList = .range) (w : World) (hL : Laid w) :
    Calls Tryd.prog 61 #[.string s, .int .i64 10, .int .i64 64] w fun e w' => ∃ (N : Nat) (z : Int), e = .returned (.tuple #[.int .i64 z, .iface 105 (.pointer (some ⟨N, 0, none⟩))]) ∧ Below w.heap.size w w' := by
  obtain ⟨tp, p, hv⟩ := hL.rng
  refine (Tryd.strconv_ParseInt_10_at64_range_var s (by omega) h tp p w hv).mono fun e w' hh => ?_
  obtain ⟨N, rfl, _, _, hb⟩ := hh
  exact ⟨N, _, rfl, hb⟩
set_option maxRecDepth 100000 in
theorem int13_dec (s : ByteArray) (lo hi : Int) (w : World) (hL : Laid w) (hs : s.size ≤ 1000000) (hd : decL s.data.toList = true) :
    Calls Tryd.prog 47 #[.string s, .int .i64 lo, .int .i64 hi] w fun e w' => e = .returned (intV (intF s.data.toList lo hi)) ∧ Below w.heap.size w w' := by
  obtain ⟨hn, h0⟩ := decL_parts hd
  have hl := Lib.hid (show s.data.toList.length = s.size by simp)
  have q2 : (s.toList == [45, 48]) = false := by rw [ByteArray.toList_eq]; simp [h0]
  have HL := Lib.hid (show (unsign s.data.toList).length ≤ maxLen by have := unsign_le s.data.toList; rw [hl.out] at this; unfold maxLen; omega)
  have P := parse_dec _ hn
  have HW := Lib.hid hL
  have H := Lib.hid hn
  clear hL h0 hn
  by_cases hr : -9223372036854775808 ≤ intVal s.data.toList ∧ intVal s.data.toList ≤ 9223372036854775807
  · rw [if_pos hr] at P
    have HP := Lib.hid P
    clear P
    by_cases h1 : lo ≤ intVal s.data.toList ∧ intVal s.data.toList ≤ hi
    · have T := Lib.hid (show intF s.data.toList lo hi = (intVal s.data.toList, 0) by unfold intF; rw [if_pos hd, if_pos ⟨hr, h1⟩])
      clear hd hr
      obtain ⟨ha, hb⟩ := h1
      have q3 : decide (intVal s.data.toList < lo) = false := by simp; omega
      have q4 : decide (hi < intVal s.data.toList) = false := by simp; omega
      go_enter Tryd.func47, Tryd.ntmps47
      go_wp2_with (first | (go_at_call 60; refine (trim36 _ _).mono ?_; rintro e w' ⟨rfl, rfl⟩) | (go_at_call 59; refine (nat35L _ _ HL.out).mono ?_; rintro e w' ⟨rfl, rfl⟩; rw [H.out]) | (go_at_call 61; refine (parse_ok _ hs _ HP.out _).mono ?_; rintro e w1 ⟨rfl, hb1⟩))
      go_ret2
      exact ⟨by rw [T.out]; rfl, hb1⟩
    · have T := Lib.hid (show intF s.data.toList lo hi = (0, 7) by unfold intF; rw [if_pos hd, if_neg (fun h => h1 h.2)])
      clear hd hr
      by_cases ha : lo ≤ intVal s.data.toList
      · have hb : ¬ intVal s.data.toList ≤ hi := fun h => h1 ⟨ha, h⟩
        clear h1
        have q3 : decide (intVal s.data.toList < lo) = false := by simp; omega
        have q4 : decide (hi < intVal s.data.toList) = true := by simp; omega
        go_enter Tryd.func47, Tryd.ntmps47
        go_wp2_with (first | (go_at_call 60; refine (trim36 _ _).mono ?_; rintro e w' ⟨rfl, rfl⟩) | (go_at_call 59; refine (nat35L _ _ HL.out).mono ?_; rintro e w' ⟨rfl, rfl⟩; rw [H.out]) | (go_at_call 61; refine (parse_ok _ hs _ HP.out _).mono ?_; rintro e w1 ⟨rfl, hb1⟩))
        go_ret2
        exact ⟨by rw [T.out]; rfl, hb1⟩
      · clear h1
        have q3 : decide (intVal s.data.toList < lo) = true := by simp; omega
        go_enter Tryd.func47, Tryd.ntmps47
        go_wp2_with (first | (go_at_call 60; refine (trim36 _ _).mono ?_; rintro e w' ⟨rfl, rfl⟩) | (go_at_call 59; refine (nat35L _ _ HL.out).mono ?_; rintro e w' ⟨rfl, rfl⟩; rw [H.out]) | (go_at_call 61; refine (parse_ok _ hs _ HP.out _).mono ?_; rintro e w1 ⟨rfl, hb1⟩))
        go_ret2
        exact ⟨by rw [T.out]; rfl, hb1⟩
  · rw [if_neg hr] at P
    have HP := Lib.hid P
    clear P
    have T := Lib.hid (show intF s.data.toList lo hi = (0, 7) by unfold intF; rw [if_pos hd, if_neg (fun h => hr h.1)])
    clear hd hr
    go_enter Tryd.func47, Tryd.ntmps47
    go_wp2_with (first | (go_at_call 60; refine (trim36 _ _).mono ?_; rintro e w' ⟨rfl, rfl⟩) | (go_at_call 59; refine (nat35L _ _ HL.out).mono ?_; rintro e w' ⟨rfl, rfl⟩; rw [H.out]) | (go_at_call 61; refine (parse_range _ hs HP.out _ HW.out).mono ?_; rintro e w1 ⟨N, z, rfl, hb1⟩))
    go_ret2
    exact ⟨by rw [T.out]; rfl, hb1⟩
theorem int13 (s : ByteArray) (lo hi : Int) (w : World) (hL : Laid w) (hs : s.size ≤ 1000000) :
    Calls Tryd.prog 47 #[.string s, .int .i64 lo, .int .i64 hi] w fun e w' => e = .returned (intV (intF s.data.toList lo hi)) ∧ Below w.heap.size w w' := by
  cases hd : decL s.data.toList with
  | false => exact (int13_form s lo hi w hs hd).mono fun e w' h => ⟨h.1, by rw [← h.2]; exact Below.refl _ _⟩
  | true => exact int13_dec s lo hi w hL hs hd
end Ct
end YtoebnjciioiccaaDoor
end Go.Proofs
