/- The reference's Unquote, and the law WordsQuotes. -/
import Derived.Test.YtkhggnfhhafkjaaDoorRQuo
import Derived.Test.YtkhggnfhhafkjaaDoorNames
namespace Go.Proofs
namespace YtkhggnfhhafkjaaDoor
open Go.RowKit

theorem runq20 (s : ByteArray) (w : World) (hs : s.size ≤ 1000000) :
    Calls Tryd.prog 20 #[.string s] w fun e w' => e = .returned (unqV (unqL s.data.toList)) ∧ Below w.heap.size w w' := by
  have hl := Lib.hid (show s.data.toList.length = s.size by simp)
  cases ht : takeQL s.data.toList with
  | none =>
    have T := Lib.hid (show unqL s.data.toList = none by unfold unqL; rw [ht])
    have Ht := Lib.hid ht
    clear ht
    go_enter Tryd.func20, Tryd.ntmps20
    go_wp2_with (go_at_call 45; refine (rtake45 s _ hs).mono ?_; rintro e w' ⟨rfl, hb⟩; rw [Ht.out]; unfold quoV)
    go_ret2
    exact ⟨by rw [T.out]; rfl, hb⟩
  | some p =>
    obtain ⟨t, n⟩ := p
    have Ht := Lib.hid ht
    obtain ⟨hn, hle, _⟩ := takeQL_bound ht
    rw [hl.out] at hle
    by_cases hlt : n < s.size
    · have T := Lib.hid (show unqL s.data.toList = none by unfold unqL; rw [ht]; simp only; rw [hl.out, if_pos hlt])
      have q : ((n : Int) != (s.size : Int)) = true := by simp; omega
      have q2 : ((n : Int) == 0) = false := beq_eq_false_iff_ne.2 (by omega)
      clear ht
      go_enter Tryd.func20, Tryd.ntmps20
      go_wp2_with (go_at_call 45; refine (rtake45 s _ hs).mono ?_; rintro e w' ⟨rfl, hb⟩; rw [Ht.out]; unfold quoV)
      go_ret2
      exact ⟨by rw [T.out]; rfl, hb⟩
    · have T := Lib.hid (show unqL s.data.toList = some t by unfold unqL; rw [ht]; simp only; rw [hl.out, if_neg hlt])
      have q : ((n : Int) != (s.size : Int)) = false := by simp; omega
      have q2 : ((n : Int) == 0) = false := beq_eq_false_iff_ne.2 (by omega)
      clear ht
      go_enter Tryd.func20, Tryd.ntmps20
      go_wp2_with (go_at_call 45; refine (rtake45 s _ hs).mono ?_; rintro e w' ⟨rfl, hb⟩; rw [Ht.out]; unfold quoV)
      go_ret2
      exact ⟨by rw [T.out]; rfl, hb⟩

theorem unqV_tuple (o : Option (List UInt8)) : ∃ (t : ByteArray) (n : Int), unqV o = .tuple #[.string t, .int .i64 n] := by
  cases o with
  | none => exact ⟨_, _, rfl⟩
  | some t => exact ⟨_, _, rfl⟩

set_option maxRecDepth 100000 in
theorem quotes4_long (s : ByteArray) (hs : 1000 < s.size) (w : World) (hL : Laid w) :
    Calls Tryd.prog 4 #[.string s] w fun e w' => e = .returned (.bool true) ∧ Below w.heap.size w w' := by
  have HL := Lib.hid hL
  clear hL
  have q : decide ((1000 : Int) < (s.size : Int)) = true := by simp; omega
  go_enter Tryd.func4, Tryd.ntmps4
  go_wp2_with (go_at_call 12; refine (shown12 _ HL.out).mono ?_; rintro e w1 ⟨rfl, hB1⟩)
  exact bodyPost_ret (v := .bool true) (by simp [results, Tryd.f4, go_sem]) rfl ⟨rfl, hB1⟩

set_option maxRecDepth 100000 in
set_option maxHeartbeats 4000000 in
theorem quotes4_short (s : ByteArray) (hs : s.size ≤ 1000) (w : World) (hL : Laid w) :
    Calls Tryd.prog 4 #[.string s] w fun e w' => e = .returned (.bool true) ∧ Below w.heap.size w w' := by
  obtain ⟨t, n, hV⟩ := unqV_tuple (unqL s.data.toList)
  have HV := Lib.hid hV
  have HL := Lib.hid hL
  clear hL hV
  have q : decide ((1000 : Int) < (s.size : Int)) = false := by simp; omega
  go_enter Tryd.func4, Tryd.ntmps4
  go_wp2_with (first
    | (go_at_call 19; refine (unq19 s _ HL.out.esc (by omega)).mono ?_; rintro e w1 ⟨rfl, hB1⟩; rw [HV.out])
    | (go_at_call 20; refine (runq20 s _ (by omega)).mono ?_; rintro e w2 ⟨rfl, hb⟩; rw [HV.out]; have hB2 := hB1.trans (hb.mono hB1.size); clear hb)
    | (go_at_call 21; refine (quote21 s _ (HL.out.self hB2).esc (by omega)).mono ?_; rintro e w3 ⟨rfl, hb⟩; have hB3 := hB2.trans (hb.mono hB2.size); clear hb)
    | (go_at_call 22; refine (rquote22 s _ (by omega)).mono ?_; rintro e w4 ⟨rfl, hb⟩; have hB4 := hB3.trans (hb.mono hB3.size); clear hb)
    | (go_at_call 12; refine (shown12w w _ HL (by assumption)).mono ?_; rintro e w6 ⟨rfl, hB6⟩))
  exact bodyPost_ret (v := .bool true) (by simp [results, Tryd.f4, go_sem]) rfl ⟨rfl, hB6⟩

/-- WordsQuotes answers true -/
theorem quotes4 (s : ByteArray) (w : World) (hL : Laid w) :
    Calls Tryd.prog 4 #[.string s] w fun e w' => e = .returned (.bool true) ∧ Below w.heap.size w w' := by
  by_cases hs : s.size ≤ 1000
  · exact quotes4_short s hs w hL
  · exact quotes4_long s (by omega) w hL
end YtkhggnfhhafkjaaDoor
end Go.Proofs
