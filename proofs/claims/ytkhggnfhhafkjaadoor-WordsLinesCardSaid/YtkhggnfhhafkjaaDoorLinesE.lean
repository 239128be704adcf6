/- words.Lines answers its error at a text that is too long, has no newline at its end, or has too many lines. -/
import Derived.Test.YtkhggnfhhafkjaaDoorLinesN
import Derived.Test.YtkhggnfhhafkjaaDoorShelfL
namespace Go.Proofs
namespace YtkhggnfhhafkjaaDoor
open Go.RowKit

set_option maxRecDepth 100000 in
theorem lines52_long (s : ByteArray) (w : World) (h : 1048576 < s.size) :
    Calls Tryd.prog 52 #[.string s] w fun e w' => ∃ v, e = .returned (.tuple #[v, .int .i64 (linesF s.data.toList).2]) ∧ SAt w' v (linesF s.data.toList).1 ∧ Below w.heap.size w w' := by
  have q : decide ((1048576 : Int) < (s.size : Int)) = true := decide_eq_true (by omega)
  have F := Lib.hid (show linesF s.data.toList = ([], 3) by unfold linesF; rw [if_pos (by simpa using h)])
  go_enter Tryd.func52, Tryd.ntmps52
  go_wp2
  refine bodyPost_ret (v := .tuple #[.slice none 0 0, .int .i64 3]) (by simp [results, Tryd.f52, go_sem]) rfl ⟨_, by rw [F.out], by rw [F.out]; exact SAt.nil _, Below.refl _ _⟩

set_option maxRecDepth 100000 in
theorem lines52_form (s : ByteArray) (w : World) (h : ¬ 1048576 < s.size) (h0 : s.data.toList ≠ []) (h1 : s.data.toList.getLast? ≠ some 10) :
    Calls Tryd.prog 52 #[.string s] w fun e w' => ∃ v, e = .returned (.tuple #[v, .int .i64 (linesF s.data.toList).2]) ∧ SAt w' v (linesF s.data.toList).1 ∧ Below w.heap.size w w' := by
  have q : decide ((1048576 : Int) < (s.size : Int)) = false := decide_eq_false (by omega)
  have q2 : (s.toList == []) = false := by rw [ByteArray.toList_eq]; simpa using h0
  have q3 : (s.toList != []) = true := by rw [ByteArray.toList_eq]; simpa using h0
  have F := Lib.hid (show linesF s.data.toList = ([], 6) by unfold linesF; rw [if_neg (by simpa using h), if_neg h0, if_neg h1])
  have E := Lib.hid (show Lib.hasSuffix s.data.toList (⟨#[10]⟩ : ByteArray).data.toList = false by
    rw [show (⟨#[10]⟩ : ByteArray).data.toList = [10] from rfl, ends_10]; simpa using h1)
  clear h0 h1
  go_enter Tryd.func52, Tryd.ntmps52
  go_wp2_with (go_at_call 72; refine (Tryd.strings_HasSuffix s _ _ (by omega)).mono ?_; rintro e w1 ⟨rfl, rfl⟩; rw [E.out])
  refine bodyPost_ret (v := .tuple #[.slice none 0 0, .int .i64 6]) (by simp [results, Tryd.f52, go_sem]) rfl ⟨_, by rw [F.out], by rw [F.out]; exact SAt.nil _, Below.refl _ _⟩

set_option maxRecDepth 100000 in
theorem lines52_many (s : ByteArray) (w : World) (h : ¬ 1048576 < s.size) (h0 : s.data.toList ≠ []) (h1 : s.data.toList.getLast? = some 10) (h2 : 5000 < (lnsC [] s.data.toList).length) :
    Calls Tryd.prog 52 #[.string s] w fun e w' => ∃ v, e = .returned (.tuple #[v, .int .i64 (linesF s.data.toList).2]) ∧ SAt w' v (linesF s.data.toList).1 ∧ Below w.heap.size w w' := by
  have q : decide ((1048576 : Int) < (s.size : Int)) = false := decide_eq_false (by omega)
  have q2 : (s.toList == []) = false := by rw [ByteArray.toList_eq]; simpa using h0
  have q3 : (s.toList != []) = true := by rw [ByteArray.toList_eq]; simpa using h0
  have F := Lib.hid (show linesF s.data.toList = ([], 3) by unfold linesF; rw [if_neg (by simpa using h), if_neg h0, if_pos h1, if_pos h2])
  have E := Lib.hid (show Lib.hasSuffix s.data.toList (⟨#[10]⟩ : ByteArray).data.toList = true by
    rw [show (⟨#[10]⟩ : ByteArray).data.toList = [10] from rfl, ends_10]; simpa using h1)
  rw [lns_count] at h2
  obtain ⟨n, hn⟩ : ∃ n, Lib.countByte s.data.toList 10 = n := ⟨_, rfl⟩
  have h3 : 5000 < n := by rw [← hn]; exact h2
  have HN := Lib.hid hn
  have q4 : decide ((5000 : Int) < (n : Int)) = true := decide_eq_true (by omega)
  clear h0 h1 h2 hn
  go_enter Tryd.func52, Tryd.ntmps52
  go_wp2_with (first
    | (go_at_call 72; refine (Tryd.strings_HasSuffix s _ _ (by omega)).mono ?_; rintro e w1 ⟨rfl, rfl⟩; rw [E.out])
    | (go_at_call 73; refine (Tryd.strings_Count_one s _ _).mono ?_; rintro e w1 ⟨rfl, rfl⟩; rw [HN.out]))
  refine bodyPost_ret (v := .tuple #[.slice none 0 0, .int .i64 3]) (by simp [results, Tryd.f52, go_sem]) rfl ⟨_, by rw [F.out], by rw [F.out]; exact SAt.nil _, Below.refl _ _⟩
end YtkhggnfhhafkjaaDoor
end Go.Proofs
