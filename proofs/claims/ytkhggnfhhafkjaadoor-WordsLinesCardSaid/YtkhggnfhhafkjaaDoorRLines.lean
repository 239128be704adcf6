/- The reference's Lines answers what the plain function names, for every text. -/
import Derived.Test.YtkhggnfhhafkjaaDoorLinesP
namespace Go.Proofs
namespace YtkhggnfhhafkjaaDoor
open Go.RowKit

theorem last_data (s : ByteArray) (h : 0 < s.size) : s.data.toList.getLast? = some (s[s.size - 1]'(by omega)) := by
  rw [List.getLast?_eq_getElem?, show s.data.toList.length - 1 = s.size - 1 by simp, List.getElem?_eq_getElem (by simp; omega)]
  rfl

set_option maxRecDepth 100000 in
set_option maxHeartbeats 1000000 in
theorem rlines53 (s : ByteArray) (w : World) :
    Calls Tryd.prog 53 #[.string s] w fun e w' => ∃ v, e = .returned (.tuple #[v, .int .i64 (linesF s.data.toList).2]) ∧ SAt w' v (linesF s.data.toList).1 ∧ Below w.heap.size w w' := by
  have hl := Lib.hid (show s.data.toList.length = s.size by simp)
  by_cases h1 : 1048576 < s.size
  · have q : decide ((1048576 : Int) < (s.size : Int)) = true := decide_eq_true (by omega)
    have F := Lib.hid (show linesF s.data.toList = ([], 3) by unfold linesF; rw [if_pos (by rw [hl.out]; exact h1)])
    go_enter Tryd.func53, Tryd.ntmps53
    go_wp2
    refine bodyPost_ret (v := .tuple #[.slice none 0 0, .int .i64 3]) (by simp [results, Tryd.f53, go_sem]) rfl ⟨_, by rw [F.out], by rw [F.out]; exact SAt.nil _, Below.refl _ _⟩
  have q : decide ((1048576 : Int) < (s.size : Int)) = false := decide_eq_false (by omega)
  by_cases h2 : s.size = 0
  · have e0 : s.data.toList = [] := List.eq_nil_of_length_eq_zero (by simpa using h2)
    have q2 : (s.toList == []) = true := by rw [ByteArray.toList_eq, e0]; rfl
    have F := Lib.hid (show linesF s.data.toList = ([], 0) by rw [e0]; rfl)
    clear e0
    go_enter Tryd.func53, Tryd.ntmps53
    go_wp2
    refine bodyPost_ret (v := .tuple #[.slice none 0 0, .int .i64 0]) (by simp [results, Tryd.f53, go_sem]) rfl ⟨_, by rw [F.out], by rw [F.out]; exact SAt.nil _, Below.refl _ _⟩
  have hne : s.data.toList ≠ [] := fun e => by have := hl.out; rw [e] at this; simp at this; omega
  have q2 : (s.toList == []) = false := by rw [ByteArray.toList_eq]; simpa using hne
  obtain ⟨n, hn⟩ : ∃ n, s.size = n + 1 := ⟨s.size - 1, by omega⟩
  have hn1 : ((s.size : Int) - 1) = (n : Int) := by omega
  have hlt : n < s.size := by omega
  have hlast := last_data s (by omega)
  simp only [show s.size - 1 = n by omega] at hlast
  by_cases h3 : (s[n].toNat : Int) = 10
  · have q3 : ((s[n].toNat : Int) != 10) = false := by simp [h3]
    have e10 : s[n] = 10 := UInt8.toNat_inj.1 (show s[n].toNat = 10 by omega)
    have F := Lib.hid (show linesF s.data.toList = if 5000 < (lnsC [] s.data.toList).length then ([], 3) else (lnsC [] s.data.toList, 0) by
      unfold linesF; rw [if_neg (by rw [hl.out]; exact h1), if_neg hne, if_pos (by rw [hlast, e10])])
    clear hlast hne h3 e10 hn
    go_enter Tryd.func53, Tryd.ntmps53
    go_wp2
    go_loopw [4, 5, 6] (fun o k i wr => ∃ (kn n : Nat) (ls : List (List UInt8)), kn ≤ n ∧ n ≤ s.size ∧ k = .int .i64 kn ∧ i = .int .i64 n ∧ ls.length ≤ n ∧ SRow w.heap.size wr o ls ∧ Below w.heap.size w wr ∧
      Hid (lnsC [] s.data.toList = ls ++ lnsC ((s.data.toList.drop kn).take (n - kn)) (s.data.toList.drop n))) (fun _ _ i _ => s.size - (intOf i).toNat)
    case atStart => exact ⟨0, 0, [], by omega, by omega, rfl, rfl, by simp, SRow.nil _ _, Below.refl _ _, Lib.hid (by simp)⟩
    case round =>
      obtain ⟨kn, i, ls, hki, his, rfl, rfl, hli, hrow, hB, T⟩ := hrel
      by_cases hi : i < s.size
      · have hi' : (i : Int) < (s.size : Int) := by omega
        have hd := Lib.hid (List.drop_eq_getElem_cons (l := s.data.toList) (i := i) (by rw [hl.out]; exact hi))
        by_cases h10 : (s[i].toNat : Int) = 10
        · have q4 : ((s[i].toNat : Int) == 10) = true := by simp [h10]
          have e10 : s.data.toList[i]'(by rw [hl.out]; exact hi) = 10 := UInt8.toNat_inj.1 (show s[i].toNat = 10 by omega)
          have HX := Lib.hid (cut_to s kn i hki)
          have T2 := Lib.hid (show lnsC [] s.data.toList = (ls ++ [(s.data.toList.drop kn).take (i - kn)]) ++ lnsC ((s.data.toList.drop (i + 1)).take (i + 1 - (i + 1))) (s.data.toList.drop (i + 1)) by
            rw [T.out, hd.out, e10, lns_line, Nat.sub_self, List.take_zero])
          clear h10 e10
          go_wp2_with (at_builtin; refine push_line (W := wr) hrow hB _ rfl _ _ rfl rfl _ rfl rfl _ HX.out rfl (Nat.le_refl _) (by omega) ?_; intro v3 W3 hr3 hB3)
          go_roundw
          case rel => exact ⟨i + 1, i + 1, _, by omega, by omega, by go_num, by go_num, by simp; omega, hr3, hB3, T2⟩
          case measure => simp [intOf]; omega
        · have q4 : ((s[i].toNat : Int) == 10) = false := by simp [h10]
          have e10 : s.data.toList[i]'(by rw [hl.out]; exact hi) ≠ 10 := fun e => h10 (by show ((s.data.toList[i]'(by rw [hl.out]; exact hi)).toNat : Int) = 10; rw [e]; rfl)
          have T2 := Lib.hid (show lnsC [] s.data.toList = ls ++ lnsC ((s.data.toList.drop kn).take (i + 1 - kn)) (s.data.toList.drop (i + 1)) by
            rw [T.out, hd.out, lns_char _ _ e10, take_more _ hki (by rw [hl.out]; exact hi)])
          clear h10 e10
          go_wp2
          go_roundw
          case rel => exact ⟨kn, i + 1, ls, by omega, by omega, rfl, by go_num, by omega, hrow, hB, T2⟩
          case measure => simp [intOf]; omega
      · have ei : i = s.size := by omega
        subst ei
        have TE := Lib.hid (show lnsC [] s.data.toList = ls by rw [T.out, List.drop_of_length_le (l := s.data.toList) (i := s.size) (by rw [hl.out]; exact Nat.le_refl _)]; simp [lnsC])
        obtain ⟨A, c, rfl⟩ := own_form hrow
        by_cases h5 : 5000 < ls.length
        · have q5 : decide ((5000 : Int) < (ls.length : Int)) = true := decide_eq_true (by omega)
          have F3 := Lib.hid (show linesF s.data.toList = ([], 3) by rw [F.out, TE.out, if_pos h5])
          go_wp2
          refine bodyPost_ret (v := .tuple #[.slice none 0 0, .int .i64 3]) (by simp [results, Tryd.f53, go_sem]) rfl ⟨_, by rw [F3.out], by rw [F3.out]; exact SAt.nil _, hB⟩
        · have q5 : decide ((5000 : Int) < (ls.length : Int)) = false := decide_eq_false (by omega)
          have F0 := Lib.hid (show linesF s.data.toList = (ls, 0) by rw [F.out, TE.out, if_neg h5])
          go_wp2
          refine bodyPost_ret (v := .tuple #[.slice A ls.length c, .int .i64 0]) (by simp [results, Tryd.f53, go_sem]) rfl ⟨_, by rw [F0.out], by rw [F0.out]; exact SAt.of_own hrow, hB⟩
  · have q3 : ((s[n].toNat : Int) != 10) = true := by simp [h3]
    have F := Lib.hid (show linesF s.data.toList = ([], 6) by
      unfold linesF; rw [if_neg (by rw [hl.out]; exact h1), if_neg hne, if_neg (by rw [hlast]; intro e; exact h3 (by rw [Option.some.inj e]; rfl))])
    clear hlast hne h3 hn
    go_enter Tryd.func53, Tryd.ntmps53
    go_wp2
    refine bodyPost_ret (v := .tuple #[.slice none 0 0, .int .i64 6]) (by simp [results, Tryd.f53, go_sem]) rfl ⟨_, by rw [F.out], by rw [F.out]; exact SAt.nil _, Below.refl _ _⟩
end YtkhggnfhhafkjaaDoor
end Go.Proofs
