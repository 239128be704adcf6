/- The law WordsLines answers true, given what words.Lines answers. -/
import Derived.Test.YtkhggnfhhafkjaaDoorFill
namespace Go.Proofs
namespace YtkhggnfhhafkjaaDoor
open Go.RowKit

theorem made_below {w W : World} {B : Nat} (hB : Below B w W) {W' : World} (h : W.grownBy W' none) (hs : B ≤ W.heap.size) : Below B w W' := hB.grown h hs (fun k hk => by cases hk)
theorem NRow.below {B : Nat} {W W' : World} {g N : Nat} {l : List UInt8} (h : NRow B W g N l) (hb : Below W.heap.size W W') : NRow B W' g N l := ⟨h.1, own_below h.2 hb⟩

/-- what the law's lines answers -/
def Told29 : Prop := ∀ (s : ByteArray) (W : World), Calls Tryd.prog 29 #[.string s] W fun e w' => e = .returned (.bool true) ∧ Below W.heap.size W w'

set_option maxRecDepth 100000 in
theorem lines7_shown (s t : ByteArray) (b : Bool) (h : 12000 < s.size ∨ 100 < t.size) (w : World) (hL : Laid w) :
    Calls Tryd.prog 7 #[.string s, .string t, .bool b] w fun e w' => e = .returned (.bool true) ∧ Below w.heap.size w w' := by
  have HL := Lib.hid hL
  clear hL
  by_cases h1 : 12000 < s.size
  · have q1 : decide ((12000 : Int) < (s.size : Int)) = true := decide_eq_true (by omega)
    go_enter Tryd.func7, Tryd.ntmps7
    go_wp2_with (go_at_call 12; refine (shown12x w _ HL (Below.refl _ _)).mono ?_; rintro e w1 ⟨rfl, hB1⟩)
    exact bodyPost_ret (v := .bool true) (by simp [results, Tryd.f7, go_sem]) rfl ⟨rfl, hB1⟩
  · have q1 : decide ((12000 : Int) < (s.size : Int)) = false := decide_eq_false (by omega)
    have q2 : decide ((100 : Int) < (t.size : Int)) = true := decide_eq_true (by omega)
    go_enter Tryd.func7, Tryd.ntmps7
    go_wp2_with (go_at_call 12; refine (shown12x w _ HL (Below.refl _ _)).mono ?_; rintro e w1 ⟨rfl, hB1⟩)
    exact bodyPost_ret (v := .bool true) (by simp [results, Tryd.f7, go_sem]) rfl ⟨rfl, hB1⟩

set_option maxRecDepth 100000 in
set_option maxHeartbeats 400000 in
theorem lines7_cold (H29 : Hid Told29) (s t : ByteArray) (h1 : ¬ 12000 < s.size) (h2 : ¬ 100 < t.size) (w : World) (hL : Laid w) :
    Calls Tryd.prog 7 #[.string s, .string t, .bool false] w fun e w' => e = .returned (.bool true) ∧ Below w.heap.size w w' := by
  have HL := Lib.hid hL
  clear hL
  have q1 : decide ((12000 : Int) < (s.size : Int)) = false := decide_eq_false (by omega)
  have q2 : decide ((100 : Int) < (t.size : Int)) = false := decide_eq_false (by omega)
  obtain ⟨i0, hi, hz0, hz1, hz2⟩ := info_parts info5
  obtain ⟨N, hN⟩ : ∃ N : Nat, N = 5000 := ⟨_, rfl⟩
  have hNi := Lib.hid (show (5000 : Int) = (N : Int) by omega)
  have hNm : N ≤ 10000000 := by omega
  clear hN
  go_enter Tryd.func7, Tryd.ntmps7
  go_wp2_with (refine wpList_make_full _ rfl _ _ 38 rfl w.heap.size 5 i0 _ 1 Tryd.underlying38 hi hz0 hz1 .i64 .i64 5000 5000 N rfl rfl hNi.out hNi.out (by rw [hz2]; omega) (by unfold maxLen; omega) (Nat.le_refl _) ?_; intro W1 hr1 hg1; have hB1 := made_below (Below.refl _ w) hg1 (Nat.le_refl _))
  have HR := Lib.hid (NRow.made hr1)
  clear hr1
  go_loopw [8] (fun i wr => ∃ (k : Nat) (l : List UInt8), k ≤ N ∧ i = .int .i64 k ∧ Hid (NRow w.heap.size wr w.heap.size N l) ∧ Below w.heap.size w wr) (fun i _ => N - (intOf i).toNat)
  case atStart => exact ⟨0, _, by omega, rfl, HR, hB1⟩
  case round =>
    obtain ⟨k, l, hk, rfl, hr, hB⟩ := hrel
    by_cases hlt : k < N
    · have hlt' : (k : Int) < (N : Int) := by omega
      obtain ⟨c0, d0⟩ := hr.out.cell hlt
      have f0 := hr.out.2.frozenAt k
      go_wp2
      have HP := hr.out.put hB k 10 (.int .u8 10) rfl
      exact ⟨⟨k + 1, _, by omega, by go_num, Lib.hid HP.1, HP.2⟩, by simp [intOf]; omega⟩
    · have ek : k = N := by omega
      subst ek
      have HCV := Lib.hid hr.out.text
      have hll : l.length ≤ 10000000 := by rw [hr.out.1]; exact hNm
      have hts : (⟨l.toArray⟩ : ByteArray).size = l.length := by simp [ByteArray.size]
      go_wp2_with (first
        | (go_at_call 29; refine (H29.out _ _).mono ?_; rintro e w2 ⟨rfl, hb2⟩; first | (have hB3 := below_end hB2 hb2) | (have hB2 := below_end hB hb2; have hcv := (hr.out.below hb2).text))
        | (go_at_call 12; refine (shown12x w _ HL hB3).mono ?_; rintro e w4 ⟨rfl, hB4⟩))
      exact bodyPost_ret (v := .bool true) (by simp [results, Tryd.f7, go_sem]) rfl ⟨rfl, hB4⟩

set_option maxRecDepth 100000 in
set_option maxHeartbeats 400000 in
theorem lines7_hot (H29 : Hid Told29) (s t : ByteArray) (h1 : ¬ 12000 < s.size) (h2 : ¬ 100 < t.size) (w : World) (hL : Laid w) :
    Calls Tryd.prog 7 #[.string s, .string t, .bool true] w fun e w' => e = .returned (.bool true) ∧ Below w.heap.size w w' := by
  have HL := Lib.hid hL
  clear hL
  have q1 : decide ((12000 : Int) < (s.size : Int)) = false := decide_eq_false (by omega)
  have q2 : decide ((100 : Int) < (t.size : Int)) = false := decide_eq_false (by omega)
  obtain ⟨i0, hi, hz0, hz1, hz2⟩ := info_parts info5
  obtain ⟨N, hN⟩ : ∃ N : Nat, N = 1048556 := ⟨_, rfl⟩
  have hNi := Lib.hid (show (1048556 : Int) = (N : Int) by omega)
  have hNm : N ≤ 10000000 := by omega
  clear hN
  go_enter Tryd.func7, Tryd.ntmps7
  go_wp2_with (first
    | (refine wpList_make_full _ rfl _ _ 38 rfl w.heap.size 5 i0 _ 1 Tryd.underlying38 hi hz0 hz1 .i64 .i64 5000 5000 5000 rfl rfl rfl rfl (by rw [hz2]; decide) (by decide) (Nat.le_refl _) ?_; intro W0 hr0 hg0; have hB0 := made_below (Below.refl _ w) hg0 (Nat.le_refl _); clear hr0)
    | (refine wpList_make_full _ rfl _ _ 38 rfl w.heap.size 5 i0 _ 1 Tryd.underlying38 hi hz0 hz1 .i64 .i64 1048556 1048556 N rfl rfl hNi.out hNi.out (by rw [hz2]; omega) (by unfold maxLen; omega) hB0.size ?_; intro W1 hr1 hg1; have hB1 := made_below hB0 hg1 hB0.size))
  have HR := Lib.hid (NRow.made hr1)
  clear hr1
  go_loopw [8] (fun i wr => ∃ (k : Nat) (l : List UInt8), k ≤ N ∧ i = .int .i64 k ∧ Hid (NRow w.heap.size wr W0.heap.size N l) ∧ Below w.heap.size w wr) (fun i _ => N - (intOf i).toNat)
  case atStart => exact ⟨0, _, by omega, rfl, HR, hB1⟩
  case round =>
    obtain ⟨k, l, hk, rfl, hr, hB⟩ := hrel
    by_cases hlt : k < N
    · have hlt' : (k : Int) < (N : Int) := by omega
      obtain ⟨c0, d0⟩ := hr.out.cell hlt
      have f0 := hr.out.2.frozenAt k
      go_wp2
      · have HP := hr.out.put hB k 10 (.int .u8 10) rfl
        have HP2 := HP.1.put HP.2 k 120 (.int .u8 120) rfl
        exact ⟨⟨k + 1, _, by omega, by go_num, Lib.hid HP2.1, HP2.2⟩, by simp [intOf]; omega⟩
      · have HP := hr.out.put hB k 10 (.int .u8 10) rfl
        exact ⟨⟨k + 1, _, by omega, by go_num, Lib.hid HP.1, HP.2⟩, by simp [intOf]; omega⟩
    · have ek : k = N := by omega
      subst ek
      have HCV := Lib.hid hr.out.text
      have hll : l.length ≤ 10000000 := by rw [hr.out.1]; exact hNm
      have hts : (⟨l.toArray⟩ : ByteArray).size = l.length := by simp [ByteArray.size]
      go_wp2_with (first
        | (go_at_call 29; refine (H29.out _ _).mono ?_; rintro e w2 ⟨rfl, hb2⟩; first | (have hB3 := below_end hB2 hb2) | (have hB2 := below_end hB hb2; have hcv := (hr.out.below hb2).text))
        | (go_at_call 12; refine (shown12x w _ HL hB3).mono ?_; rintro e w4 ⟨rfl, hB4⟩))
      exact bodyPost_ret (v := .bool true) (by simp [results, Tryd.f7, go_sem]) rfl ⟨rfl, hB4⟩

/-- WordsLines answers true, given what the law's lines answers -/
theorem lines7 (h29 : Told29) (s t : ByteArray) (b : Bool) (w : World) (hL : Laid w) :
    Calls Tryd.prog 7 #[.string s, .string t, .bool b] w fun e w' => e = .returned (.bool true) ∧ Below w.heap.size w w' := by
  by_cases h : 12000 < s.size ∨ 100 < t.size
  · exact lines7_shown s t b h w hL
  · cases b with
    | false => exact lines7_cold (Lib.hid h29) s t (by omega) (by omega) w hL
    | true => exact lines7_hot (Lib.hid h29) s t (by omega) (by omega) w hL
end YtkhggnfhhafkjaaDoor
end Go.Proofs
