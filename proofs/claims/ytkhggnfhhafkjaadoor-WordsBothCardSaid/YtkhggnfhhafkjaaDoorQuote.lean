/- Quote and appendQuoted, and the reference's Quote. -/
import Derived.Test.YtkhggnfhhafkjaaDoorAppQ
namespace Go.Proofs
namespace YtkhggnfhhafkjaaDoor
open Go.RowKit

theorem Row.fresh {B : Nat} (W : World) (l : List UInt8) (hB : B ≤ W.heap.size) (hl : l.length ≤ 100000000000000) : Row B (W.alloc (.cells (bc l).toArray 5)) (.slice (some ⟨W.heap.size, 0, none⟩) l.length l.length) l :=
  ⟨by simp [bc], .inr ⟨W.heap.size, l.length, (bc l).toArray, rfl, hB, heap_alloc_new W _, Nat.le_refl _, by unfold maxLen; omega, by simp [bc], List.take_of_length_le (by simp [bc])⟩⟩

theorem qstep (l : List UInt8) (k : Nat) (hk : k < l.length) : (l.take (k + 1)).flatMap escL = (l.take k).flatMap escL ++ escL l[k] := by
  rw [List.take_add_one, List.getElem?_eq_getElem hk]
  simp only [Option.toList_some, List.flatMap_append, List.flatMap_cons, List.flatMap_nil, List.append_nil]

set_option maxRecDepth 100000 in
set_option maxHeartbeats 1000000 in
theorem aq46 (w W : World) (v : Value) (l : List UInt8) (s : ByteArray) (hE : Hid (EscLaid w)) (hB : Below w.heap.size w W) (hown : Row w.heap.size W v l) (hl : l.length ≤ 10000000000000) (hs : s.size ≤ 1000000000000) :
    Calls Tryd.prog 46 #[v, .string s] W fun e W' => ∃ v', e = .returned v' ∧ Row w.heap.size W' v' (l ++ quoteL s.data.toList) ∧ Below w.heap.size w W' := by
  have hsl := Lib.hid (show s.data.toList.length = s.size by simp)
  go_enter Tryd.func46, Tryd.ntmps46
  go_wp2_with (at_builtin; refine push_new hown hB [34] rfl (.tmp 6) (.tmp 7) rfl rfl rfl rfl (Nat.le_refl _) (by simp; omega) ?_; intro v1 W1 hr1 hb1; clear hown hB)
  go_loopw [0, 5] (fun b i wr => ∃ (k : Nat) (acc : List UInt8), k ≤ s.size ∧ i = .int .i64 k ∧ Row w.heap.size wr b acc ∧ acc.length ≤ l.length + 1 + 4 * k ∧ Below w.heap.size w wr ∧ Hid (acc = l ++ 34 :: (s.data.toList.take k).flatMap escL)) (fun _ i _ => s.size - (intOf i).toNat)
  case atStart => exact ⟨0, l ++ [34], by omega, rfl, hr1, by simp, hb1, Lib.hid (by simp)⟩
  case round =>
    obtain ⟨k, acc, hk, rfl, hrow, hal, hb, H⟩ := hrel
    by_cases hlt : k < s.size
    · have hq := Lib.hid (qstep s.data.toList k (by rw [hsl.out]; exact hlt))
      have hx := escL_len s[k]
      go_wp2_with (go_at_call 66; refine (app66 w _ _ acc s[k] hE hb hrow (by omega)).mono ?_; rintro e W2 ⟨v2, rfl, hr2, hb2⟩)
      go_roundw
      case rel => exact ⟨k + 1, acc ++ escL s[k], by omega, by go_num, hr2, by rw [List.length_append]; omega, hb2, Lib.hid (by rw [hq.out, H.out]; simp; rfl)⟩
      case measure => simp [intOf]; omega
    · have ek : k = s.size := by omega
      subst ek
      have H2 := Lib.hid (show l ++ quoteL s.data.toList = acc ++ [34] by
        rw [H.out, List.take_of_length_le (by rw [hsl.out]; exact Nat.le_refl _)]; simp [quoteL])
      go_wp2_with (at_builtin; refine push_new hrow hb [34] rfl (.tmp 20) (.tmp 21) rfl rfl rfl rfl (Nat.le_refl _) (by simp; omega) ?_; intro v3 W3 hr3 hb3)
      exact bodyPost_ret (v := v3) (by simp [results, Tryd.f46, go_sem]) rfl ⟨v3, rfl, by rw [H2.out]; exact hr3, hb3⟩

set_option maxRecDepth 100000 in
theorem quote21 (s : ByteArray) (w : World) (hE : EscLaid w) (hs : s.size ≤ 1000000000000) :
    Calls Tryd.prog 21 #[.string s] w fun e w' => e = .returned (.string ⟨(quoteL s.data.toList).toArray⟩) ∧ Below w.heap.size w w' := by
  have HE := Lib.hid hE
  clear hE
  go_enter Tryd.func21, Tryd.ntmps21
  go_wp2_with (go_at_call 46; refine (aq46 w w _ [] s HE (Below.refl _ _) (Row.nil _ _) (by simp) hs).mono ?_; rintro e W2 ⟨v2, rfl, hr2, hb2⟩; have hc := string_of_row hr2; rw [List.nil_append] at hc)
  go_ret
  exact ⟨rfl, hb2⟩

set_option maxRecDepth 100000 in
set_option maxHeartbeats 1000000 in
theorem rquote22 (s : ByteArray) (w : World) (hs : s.size ≤ 1000000000000) :
    Calls Tryd.prog 22 #[.string s] w fun e w' => e = .returned (.string ⟨(quoteL s.data.toList).toArray⟩) ∧ Below w.heap.size w w' := by
  have hsl := Lib.hid (show s.data.toList.length = s.size by simp)
  go_enter Tryd.func22, Tryd.ntmps22
  go_wp2
  go_loopw [3, 4] (fun b i wr => ∃ (k : Nat) (acc : List UInt8), k ≤ s.size ∧ i = .int .i64 k ∧ Row w.heap.size wr b acc ∧ acc.length ≤ 1 + 4 * k ∧ Below w.heap.size w wr ∧ Hid (acc = 34 :: (s.data.toList.take k).flatMap escL)) (fun _ i _ => s.size - (intOf i).toNat)
  case atStart => exact ⟨0, [34], by omega, rfl, Row.fresh w [34] (Nat.le_refl _) (by simp), by simp, (Below.refl _ _).alloc (Nat.le_refl _) _, Lib.hid (by simp)⟩
  case round =>
    obtain ⟨k, acc, hk, rfl, hrow, hal, hb, H⟩ := hrel
    by_cases hlt : k < s.size
    · have hq := Lib.hid (qstep s.data.toList k (by rw [hsl.out]; exact hlt))
      have hx := escL_len s[k]
      go_wp2_with (first
        | (go_at_call 47; refine (esc47 s[k] _).mono ?_; rintro e W2 ⟨rfl, hb2⟩; have hr2 := hrow.below hb2; have hB2 := hb.trans (hb2.mono hb.size))
        | (at_builtin; refine push_text hr2 hB2 (escL s[k]) rfl (.tmp 12) (.tmp 16) rfl rfl rfl (Nat.le_refl _) (by omega) ?_; intro v3 W3 hr3 hb3))
      go_roundw
      case rel => exact ⟨k + 1, acc ++ escL s[k], by omega, by go_num, hr3, by rw [List.length_append]; omega, hb3, Lib.hid (by rw [hq.out, H.out]; simp; rfl)⟩
      case measure => simp [intOf]; omega
    · have ek : k = s.size := by omega
      subst ek
      have H2 := Lib.hid (show quoteL s.data.toList = acc ++ [34] by
        rw [H.out, List.take_of_length_le (by rw [hsl.out]; exact Nat.le_refl _)]; simp [quoteL])
      go_wp2_with (at_builtin; refine push_new hrow hb [34] rfl (.tmp 18) (.tmp 19) rfl rfl rfl rfl (Nat.le_refl _) (by simp; omega) ?_; intro v3 W3 hr3 hb3; have hc := string_of_row hr3)
      go_ret
      exact ⟨by rw [H2.out]; rfl, hb3⟩
end YtkhggnfhhafkjaaDoor
end Go.Proofs
