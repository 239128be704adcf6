/- Print, and the laws' one shown line. -/
import Derived.Test.YtoebnjciioiccaaDoorStr
namespace Go.Proofs
namespace YtoebnjciioiccaaDoor
open Go.RowKit

theorem itoa_small (n : Int) (h0 : 0 ≤ n) (h1 : n ≤ 64) : (Lib.itoa n).length ≤ 21 := Lib.itoa_length_le n (by omega) (by omega)
theorem parts_lens (C N S K Q : Int) (hg : good C N S K Q) : (textL [C, N, S, K, Q]).length ≤ 200 := by
  obtain ⟨c0, c1, n0, n1, s0, s1, k0, k1, q0, q1⟩ := hg
  have a0 := itoa_small C (by omega) (by omega)
  have a1 := itoa_small N (by omega) (by omega)
  have a2 := itoa_small S (by omega) (by omega)
  have a3 := itoa_small K (by omega) (by omega)
  have a4 := itoa_small Q (by omega) (by omega)
  have e : partsL [C, N, S, K, Q] 5 = limB 0 :: [Lib.itoa N, limB 1, Lib.itoa C, limB 2, Lib.itoa S, limB 3, Lib.itoa K, limB 4, Lib.itoa Q] := rfl
  unfold textL
  rw [e, Lib.join_length]
  simp only [Lib.lens, List.map_cons, List.map_nil, List.sum_cons, List.sum_nil, List.length_cons, List.length_nil, limB]
  omega

theorem join43 (B : Nat) (l : List (List UInt8)) (h0 : 0 < l.length) (hl : (Lib.join l [32]).length ≤ 1000000) (hn : l.length ≤ 1000000) (W : World) (p : Value) (h : SRow B W p l) :
    Calls Tryd.prog 43 #[p, .string ⟨#[32]⟩] W fun e w' => e = .returned (.string ⟨(Lib.join l [32]).toArray⟩) ∧ Below W.heap.size W w' := by
  have hc := fun (g : Nat) (hg : p.ownBlock = some g) => h.cells (g := g) hg
  have hlt := h.lt
  rcases h.2 with ⟨_, h1⟩ | ⟨g, cap, cur, rfl, _, _, hcap, _⟩
  · omega
  · have e1 : (l.map fun s => (⟨s.toArray⟩ : ByteArray)).map (·.data.toList) = l := by rw [List.map_map]; exact List.map_id' l
    have H := Tryd.strings_Join g 0 cap (l.map fun s => (⟨s.toArray⟩ : ByteArray)) ⟨#[32]⟩ W (by
      intro j x hj
      have hj' := hc g rfl j (.string x) (by
        simp only [List.getElem?_map, Option.map_eq_some_iff] at hj
        obtain ⟨s, hs, rfl⟩ := hj
        simp [sc, hs])
      have e : (⟨g, 0, none⟩ : Addr).add j = ⟨g, 0 + j, none⟩ := by rw [Nat.zero_add]; unfold Addr.add; split <;> simp_all
      rwa [e] at hj') (hlt g rfl).2 (by simp; omega) (by simp; exact hcap) (by rw [e1]; exact Nat.le_trans hl (by omega))
    rw [e1] at H
    simpa using H

theorem print32_ok (C N S K Q : Int) (hg : good C N S K Q) (w : World) :
    Calls Tryd.prog 32 #[.agg #[.int .i64 C, .int .i64 N, .int .i64 S, .int .i64 K, .int .i64 Q]] w fun e w' => e = .returned (.tuple #[.string ⟨(textL [C, N, S, K, Q]).toArray⟩, .int .i64 0]) ∧ Below w.heap.size w w' :=
  print32_good C N S K Q hg w (Lib.hid fun W p h => join43 _ _ (by rw [partsL_length]; omega) (Nat.le_trans (parts_lens C N S K Q hg) (by omega)) (by rw [partsL_length]; omega) W p h)
set_option maxRecDepth 100000 in
theorem print32_bad (C N S K Q : Int) (hg : ¬ good C N S K Q) (w : World) :
    Calls Tryd.prog 32 #[.agg #[.int .i64 C, .int .i64 N, .int .i64 S, .int .i64 K, .int .i64 Q]] w fun e w' => e = .returned (.tuple #[.string ⟨#[]⟩, .int .i64 7]) ∧ Below w.heap.size w w' := by
  have HG := Lib.hid hg
  clear hg
  go_enter Tryd.func32, Tryd.ntmps32
  go_wp2_with (go_at_call 13; refine (chk13_bad _ _ _ _ _ HG.out _).mono ?_; rintro e w1 ⟨rfl, hb1⟩; obtain ⟨hc1, hf1⟩ := bcell hb1)
  go_ret2
  exact ⟨rfl, below_alloc_l hb1⟩

theorem small36 (w : World) : Calls Tryd.prog 36 #[] w fun e w' => e = .returned (.agg #[.int .i64 8, .int .i64 7, .int .i64 4, .int .i64 1, .int .i64 2]) ∧ w.alloc (.cells #[.int .i64 8, .int .i64 7, .int .i64 4, .int .i64 1, .int .i64 2] 23) = w' := by
  go_enter Tryd.func36, Tryd.ntmps36
  go_wp2
  exact bodyPost_ret (v := .agg #[.int .i64 8, .int .i64 7, .int .i64 4, .int .i64 1, .int .i64 2]) (by simp [results, Tryd.results36, go_sem]) rfl ⟨rfl, rfl⟩
theorem goodA : good 8 7 4 1 2 := by decide
theorem textA : (⟨(textL [8, 7, 4, 1, 2]).toArray⟩ : ByteArray) = ⟨#[99, 97, 114, 115, 32, 55, 32, 111, 102, 32, 56, 32, 110, 117, 114, 115, 101, 114, 121, 32, 52, 32, 114, 101, 103, 105, 115, 116, 101, 114, 115, 32, 49, 32, 112, 111, 112, 117, 108, 97, 114, 32, 50]⟩ := by
  have h : textL [8, 7, 4, 1, 2] = [99, 97, 114, 115, 32, 55, 32, 111, 102, 32, 56, 32, 110, 117, 114, 115, 101, 114, 121, 32, 52, 32, 114, 101, 103, 105, 115, 116, 101, 114, 115, 32, 49, 32, 112, 111, 112, 117, 108, 97, 114, 32, 50] := by decide +kernel
  rw [h]
theorem aw16 (w : World) : Calls Tryd.prog 16 #[.agg #[.int .i64 8, .int .i64 7, .int .i64 4, .int .i64 1, .int .i64 2]] w fun e w' => e = .returned (.tuple #[.int .i64 61, .int .i64 0]) ∧ Below w.heap.size w w' := by
  have h := words16_good 8 7 4 1 2 goodA w
  exact h
theorem aw22 (w : World) : Calls Tryd.prog 22 #[.agg #[.int .i64 8, .int .i64 7, .int .i64 4, .int .i64 1, .int .i64 2]] w fun e w' => e = .returned (.tuple #[.int .i64 3648, .int .i64 0]) ∧ Below w.heap.size w w' := by
  have h := bound22_good 8 7 4 1 2 goodA w
  exact h
theorem aw24 (w : World) : Calls Tryd.prog 24 #[.agg #[.int .i64 8, .int .i64 7, .int .i64 4, .int .i64 1, .int .i64 2], .int .i64 6] w fun e w' => e = .returned (.tuple #[.int .i64 53, .int .i64 61, .int .i64 0]) ∧ Below w.heap.size w w' := by
  have h := space24_car 8 7 4 1 2 6 goodA (by omega) (by omega) w
  exact h
theorem aw30 (w : World) : Calls Tryd.prog 30 #[.agg #[.int .i64 8, .int .i64 7, .int .i64 4, .int .i64 1, .int .i64 2], .int .i64 1, .int .i64 7] w fun e w' => e = .returned (.tuple #[.int .i64 20, .int .i64 0]) ∧ Below w.heap.size w w' := by
  have h := addr30 8 7 4 1 2 1 7 w
  have e1 : addrR 8 7 4 1 2 1 7 = 20 := by decide
  have e2 : addrE 8 7 4 1 2 1 7 = 0 := by decide
  rwa [e1, e2] at h
theorem aw32 (w : World) : Calls Tryd.prog 32 #[.agg #[.int .i64 8, .int .i64 7, .int .i64 4, .int .i64 1, .int .i64 2]] w fun e w' => e = .returned (.tuple #[.string ⟨#[99, 97, 114, 115, 32, 55, 32, 111, 102, 32, 56, 32, 110, 117, 114, 115, 101, 114, 121, 32, 52, 32, 114, 101, 103, 105, 115, 116, 101, 114, 115, 32, 49, 32, 112, 111, 112, 117, 108, 97, 114, 32, 50]⟩, .int .i64 0]) ∧ Below w.heap.size w w' := by
  have h := print32_ok 8 7 4 1 2 goodA w
  rwa [textA] at h

set_option maxRecDepth 100000 in
set_option maxHeartbeats 4000000 in
theorem awake15 (w : World) : Calls Tryd.prog 15 #[] w fun e w' => e = .returned (.bool true) ∧ Below w.heap.size w w' := by
  have hB0 := Below.refl w.heap.size w
  go_enter Tryd.func15, Tryd.ntmps15
  go_wp2_with (first
    | (go_at_call 36; refine (small36 _).mono ?_; rintro e w1 ⟨rfl, rfl⟩)
    | (go_at_call 16; refine (aw16 _).mono ?_; rintro e w1 ⟨rfl, hb1⟩; have hB1 := hB0.trans (below_alloc_l hb1); clear hb1)
    | (go_at_call 22; refine (aw22 _).mono ?_; rintro e w2 ⟨rfl, hb2⟩; have hB2 := hB1.trans ((below_alloc_l hb2).mono hB1.size); clear hb2)
    | (go_at_call 24; refine (aw24 _).mono ?_; rintro e w3 ⟨rfl, hb3⟩; have hB3 := hB2.trans ((below_alloc_l hb3).mono hB2.size); clear hb3)
    | (go_at_call 30; refine (aw30 _).mono ?_; rintro e w4 ⟨rfl, hb4⟩; have hB4 := hB3.trans ((below_alloc_l hb4).mono hB3.size); clear hb4)
    | (go_at_call 32; refine (aw32 _).mono ?_; rintro e w5 ⟨rfl, hb5⟩; have hB5 := hB4.trans ((below_alloc_l hb5).mono hB4.size); clear hb5))
  go_ret
  exact ⟨rfl, hB5⟩
end YtoebnjciioiccaaDoor
end Go.Proofs
