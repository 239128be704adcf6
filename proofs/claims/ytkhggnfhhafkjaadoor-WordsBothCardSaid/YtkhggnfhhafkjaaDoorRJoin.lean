/- The reference's Join answers what the plain function names, for every list of fields. -/
import Derived.Test.YtkhggnfhhafkjaaDoorJoinP
namespace Go.Proofs
namespace YtkhggnfhhafkjaaDoor
open Go.RowKit

theorem ba_app (a b : List UInt8) : (⟨a.toArray⟩ : ByteArray) ++ ⟨b.toArray⟩ = ⟨(a ++ b).toArray⟩ := by
  apply ByteArray.ext; simp

set_option maxRecDepth 100000 in
theorem rjoin28_many (v : Value) (fs : List Fld) (w : World) (hF : FAt w v fs) (h64 : 64 < fs.length) :
    Calls Tryd.prog 28 #[v] w fun e w' => e = .returned (.tuple #[.string ⟨#[]⟩, .int .i64 3]) ∧ Below w.heap.size w w' := by
  obtain ⟨A, cap, rfl, _⟩ := hF
  have q0 : decide ((64 : Int) < (fs.length : Int)) = true := decide_eq_true (by omega)
  go_enter Tryd.func28, Tryd.ntmps28
  go_wp2
  go_ret2
  exact ⟨rfl, Below.refl _ _⟩

set_option maxRecDepth 100000 in
set_option maxHeartbeats 4000000 in
theorem rjoin28_few (v : Value) (fs : List Fld) (w : World) (hF : FAt w v fs) (h64 : ¬ 64 < fs.length) (hsz : ∀ (j : Nat) (f : Fld), fs[j]? = some f → f.1.length ≤ 1000000) :
    Calls Tryd.prog 28 #[v] w fun e w' => e = .returned (joinV (joinF fs)) ∧ Below w.heap.size w w' := by
  have HZ := Lib.hid hsz
  clear hsz
  obtain ⟨A, cap, rfl, hA⟩ := hF
  have HA := Lib.hid hA
  clear hA
  have q0 : decide ((64 : Int) < (fs.length : Int)) = false := decide_eq_false (by omega)
  go_enter Tryd.func28, Tryd.ntmps28
  go_wp2
  go_loop [4] (fun i => ∃ k : Nat, k ≤ fs.length ∧ i = .int .i64 k ∧ Hid (∀ (j : Nat) (f : Fld), j < k → fs[j]? = some f → ¬ 2000 < f.1.length)) (fun i => fs.length - (intOf i).toNat)
  case atStart => exact ⟨0, by omega, rfl, Lib.hid (fun j f hj => by omega)⟩
  case round =>
    obtain ⟨k, hk, rfl, HJ⟩ := hrel
    by_cases hlt : k < fs.length
    · obtain ⟨b, off, rfl, hA⟩ := HA.out (by omega)
      obtain ⟨t, q, hx⟩ := get_pair hlt
      obtain ⟨d1, d2⟩ := fcells (Below.refl _ w) hA hx
      have HX := Lib.hid hx
      have hlt' : (k : Int) < (fs.length : Int) := by omega
      clear hx hA
      by_cases hl : 2000 < t.length
      · have q1 : decide ((2000 : Int) < (t.length : Int)) = true := decide_eq_true (by omega)
        have F := Lib.hid (show joinF fs = ([], 3) by unfold joinF; rw [if_neg h64, if_pos (show longB fs = true from any_of (p := fun f => decide (2000 < f.1.length)) HX.out (by simpa using hl))])
        go_wp2
        go_ret2
        exact ⟨by rw [F.out]; rfl, Below.refl _ _⟩
      · have q1 : decide ((2000 : Int) < (t.length : Int)) = false := decide_eq_false (by omega)
        have HJ2 := Lib.hid (show ∀ (j : Nat) (f : Fld), j < k + 1 → fs[j]? = some f → ¬ 2000 < f.1.length from fun j f hj hf => by
          rcases Nat.lt_or_ge j k with h | h
          · exact HJ.out j f h hf
          · obtain rfl : j = k := by omega
            rw [HX.out] at hf
            cases hf
            exact hl)
        go_wp2
        go_round
        case rel => exact ⟨k + 1, by omega, by go_num, HJ2⟩
        case measure => simp [intOf]; omega
    · have ek : k = fs.length := by omega
      subst ek
      have NL := Lib.hid (show longB fs = false from any_none (p := fun f => decide (2000 < f.1.length)) (fun j f hj => by have := HJ.out j f (List.getElem?_eq_some_iff.1 hj).1 hj; simpa using this))
      have HS := Lib.hid (fun (j : Nat) (f : Fld) (hj : fs[j]? = some f) => HJ.out j f (List.getElem?_eq_some_iff.1 hj).1 hj)
      clear HJ
      go_wp2
      go_loopw [5, 6] (fun ov i wr => ∃ (k : Nat) (acc : List UInt8), k ≤ fs.length ∧ i = .int .i64 k ∧ ov = .string ⟨acc.toArray⟩ ∧ Hid (acc = joinT (fs.take k)) ∧ acc.length ≤ 8003 * k ∧ Below w.heap.size w wr ∧ Hid (∀ (j : Nat) (f : Fld), j < k → fs[j]? = some f → badF f = false)) (fun _ i _ => fs.length - (intOf i).toNat)
      case atStart => exact ⟨0, [], by omega, rfl, rfl, Lib.hid (by simp [joinT]), by simp, Below.refl _ _, Lib.hid (fun j f hj => by omega)⟩
      case round =>
        obtain ⟨k, acc, hk, rfl, rfl, HAcc, hjl, hB, HJ⟩ := hrel
        by_cases hlt : k < fs.length
        · obtain ⟨b, off, rfl, hA⟩ := HA.out (by omega)
          obtain ⟨t, q, hx⟩ := get_pair hlt
          obtain ⟨d1, d2⟩ := fcells hB hA hx
          have HA2 := Lib.hid hA
          have HX := Lib.hid hx
          have HT := Lib.hid (joinT_step hx)
          have htl : t.length ≤ 2000 := Nat.le_of_not_lt (HS.out k (t, q) hx)
          have hlt' : (k : Int) < (fs.length : Int) := by omega
          clear hx hA
          have tl := txt_len (t, q) htl
          have hcase : (q = true ∨ (q = false ∧ bareA t = true)) ∨ (q = false ∧ bareA t = false) := by
            cases q with
            | true => exact .inl (.inl rfl)
            | false =>
              cases h : bareA t with
              | true => exact .inl (.inr ⟨rfl, rfl⟩)
              | false => exact .inr ⟨rfl, rfl⟩
          have R49 := Lib.hid (fun W : World => rbare49 ⟨t.toArray⟩ W (by simp [ByteArray.size]; omega))
          rcases hcase with hgood | ⟨rfl, hb⟩
          · have HJ2 := Lib.hid (show ∀ (j : Nat) (f : Fld), j < k + 1 → fs[j]? = some f → badF f = false from fun j f hj hf => by
              rcases Nat.lt_or_ge j k with h | h
              · exact HJ.out j f h hf
              · obtain rfl : j = k := by omega
                rw [HX.out] at hf
                cases hf
                rcases hgood with rfl | ⟨rfl, h1⟩
                · rfl
                · simp [badF, h1])
            have hsep : (if k = 0 then ([] : List UInt8) else [32]).length ≤ 1 := by split <;> simp
            have HT2 := Lib.hid (show acc ++ ((if k = 0 then [] else [32]) ++ txt (t, q)) = joinT (fs.take (k + 1)) by rw [HT.out, HAcc.out])
            have hal : (acc ++ ((if k = 0 then [] else [32]) ++ txt (t, q))).length ≤ 8003 * (k + 1) := by rw [List.length_append, List.length_append]; omega
            rcases hgood with rfl | ⟨rfl, h1⟩
            · have HQ := Lib.hid (fun W : World => rquote22 ⟨t.toArray⟩ W (by simp [ByteArray.size]; omega))
              have hql : (quoteL t).length ≤ 8002 := tl
              by_cases hk0 : k = 0
              · have p0 : decide ((0 : Int) < (k : Int)) = false := decide_eq_false (by omega)
                have p0n : decide (0 < k) = false := decide_eq_false (by omega)
                have p0m : ¬ 0 < k := by omega
                rw [if_pos hk0] at hal
                have HT3 := Lib.hid (show acc ++ quoteL t = joinT (fs.take (k + 1)) by rw [← HT2.out, if_pos hk0]; rfl)
                clear hk0 hsep
                go_wp2_with (go_at_call 22; refine (HQ.out _).mono ?_; rintro e w4 ⟨rfl, hb4⟩; have hB4 := hB.trans (hb4.mono hB.size))
                go_roundw
                case rel => exact ⟨k + 1, acc ++ quoteL t, by omega, by go_num, by rw [← ba_app], HT3, hal, hB4, HJ2⟩
                case measure => simp [intOf]; omega
              · have p0 : decide ((0 : Int) < (k : Int)) = true := decide_eq_true (by omega)
                have p0n : decide (0 < k) = true := decide_eq_true (by omega)
                have p0m : 0 < k := by omega
                rw [if_neg hk0] at hal
                have HT3 := Lib.hid (show acc ++ ([32] ++ quoteL t) = joinT (fs.take (k + 1)) by rw [← HT2.out, if_neg hk0]; rfl)
                clear hk0 hsep
                go_wp2_with (go_at_call 22; refine (HQ.out _).mono ?_; rintro e w4 ⟨rfl, hb4⟩; have hB4 := hB.trans (hb4.mono hB.size))
                go_roundw
                case rel => exact ⟨k + 1, acc ++ ([32] ++ quoteL t), by omega, by go_num, by rw [← List.append_assoc, ← ba_app, ← ba_app], HT3, hal, hB4, HJ2⟩
                case measure => simp [intOf]; omega
            · have B49 := Lib.hid (fun W : World => by have h := R49.out W; rw [show (⟨t.toArray⟩ : ByteArray).data.toList = t from rfl, h1] at h; exact h)
              clear h1
              by_cases hk0 : k = 0
              · have p0 : decide ((0 : Int) < (k : Int)) = false := decide_eq_false (by omega)
                have p0n : decide (0 < k) = false := decide_eq_false (by omega)
                have p0m : ¬ 0 < k := by omega
                rw [if_pos hk0] at hal
                have HT3 := Lib.hid (show acc ++ t = joinT (fs.take (k + 1)) by rw [← HT2.out, if_pos hk0]; rfl)
                clear hk0 hsep
                go_wp2_with (go_at_call 49; refine (B49.out _).mono ?_; rintro e w' ⟨rfl, rfl⟩)
                go_roundw
                case rel => exact ⟨k + 1, acc ++ t, by omega, by go_num, by rw [← ba_app], HT3, hal, hB, HJ2⟩
                case measure => simp [intOf]; omega
              · have p0 : decide ((0 : Int) < (k : Int)) = true := decide_eq_true (by omega)
                have p0n : decide (0 < k) = true := decide_eq_true (by omega)
                have p0m : 0 < k := by omega
                rw [if_neg hk0] at hal
                have HT3 := Lib.hid (show acc ++ ([32] ++ t) = joinT (fs.take (k + 1)) by rw [← HT2.out, if_neg hk0]; rfl)
                clear hk0 hsep
                go_wp2_with (go_at_call 49; refine (B49.out _).mono ?_; rintro e w' ⟨rfl, rfl⟩)
                go_roundw
                case rel => exact ⟨k + 1, acc ++ ([32] ++ t), by omega, by go_num, by rw [← List.append_assoc, ← ba_app, ← ba_app], HT3, hal, hB, HJ2⟩
                case measure => simp [intOf]; omega
          · have F := Lib.hid (show joinF fs = ([], 6) by unfold joinF; rw [if_neg h64, NL.out, if_neg (by simp), if_pos (any_of HX.out (by simp [badF, hb]))])
            have B49 := Lib.hid (fun W : World => by have h := R49.out W; rw [show (⟨t.toArray⟩ : ByteArray).data.toList = t from rfl, hb] at h; exact h)
            clear hb
            go_wp2_with (go_at_call 49; refine (B49.out _).mono ?_; rintro e w' ⟨rfl, rfl⟩)
            go_ret2
            exact ⟨by rw [F.out]; rfl, hB⟩
        · have ek : k = fs.length := by omega
          subst ek
          have HA3 := Lib.hid (show acc = joinT fs by rw [HAcc.out, List.take_length])
          have NB := Lib.hid (show fs.any badF = false from any_none (fun j f hj => HJ.out j f (List.getElem?_eq_some_iff.1 hj).1 hj))
          by_cases hlong : 8192 < acc.length
          · have q9 : decide ((8192 : Int) < (acc.length : Int)) = true := decide_eq_true (by omega)
            have F := Lib.hid (show joinF fs = ([], 3) by unfold joinF; rw [if_neg h64, NL.out, if_neg (by simp), NB.out, if_neg (by simp), ← HA3.out, if_pos hlong])
            go_wp2
            go_ret2
            exact ⟨by rw [F.out]; rfl, hB⟩
          · have q9 : decide ((8192 : Int) < (acc.length : Int)) = false := decide_eq_false (by omega)
            have F := Lib.hid (show joinF fs = (acc, 0) by unfold joinF; rw [if_neg h64, NL.out, if_neg (by simp), NB.out, if_neg (by simp), ← HA3.out, if_neg hlong])
            go_wp2
            go_ret2
            exact ⟨by rw [F.out]; rfl, hB⟩
theorem rjoin28 (v : Value) (fs : List Fld) (w : World) (hF : FAt w v fs) (hsz : ∀ (j : Nat) (f : Fld), fs[j]? = some f → f.1.length ≤ 1000000) :
    Calls Tryd.prog 28 #[v] w fun e w' => e = .returned (joinV (joinF fs)) ∧ Below w.heap.size w w' := by
  by_cases h64 : 64 < fs.length
  · have F : joinF fs = ([], 3) := by unfold joinF; rw [if_pos h64]
    rw [F]
    exact rjoin28_many v fs w hF h64
  · exact rjoin28_few v fs w hF h64 hsz
end YtkhggnfhhafkjaaDoor
end Go.Proofs
