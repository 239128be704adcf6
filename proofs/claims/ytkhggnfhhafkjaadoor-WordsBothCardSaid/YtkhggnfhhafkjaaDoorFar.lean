/- The law lets a list of fields pass unread exactly when it has more than seventy fields, a field of more than 2100 bytes, or more than 12000 bytes in all. -/
import Derived.Test.YtkhggnfhhafkjaaDoorJoinP
namespace Go.Proofs
namespace YtkhggnfhhafkjaaDoor
open Go.RowKit

def tot (fs : List Fld) : Nat := (fs.map (·.1.length)).sum
theorem tot_step {fs : List Fld} {k : Nat} {f : Fld} (h : fs[k]? = some f) : tot (fs.take (k + 1)) = tot (fs.take k) + f.1.length := by
  rw [List.take_add_one, h, Option.toList_some]; simp [tot]
def farB (fs : List Fld) : Bool := decide (70 < fs.length) || (fs.any (fun f => decide (2100 < f.1.length)) || decide (12000 < tot fs))
theorem farB_false {fs : List Fld} (h : farB fs = false) : fs.length ≤ 70 ∧ ∀ (j : Nat) (f : Fld), fs[j]? = some f → f.1.length ≤ 2100 := by
  unfold farB at h
  simp only [Bool.or_eq_false_iff, decide_eq_false_iff_not, List.any_eq_false, decide_eq_true_eq] at h
  exact ⟨by omega, fun j f hj => by have := h.2.1 f (List.mem_of_getElem? hj); omega⟩

set_option maxRecDepth 100000 in
set_option maxHeartbeats 1000000 in
theorem far26 (v : Value) (fs : List Fld) (w : World) (hF : FAt w v fs) (hmax : fs.length ≤ 9223372036854775807) :
    Calls Tryd.prog 26 #[v] w fun e w' => e = .returned (.bool (farB fs)) ∧ w = w' := by
  obtain ⟨A, cap, rfl, hA⟩ := hF
  have HA := Lib.hid hA
  clear hA
  by_cases h70 : 70 < fs.length
  · have q0 : decide ((70 : Int) < (fs.length : Int)) = true := decide_eq_true (by omega)
    have T := Lib.hid (show farB fs = true by unfold farB; simp [h70])
    go_enter Tryd.func26, Tryd.ntmps26
    go_wp2
    go_ret
    exact ⟨by rw [T.out]; rfl, rfl⟩
  · have q0 : decide ((70 : Int) < (fs.length : Int)) = false := decide_eq_false (by omega)
    go_enter Tryd.func26, Tryd.ntmps26
    go_wp2
    go_loop [3, 4] (fun n i => ∃ k T : Nat, k ≤ fs.length ∧ i = .int .i64 k ∧ n = .int .i64 T ∧ T ≤ 2100 * k ∧ Hid (T = tot (fs.take k)) ∧ Hid (∀ (j : Nat) (f : Fld), j < k → fs[j]? = some f → ¬ 2100 < f.1.length)) (fun _ i => fs.length - (intOf i).toNat)
    case atStart => exact ⟨0, 0, by omega, rfl, rfl, by omega, Lib.hid rfl, Lib.hid (fun j f hj => by omega)⟩
    case round =>
      obtain ⟨k, T, hk, rfl, rfl, hT, HT, HJ⟩ := hrel
      by_cases hlt : k < fs.length
      · obtain ⟨b, off, rfl, hA⟩ := HA.out (by omega)
        obtain ⟨t, q, hx⟩ := get_pair hlt
        obtain ⟨d1, d2⟩ := fcells (Below.refl _ w) hA hx
        have HX := Lib.hid hx
        have hlt' : (k : Int) < (fs.length : Int) := by omega
        clear hx hA
        by_cases hl : 2100 < t.length
        · have q1 : decide ((2100 : Int) < (t.length : Int)) = true := decide_eq_true (by omega)
          have F := Lib.hid (show farB fs = true by unfold farB; rw [any_of (p := fun f => decide (2100 < f.1.length)) HX.out (by simpa using hl)]; simp)
          go_wp2
          go_ret
          exact ⟨by rw [F.out]; rfl, rfl⟩
        · have q1 : decide ((2100 : Int) < (t.length : Int)) = false := decide_eq_false (by omega)
          have HT2 := Lib.hid (show T + t.length = tot (fs.take (k + 1)) by rw [tot_step HX.out, HT.out])
          have HJ2 := Lib.hid (show ∀ (j : Nat) (f : Fld), j < k + 1 → fs[j]? = some f → ¬ 2100 < f.1.length from fun j f hj hf => by
            rcases Nat.lt_or_ge j k with h | h
            · exact HJ.out j f h hf
            · obtain rfl : j = k := by omega
              rw [HX.out] at hf
              cases hf
              exact hl)
          go_wp2
          go_round
          case rel => exact ⟨k + 1, T + t.length, by omega, by go_num, by go_num, by omega, HT2, HJ2⟩
          case measure => simp [intOf]; omega
      · have ek : k = fs.length := by omega
        subst ek
        have F := Lib.hid (show farB fs = decide ((12000 : Int) < (T : Int)) by
          have h1 := any_none (fs := fs) (p := fun f => decide (2100 < f.1.length)) (fun j f hj => by have := HJ.out j f (List.getElem?_eq_some_iff.1 hj).1 hj; simpa using this)
          have h2 : T = tot fs := by rw [HT.out, List.take_length]
          unfold farB
          rw [h1, ← h2]
          have : decide (70 < fs.length) = false := decide_eq_false h70
          rw [this, Bool.false_or, Bool.false_or]
          exact decide_eq_decide.2 (by omega))
        go_wp2
        go_ret
        exact ⟨by rw [F.out]; rfl, rfl⟩
end YtkhggnfhhafkjaaDoor
end Go.Proofs
