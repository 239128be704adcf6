/- The written form of one byte: escaped and hex of the reference. -/
import Derived.Test.YtkhggnfhhafkjaaDoorPush
namespace Go.Proofs
namespace YtkhggnfhhafkjaaDoor
open Go.RowKit

def hexU (n : Nat) : UInt8 := ([48, 49, 50, 51, 52, 53, 54, 55, 56, 57, 97, 98, 99, 100, 101, 102] : List UInt8).getD n 0
/-- how a byte is written between quotes -/
def escL (u : UInt8) : List UInt8 :=
  if plainB u.toNat = true then [u] else if letterQ u.toNat = true then [92, UInt8.ofNat (letterZ u.toNat).toNat] else [92, 120, hexU (u.toNat / 16), hexU (u.toNat % 16)]
theorem escL_len (u : UInt8) : 1 ≤ (escL u).length ∧ (escL u).length ≤ 4 := by
  unfold escL; split
  · simp
  · split <;> simp
def quoteL (l : List UInt8) : List UInt8 := 34 :: (l.flatMap escL ++ [34])

theorem conv_new (w : World) (l : List UInt8) : (convert 38 9 (.slice (some ⟨w.heap.size, 0, none⟩) l.length l.length)).run Tryd.prog (w.alloc (.cells (bc l).toArray 5)) = .ok (.string ⟨l.toArray⟩) (w.alloc (.cells (bc l).toArray 5)) :=
  run_convert_bytes_back _ 38 9 5 ⟨w.heap.size, 0, none⟩ l.length l Tryd.underlying38 Tryd.underlying5 Tryd.underlying9 (fun j hj => by
    have e : (⟨w.heap.size, 0, none⟩ : Addr).add j = ⟨w.heap.size, j, none⟩ := by unfold Addr.add; split <;> simp_all
    rw [e, cell_of_row _ _ _ _ _ _ (heap_alloc_new w _)]
    simp [bc, hj])

theorem hex68 (k : Nat) (hk : k < 16) (w : World) : Calls Tryd.prog 68 #[.int .u8 (k : Int)] w fun e w' => e = .returned (.int .u8 ((hexU k).toNat : Int)) ∧ w = w' := by
  have hk' : k < (⟨#[48, 49, 50, 51, 52, 53, 54, 55, 56, 57, 97, 98, 99, 100, 101, 102]⟩ : ByteArray).size := hk
  go_enter Tryd.func68, Tryd.ntmps68
  go_wp2
  go_ret
  refine ⟨?_, rfl⟩
  have H : ∀ j : Fin 16, (#[48, 49, 50, 51, 52, 53, 54, 55, 56, 57, 97, 98, 99, 100, 101, 102] : Array UInt8)[j.val] = hexU j.val := by decide
  show Ending.returned (Value.int IntKind.u8 (((#[48, 49, 50, 51, 52, 53, 54, 55, 56, 57, 97, 98, 99, 100, 101, 102] : Array UInt8)[k]'hk).toNat : Int)) = _
  rw [H ⟨k, hk⟩]

theorem hex68g (n : Int) (h0 : 0 ≤ n) (h1 : n < 16) (w : World) : Calls Tryd.prog 68 #[.int .u8 n] w fun e w' => e = .returned (.int .u8 ((hexU n.toNat).toNat : Int)) ∧ w = w' := by
  obtain ⟨k, rfl⟩ := Int.eq_ofNat_of_zero_le h0
  exact hex68 k (by omega) w
theorem escL_hex {u : UInt8} (hp : plainB u.toNat = false) (hq : letterQ u.toNat = false) : escL u = [92, 120, hexU ((u.toNat : Int) / 16).toNat, hexU ((u.toNat : Int) % 16).toNat] := by
  have e1 : ((u.toNat : Int) / 16).toNat = u.toNat / 16 := by omega
  have e2 : ((u.toNat : Int) % 16).toNat = u.toNat % 16 := by omega
  rw [e1, e2]
  simp [escL, hp, hq]

set_option maxRecDepth 100000 in
theorem esc47 (u : UInt8) (w : World) : Calls Tryd.prog 47 #[.int .u8 (u.toNat : Int)] w fun e w' => e = .returned (.string ⟨(escL u).toArray⟩) ∧ Below w.heap.size w w' := by
  have hu : u.toNat < 256 := UInt8.toNat_lt u
  by_cases hp : plainB u.toNat = true
  · have T := Lib.hid (show escL u = [u] by simp [escL, hp])
    have HP := Lib.hid hp
    have HC := conv_new w [u]
    simp only [bc, List.map_cons, List.map_nil, List.length_cons, List.length_nil] at HC
    clear hp
    go_enter Tryd.func47, Tryd.ntmps47
    go_wp2_with (go_at_call 67; refine (plain67 _ _).mono ?_; rintro e w' ⟨rfl, rfl⟩; rw [HP.out])
    exact bodyPost_ret (v := .string ⟨#[u]⟩) (by simp [results, Tryd.f47, go_sem]) rfl ⟨by rw [T.out], (Below.refl _ _).alloc (Nat.le_refl _) _⟩
  · have hp' : plainB u.toNat = false := by simpa using hp
    by_cases hq : letterQ u.toNat = true
    · have HP := Lib.hid hp'
      simp only [letterQ, decide_eq_true_eq] at hq
      clear hp hp' hu
      rcases hq with h | h | h | h | h
      · have T := Lib.hid (show escL u = [92, 34] by
          obtain rfl : u = 34 := UInt8.toNat_inj.1 (show u.toNat = 34 by omega)
          rfl)
        have m0 : ((u.toNat : Int) == 34) = true := by simp [h]
        clear h
        go_enter Tryd.func47, Tryd.ntmps47
        go_wp2_with (go_at_call 67; refine (plain67 _ _).mono ?_; rintro e w' ⟨rfl, rfl⟩; rw [HP.out])
        exact bodyPost_ret (v := .string ⟨#[92, 34]⟩) (by simp [results, Tryd.f47, go_sem]) rfl ⟨by rw [T.out], Below.refl _ _⟩
      · have T := Lib.hid (show escL u = [92, 92] by
          obtain rfl : u = 92 := UInt8.toNat_inj.1 (show u.toNat = 92 by omega)
          rfl)
        have m0 : ((u.toNat : Int) == 34) = false := by simp [h]
        have m1 : ((u.toNat : Int) == 92) = true := by simp [h]
        clear h
        go_enter Tryd.func47, Tryd.ntmps47
        go_wp2_with (go_at_call 67; refine (plain67 _ _).mono ?_; rintro e w' ⟨rfl, rfl⟩; rw [HP.out])
        exact bodyPost_ret (v := .string ⟨#[92, 92]⟩) (by simp [results, Tryd.f47, go_sem]) rfl ⟨by rw [T.out], Below.refl _ _⟩
      · have T := Lib.hid (show escL u = [92, 110] by
          obtain rfl : u = 10 := UInt8.toNat_inj.1 (show u.toNat = 10 by omega)
          rfl)
        have m0 : ((u.toNat : Int) == 34) = false := by simp [h]
        have m1 : ((u.toNat : Int) == 92) = false := by simp [h]
        have m2 : ((u.toNat : Int) == 10) = true := by simp [h]
        clear h
        go_enter Tryd.func47, Tryd.ntmps47
        go_wp2_with (go_at_call 67; refine (plain67 _ _).mono ?_; rintro e w' ⟨rfl, rfl⟩; rw [HP.out])
        exact bodyPost_ret (v := .string ⟨#[92, 110]⟩) (by simp [results, Tryd.f47, go_sem]) rfl ⟨by rw [T.out], Below.refl _ _⟩
      · have T := Lib.hid (show escL u = [92, 114] by
          obtain rfl : u = 13 := UInt8.toNat_inj.1 (show u.toNat = 13 by omega)
          rfl)
        have m0 : ((u.toNat : Int) == 34) = false := by simp [h]
        have m1 : ((u.toNat : Int) == 92) = false := by simp [h]
        have m2 : ((u.toNat : Int) == 10) = false := by simp [h]
        have m3 : ((u.toNat : Int) == 13) = true := by simp [h]
        clear h
        go_enter Tryd.func47, Tryd.ntmps47
        go_wp2_with (go_at_call 67; refine (plain67 _ _).mono ?_; rintro e w' ⟨rfl, rfl⟩; rw [HP.out])
        exact bodyPost_ret (v := .string ⟨#[92, 114]⟩) (by simp [results, Tryd.f47, go_sem]) rfl ⟨by rw [T.out], Below.refl _ _⟩
      · have T := Lib.hid (show escL u = [92, 116] by
          obtain rfl : u = 9 := UInt8.toNat_inj.1 (show u.toNat = 9 by omega)
          rfl)
        have m0 : ((u.toNat : Int) == 34) = false := by simp [h]
        have m1 : ((u.toNat : Int) == 92) = false := by simp [h]
        have m2 : ((u.toNat : Int) == 10) = false := by simp [h]
        have m3 : ((u.toNat : Int) == 13) = false := by simp [h]
        have m4 : ((u.toNat : Int) == 9) = true := by simp [h]
        clear h
        go_enter Tryd.func47, Tryd.ntmps47
        go_wp2_with (go_at_call 67; refine (plain67 _ _).mono ?_; rintro e w' ⟨rfl, rfl⟩; rw [HP.out])
        exact bodyPost_ret (v := .string ⟨#[92, 116]⟩) (by simp [results, Tryd.f47, go_sem]) rfl ⟨by rw [T.out], Below.refl _ _⟩
    · have hq' : letterQ u.toNat = false := by simpa using hq
      have T := Lib.hid (show escL u = [92, 120, hexU (u.toNat / 16), hexU (u.toNat % 16)] by simp [escL, hp', hq'])
      have HC : (convert 38 9 (.slice (some ⟨w.heap.size, 0, none⟩) 2 2)).run Tryd.prog (w.alloc (.cells #[.int .u8 ((hexU (u.toNat / 16)).toNat : Int), .int .u8 ((hexU (u.toNat % 16)).toNat : Int)] 5)) = .ok (.string ⟨#[hexU (u.toNat / 16), hexU (u.toNat % 16)]⟩) (w.alloc (.cells #[.int .u8 ((hexU (u.toNat / 16)).toNat : Int), .int .u8 ((hexU (u.toNat % 16)).toNat : Int)] 5)) := conv_new w [hexU (u.toNat / 16), hexU (u.toNat % 16)]
      have HP := Lib.hid hp'
      have hn : ¬ ((u.toNat : Int) = 34 ∨ (u.toNat : Int) = 92 ∨ (u.toNat : Int) = 10 ∨ (u.toNat : Int) = 13 ∨ (u.toNat : Int) = 9) := by simpa [letterQ] using hq'
      have n1 : ((u.toNat : Int) == 34) = false := by simp; omega
      have n2 : ((u.toNat : Int) == 92) = false := by simp; omega
      have n3 : ((u.toNat : Int) == 10) = false := by simp; omega
      have n4 : ((u.toNat : Int) == 13) = false := by simp; omega
      have n5 : ((u.toNat : Int) == 9) = false := by simp; omega
      clear hp hp' hq hq' hn
      go_enter Tryd.func47, Tryd.ntmps47
      go_wp2_with (first
        | (go_at_call 67; refine (plain67 _ _).mono ?_; rintro e w' ⟨rfl, rfl⟩; rw [HP.out])
        | (go_at_call 68; refine (hex68g _ (by omega) (by omega) _).mono ?_; rintro e w' ⟨rfl, rfl⟩))
      have e : (⟨#[92, 120]⟩ ++ ⟨#[hexU (u.toNat / 16), hexU (u.toNat % 16)]⟩ : ByteArray) = ⟨#[92, 120, hexU (u.toNat / 16), hexU (u.toNat % 16)]⟩ := ByteArray.ext (by simp)
      exact bodyPost_ret (v := .string (⟨#[92, 120]⟩ ++ ⟨#[hexU (u.toNat / 16), hexU (u.toNat % 16)]⟩)) (by simp [results, Tryd.f47, go_sem]) rfl ⟨by rw [T.out, e], (Below.refl _ _).alloc (Nat.le_refl _) _⟩
end YtkhggnfhhafkjaaDoor
end Go.Proofs
