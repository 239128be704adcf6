/- runLength: how many consecutive integers a list begins with. -/
import Derived.Test.YtkhggnfhhafkjaaDoorDigits
import Derived.BigQuiet
import Derived.Deep.QuietTactic
namespace Go.Proofs
namespace YtkhggnfhhafkjaaDoor
open Go.RowKit

def runN : List Int → Nat
  | [] => 0
  | [_] => 1
  | a :: b :: r => if b = a + 1 then runN (b :: r) + 1 else 1
theorem runN_pos (a : Int) (r : List Int) : 1 ≤ runN (a :: r) := by
  cases r with
  | nil => simp [runN]
  | cons b r => simp only [runN]; split <;> omega
theorem runN_le : ∀ l : List Int, runN l ≤ l.length
  | [] => by simp [runN]
  | [_] => by simp [runN]
  | a :: b :: r => by
    have := runN_le (b :: r)
    simp only [runN, List.length_cons] at *
    split <;> omega
/-- the cells of a slice of integers -/
def IntsAt (w : World) (b off : Nat) (zs : List Int) : Prop := ∀ k z, zs[k]? = some z → w.cell? ⟨b, off + k, none⟩ = some (.int .i64 z)
theorem runN_step (zs : List Int) (k : Nat) (hk : k + 1 < zs.length) :
    runN (zs.drop k) = if zs[k + 1]?.getD 0 = zs[k]?.getD 0 + 1 then runN (zs.drop (k + 1)) + 1 else 1 := by
  rw [List.drop_eq_getElem_cons (show k < zs.length by omega), List.drop_eq_getElem_cons hk]
  rw [List.getElem?_eq_getElem hk, List.getElem?_eq_getElem (show k < zs.length by omega)]
  simp only [runN, Option.getD_some]
theorem runN_last (zs : List Int) (k : Nat) (hk : k + 1 = zs.length) : runN (zs.drop k) = 1 := by
  rw [List.drop_eq_getElem_cons (show k < zs.length by omega), List.drop_of_length_le (show zs.length ≤ k + 1 by omega)]
  simp only [runN]

def Big (z : Int) : Prop := 0 ≤ z ∧ z ≤ 1000000000
set_option maxHeartbeats 1000000 in
theorem run76 (b off cap : Nat) (zs : List Int) (hz : 0 < zs.length) (hc : zs.length ≤ cap) (hm : cap ≤ maxLen) (hb : ∀ z ∈ zs, Big z) (w : World) (hw : IntsAt w b off zs) :
    Calls Tryd.prog 76 #[.slice (some ⟨b, off, none⟩) zs.length cap] w fun e w' => e = .returned (.int .i64 (runN zs : Int)) ∧ ∃ n, w' = w.drewN n := by
  unfold maxLen at hm
  have HB := Lib.hid hb
  have HW := Lib.hid hw
  clear hb hw
  go_enter Tryd.func76, Tryd.ntmps76
  go_wp2
  go_loopw [3] (fun n wr => ∃ k q : Nat, k + 1 ≤ zs.length ∧ n = .int .i64 ((k : Int) + 1) ∧ Hid (wr = w.drewN q) ∧ Hid (runN zs = k + runN (zs.drop k))) (fun n _ => zs.length - (intOf n).toNat)
  case atStart => exact ⟨0, 0, by omega, rfl, Lib.hid rfl, Lib.hid (by simp)⟩
  case round =>
    obtain ⟨k, q, hk, rfl, hq, H⟩ := hrel
    by_cases hlt : k + 1 < zs.length
    · have c0 : wr.cell? ⟨b, off + k, none⟩ = some (.int .i64 (zs[k]?.getD 0)) := by
        rw [hq.out]
        exact HW.out k _ (by rw [List.getElem?_eq_getElem (by omega)]; rfl)
      have c1 : wr.cell? ⟨b, off + (k + 1), none⟩ = some (.int .i64 (zs[k + 1]?.getD 0)) := by
        rw [hq.out]
        exact HW.out (k + 1) _ (by rw [List.getElem?_eq_getElem (by omega)]; rfl)
      have S := Lib.hid (runN_step zs k hlt)
      have b0 : Big (zs[k]?.getD 0) := by rw [List.getElem?_eq_getElem (by omega)]; exact HB.out _ (List.getElem_mem _)
      have b1 : Big (zs[k + 1]?.getD 0) := by rw [List.getElem?_eq_getElem (by omega)]; exact HB.out _ (List.getElem_mem _)
      generalize zs[k]?.getD 0 = x at *
      generalize zs[k + 1]?.getD 0 = y at *
      obtain ⟨b00, b01⟩ := b0
      obtain ⟨b10, b11⟩ := b1
      have hlt' : (k : Int) + 1 < (zs.length : Int) := by omega
      have e1 : IntKind.i64.wrap (x + 1) = x + 1 := IntWalk.i64_in _ (by omega)
      have e2 : IntKind.i64.wrap ((k : Int) + 1 - 1) = (k : Int) := by rw [IntWalk.i64_in _ (by omega)]; omega
      by_cases hxy : y = x + 1
      · rw [if_pos hxy] at S
        have hxy' : (y == x + 1) = true := beq_iff_eq.2 hxy
        clear hxy
        go_wp2_with fail
        go_quiet (fail)
        go_wp2
        go_roundw
        case rel => exact ⟨k + 1, q + nq, by omega, by go_num, Lib.hid (by rw [hq.out, World.drewN_drewN]), Lib.hid (by rw [H.out, S.out]; omega)⟩
        case measure => simp [intOf]; omega
      · rw [if_neg hxy] at S
        have hxy' : (y == x + 1) = false := beq_eq_false_iff_ne.2 hxy
        clear hxy
        go_wp2_with fail
        go_quiet (fail)
        go_wp2
        go_ret
        exact ⟨by rw [H.out, S.out]; go_num, q + nq, by rw [hq.out, World.drewN_drewN]⟩
    · have S := Lib.hid (runN_last zs k (by omega))
      have hlt' : decide ((k : Int) + 1 < (zs.length : Int)) = false := decide_eq_false (by omega)
      have hlt2 : decide (k + 1 < zs.length) = false := decide_eq_false (by omega)
      clear hlt
      go_wp2_with fail
      go_quiet (fail)
      go_wp2
      go_ret
      exact ⟨by rw [H.out, S.out]; go_num, q + nq, by rw [hq.out, World.drewN_drewN]⟩
end YtkhggnfhhafkjaaDoor
end Go.Proofs
