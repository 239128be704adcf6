/- Print, the reference's. -/
import Derived.Test.YtoebnjciioiccaaDoorPrn
import Derived.Test.YtoebnjciioiccaaDoorSums
import Derived.Test.YtoebnjciioiccaaDoorCtW
import Derived.Test.YtoebnjciioiccaaDoorCtG
import Derived.Test.YtoebnjciioiccaaDoorCtP
namespace Go.Proofs
namespace YtoebnjciioiccaaDoor
namespace Ct
open Go.RowKit

/-- the text of the first k numbers -/
def preL (cs : List Int) : Nat → List UInt8
  | 0 => []
  | k + 1 => (if k = 0 then [] else preL cs k ++ [32]) ++ limB k ++ [32] ++ Lib.itoa (cs.getD (limOff k) 0)
theorem preL_five (cs : List Int) : preL cs 5 = textL cs := by
  have e : partsL cs 5 = limB 0 :: [Lib.itoa (cs.getD 1 0), limB 1, Lib.itoa (cs.getD 0 0), limB 2, Lib.itoa (cs.getD 2 0), limB 3, Lib.itoa (cs.getD 3 0), limB 4, Lib.itoa (cs.getD 4 0)] := rfl
  unfold textL
  rw [e]
  simp [preL, join_cons, Lib.join_one, limOff, List.append_assoc]
theorem wName_limB (k : Nat) (hk : k < 5) : wName k = ⟨(limB k).toArray⟩ := by
  match k, hk with
  | 0, _ | 1, _ | 2, _ | 3, _ | 4, _ => rfl
theorem cat4 (a b d : List UInt8) : (⟨a.toArray⟩ : ByteArray) ++ ⟨b.toArray⟩ ++ ⟨#[32]⟩ ++ ⟨d.toArray⟩ = ⟨(a ++ b ++ [32] ++ d).toArray⟩ := by
  apply ByteArray.ext; simp
theorem cat5 (a b d : List UInt8) : (⟨a.toArray⟩ : ByteArray) ++ ⟨#[32]⟩ ++ ⟨b.toArray⟩ ++ ⟨#[32]⟩ ++ ⟨d.toArray⟩ = ⟨(a ++ [32] ++ b ++ [32] ++ d).toArray⟩ := by
  apply ByteArray.ext; simp
theorem limB_len (k : Nat) : (limB k).length ≤ 9 := by
  unfold limB; split <;> decide
theorem preL_len (cs : List Int) (h : ∀ k, (Lib.itoa (cs.getD (limOff k) 0)).length ≤ 21) (k : Nat) : (preL cs k).length ≤ 40 * k := by
  induction k with
  | zero => simp [preL]
  | succ k ih =>
    have h1 := h k
    have h2 := limB_len k
    rw [preL]
    split <;> simp only [List.length_append, List.length_cons, List.length_nil] <;> omega
theorem held1 {wa W W' : World} {a1 : Addr} {v1 : Value} (h : W.cell? a1 = some v1 ∧ Below wa.heap.size wa W) (hb : Below W.heap.size W W') : W'.cell? a1 = some v1 ∧ Below wa.heap.size wa W' :=
  ⟨(World.cell?_of_block (hb.block _ (block_lt_of_cell h.1))).trans h.1, h.2.trans (hb.mono h.2.size)⟩
set_option maxRecDepth 100000 in
theorem rprint_bad (C N S K Q : Int) (hg : ¬ good C N S K Q) (w : World) :
    Calls Tryd.prog 33 #[.agg #[.int .i64 C, .int .i64 N, .int .i64 S, .int .i64 K, .int .i64 Q]] w fun e w' => e = .returned (.tuple #[.string ⟨#[]⟩, .int .i64 7]) ∧ Below w.heap.size w w' := by
  have H14 := Lib.hid (chk14_no C N S K Q hg)
  clear hg
  go_enter Tryd.func33, Tryd.ntmps33
  go_wp2_with (go_at_call 14; refine (H14.out _).mono ?_; rintro e w1 ⟨rfl, hb1⟩; obtain ⟨hc1, hf1⟩ := bcell hb1)
  go_ret2
  exact ⟨rfl, below_alloc_l hb1⟩
/-- the numbers in the text's order -/
def numV (C N S K Q : Int) : Nat → Int
  | 0 => N
  | 1 => C
  | 2 => S
  | 3 => K
  | _ => Q
theorem num_cell (C N S K Q : Int) {W : World} {T : Nat} (h : W.heap[T]? = some (.cells #[.int .i64 N, .int .i64 C, .int .i64 S, .int .i64 K, .int .i64 Q] 59 (0, 0))) (k : Nat) (hk : k < 5) : W.cell? ⟨T, k, none⟩ = some (.int .i64 (numV C N S K Q k)) := by
  rw [cell_of_row _ _ k _ _ _ h]
  match k, hk with
  | 0, _ | 1, _ | 2, _ | 3, _ | 4, _ => rfl
theorem num_get (C N S K Q : Int) (k : Nat) (hk : k < 5) : numV C N S K Q k = [C, N, S, K, Q].getD (limOff k) 0 := by
  match k, hk with
  | 0, _ | 1, _ | 2, _ | 3, _ | 4, _ => rfl
theorem num_rng (C N S K Q : Int) (hg : good C N S K Q) (k : Nat) : 0 ≤ numV C N S K Q k ∧ numV C N S K Q k ≤ 64 := by
  obtain ⟨c0, c1, n0, n1, s0, s1, k0, k1, q0, q1⟩ := hg
  unfold numV
  split <;> omega
set_option maxRecDepth 100000 in
set_option maxHeartbeats 4000000 in
theorem rprint_good (C N S K Q : Int) (hg : good C N S K Q) (w : World) :
    Calls Tryd.prog 33 #[.agg #[.int .i64 C, .int .i64 N, .int .i64 S, .int .i64 K, .int .i64 Q]] w fun e w' => e = .returned (.tuple #[.string ⟨(textL [C, N, S, K, Q]).toArray⟩, .int .i64 0]) ∧ Below w.heap.size w w' := by
  have H14 := Lib.hid (chk14_yes C N S K Q hg)
  have HG := Lib.hid hg
  clear hg
  go_enter Tryd.func33, Tryd.ntmps33
  go_wp2_with (go_at_call 14; refine (H14.out _).mono ?_; rintro e w1 ⟨rfl, hb1⟩; obtain ⟨hc1, hf1⟩ := bcell hb1)
  have hz := hb1.size
  have hz2 : w.heap.size < w1.heap.size := by have := hz; simp at this; omega
  have B1 := Lib.hid ((below_alloc_l hb1).alloc (Nat.le_of_lt hz2) (.cells #[.int .i64 N, .int .i64 C, .int .i64 S, .int .i64 K, .int .i64 Q] 59))
  have R1 := Lib.hid (heap_alloc_new w1 (.cells #[.int .i64 N, .int .i64 C, .int .i64 S, .int .i64 K, .int .i64 Q] 59))
  clear hb1 hc1 hf1 hz
  go_loopw [6, 7] (fun s i wr => ∃ (k : Nat) (r : List UInt8), k ≤ 5 ∧ i = .int .i64 k ∧ s = .string ⟨r.toArray⟩ ∧ Hid (r = preL [C, N, S, K, Q] k) ∧ Hid (wr.heap[w1.heap.size]? = some (.cells #[.int .i64 N, .int .i64 C, .int .i64 S, .int .i64 K, .int .i64 Q] 59 (0, 0))) ∧ Hid (Below w.heap.size w wr)) (fun _ i _ => 5 - (intOf i).toNat)
  case atStart => exact ⟨0, [], by omega, rfl, rfl, Lib.hid rfl, R1, B1⟩
  case round =>
    obtain ⟨k, r, hk, hi, hs, HS, R, B⟩ := hrel
    subst hi hs
    by_cases h5 : k < 5
    · have hx : ∀ w, (Instr.index 60 wordsV (.int .i64 (k : Int))).run Tryd.prog w = .ok (.string ⟨(limB k).toArray⟩) w := fun w => by rw [← wName_limB k h5]; exact wordsV_index k h5 w
      have hn := limB_len k
      have hr : r.length ≤ 40 * k := by
        rw [HS.out]
        refine preL_len _ (fun j => ?_) k
        rw [show [C, N, S, K, Q].getD (limOff j) 0 = numV C N S K Q j from (match j with | 0 | 1 | 2 | 3 | _ + 4 => rfl)]
        have := num_rng C N S K Q HG.out j
        exact itoa_small _ this.1 this.2
      have hr' : r.length ≤ 200 := by omega
      clear hr
      have hk5 : (k : Int) < 5 := by omega
      have hk0 : (0 : Int) ≤ (k : Int) := by omega
      have wz : IntKind.i64.wrap ((k : Int) + 1) = ((k + 1 : Nat) : Int) := by rw [IntWalk.i64_in _ (by omega)]; omega
      have c0 := num_cell C N S K Q R.out k h5
      have r0 := num_rng C N S K Q HG.out k
      have D0 := Lib.hid (fun W => rdig18 (numV C N S K Q k) (by omega) (by omega) W)
      have hd : (Lib.itoa (numV C N S K Q k)).length ≤ 21 := itoa_small _ r0.1 r0.2
      clear r0
      have EN := Lib.hid (num_get C N S K Q k h5)
      have s0 := Lib.hid (show wr.drew.cell? ⟨w1.heap.size, k, none⟩ = some (.int .i64 (numV C N S K Q k)) ∧ Below wr.heap.size wr wr.drew from ⟨c0, (Below.refl _ _).drew⟩)
      obtain ⟨nb, hnb⟩ : ∃ nb, nb = limB k := ⟨_, rfl⟩
      obtain ⟨dd, hdd⟩ : ∃ dd, dd = Lib.itoa (numV C N S K Q k) := ⟨_, rfl⟩
      rw [← hnb] at hx hn
      rw [← hdd] at D0 hd
      have NB := Lib.hid hnb
      have DD := Lib.hid hdd
      clear hnb hdd
      by_cases h0 : k = 0
      · have HK := Lib.hid h0
        have q0 : decide (0 < k) = false := decide_eq_false (by omega)
        have z1 : ¬ (9223372036854775807 < r.length + nb.length) := by omega
        have z2 : ¬ (9223372036854775807 < r.length + nb.length + 1) := by omega
        have z3 : ¬ (9223372036854775807 < r.length + nb.length + 1 + dd.length) := by omega
        clear h0
        go_wp2
        go_region_held3 (fun W => W.cell? ⟨w1.heap.size, k, none⟩ = some (.int .i64 (numV C N S K Q k)) ∧ Below wr.heap.size wr W) (first | exact s0.out | exact sb1.out | exact sa1.out | exact sb2.out | exact sa2.out)
          (first
            | (go_at_call 44; refine (words44 _).mono ?_; rintro e wa ⟨rfl, hba⟩; first | (have sa2 := Lib.hid (held1 sb1.out hba); clear hba) | (have sa1 := Lib.hid (held1 s0.out hba); clear hba))
            | (go_at_call 45; refine (D0.out _).mono ?_; rintro e wb ⟨rfl, hbb⟩; first | (have sb2 := Lib.hid (held1 sa1.out hbb); clear hbb) | (have sb1 := Lib.hid (held1 s0.out hbb); clear hbb)))
        all_goals go_wp2
        all_goals go_roundw
        all_goals first
          | exact ⟨k + 1, _, by omega, by go_num, congrArg Value.string (cat4 r nb dd), Lib.hid (by rw [preL, if_pos HK.out, HS.out, NB.out, DD.out, EN.out]; try simp [preL, HK.out]), Lib.hid ((sb2.out.2.block _ (heap_lt R.out)).trans R.out), Lib.hid (B.out.trans (sb2.out.2.mono B.out.size))⟩
          | exact ⟨k + 1, _, by omega, by go_num, congrArg Value.string (cat4 r nb dd), Lib.hid (by rw [preL, if_pos HK.out, HS.out, NB.out, DD.out, EN.out]; try simp [preL, HK.out]), Lib.hid ((sa2.out.2.block _ (heap_lt R.out)).trans R.out), Lib.hid (B.out.trans (sa2.out.2.mono B.out.size))⟩
          | (simp [intOf]; omega)
      · have HK := Lib.hid h0
        have q0 : decide (0 < k) = true := decide_eq_true (by omega)
        have z0 : ¬ (9223372036854775807 < r.length + 1) := by omega
        have z1 : ¬ (9223372036854775807 < r.length + 1 + nb.length) := by omega
        have z2 : ¬ (9223372036854775807 < r.length + 1 + nb.length + 1) := by omega
        have z3 : ¬ (9223372036854775807 < r.length + 1 + nb.length + 1 + dd.length) := by omega
        clear h0
        go_wp2
        go_region_held3 (fun W => W.cell? ⟨w1.heap.size, k, none⟩ = some (.int .i64 (numV C N S K Q k)) ∧ Below wr.heap.size wr W) (first | exact s0.out | exact sb1.out | exact sa1.out | exact sb2.out | exact sa2.out)
          (first
            | (go_at_call 44; refine (words44 _).mono ?_; rintro e wa ⟨rfl, hba⟩; first | (have sa2 := Lib.hid (held1 sb1.out hba); clear hba) | (have sa1 := Lib.hid (held1 s0.out hba); clear hba))
            | (go_at_call 45; refine (D0.out _).mono ?_; rintro e wb ⟨rfl, hbb⟩; first | (have sb2 := Lib.hid (held1 sa1.out hbb); clear hbb) | (have sb1 := Lib.hid (held1 s0.out hbb); clear hbb)))
        all_goals go_wp2
        all_goals go_roundw
        all_goals first
          | exact ⟨k + 1, _, by omega, by go_num, congrArg Value.string (cat5 r nb dd), Lib.hid (by rw [preL, if_neg HK.out, HS.out, NB.out, DD.out, EN.out]; try simp [preL, HK.out]), Lib.hid ((sb2.out.2.block _ (heap_lt R.out)).trans R.out), Lib.hid (B.out.trans (sb2.out.2.mono B.out.size))⟩
          | exact ⟨k + 1, _, by omega, by go_num, congrArg Value.string (cat5 r nb dd), Lib.hid (by rw [preL, if_neg HK.out, HS.out, NB.out, DD.out, EN.out]; try simp [preL, HK.out]), Lib.hid ((sa2.out.2.block _ (heap_lt R.out)).trans R.out), Lib.hid (B.out.trans (sa2.out.2.mono B.out.size))⟩
          | (simp [intOf]; omega)
    · obtain rfl : k = 5 := by omega
      have T := Lib.hid (HS.out.trans (preL_five [C, N, S, K, Q]))
      clear HS
      go_wp2
      go_ret2
      exact ⟨by rw [T.out]; rfl, B.out⟩
end Ct
end YtoebnjciioiccaaDoor
end Go.Proofs
