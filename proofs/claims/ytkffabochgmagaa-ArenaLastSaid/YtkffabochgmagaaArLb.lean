/- The law's before: the word at an address after so many operations. -/
import Derived.Test.YtkffabochgmagaaArLp
import Derived.Test.YtkffabochgmagaaArX
namespace Go.Proofs
namespace Ytkffabochgmagaa
open Go.RowKit

/-- what a round keeps: the word looked for is at this address after j operations -/
structure BfK (w wr : World) (ws : List Int) (ops : List AOp) (V : Int) (j b : Nat) : Prop where
  val : (stAt ws ops j).ws.getD b 0 = V
  low : Below w.heap.size w wr
set_option maxRecDepth 100000 in
set_option maxHeartbeats 2000000 in
theorem before31 (v lv : Value) (ws : List Int) (ops : List AOp) (n a : Nat) (w : World) (hv : WAt w v ws) (hl : OAt w lv ops) (hn : n ≤ ops.length) (ha : a < ws.length) (hok : okU ws ops n) (hw : ws.length ≤ 1601) (hn5 : ops.length ≤ 500) :
    Calls Try.prog 31 #[v, lv, .int .i64 (n : Int), .int .i64 (a : Int)] w fun e w' => e = .returned (.int .u64 ((stAt ws ops n).ws.getD a 0)) ∧ Below w.heap.size w w' := by
  obtain ⟨V, hV⟩ : ∃ V, (stAt ws ops n).ws.getD a 0 = V := ⟨_, rfl⟩
  rw [hV]
  have HV := Lib.hid hv
  have HL := Lib.hid hl
  have OK := Lib.hid hok
  have B0 := Lib.hid (show BfK w w ws ops V n a from ⟨hV, Below.refl _ _⟩)
  obtain ⟨A, cap, rfl, -⟩ := hv
  obtain ⟨A2, cap2, rfl, -⟩ := hl
  clear hV hok
  go_enter Try.func31, Try.ntmps31
  go_wp2
  go_loopw [3, 9] (fun av i wr => ∃ (j b : Nat) (z : Int), j ≤ n ∧ z + 1 ≤ (j : Int) ∧ (j : Int) ≤ z + 1 ∧ i = .int .i64 z ∧ av = .int .i64 (b : Int) ∧ b < ws.length ∧ Hid (BfK w wr ws ops V j b)) (fun _ i _ => (intOf i + 1).toNat)
  case atStart => exact ⟨n, a, _, by omega, by omega, by omega, rfl, rfl, ha, B0⟩
  case round =>
    clear B0
    obtain ⟨j, b, z, hj, z0, z1, rfl, rfl, hb, hB⟩ := hrel
    rcases Nat.eq_zero_or_pos j with h0 | h0
    · obtain rfl : z = -1 := by omega
      obtain rfl := h0
      obtain ⟨A', cap', e, hA⟩ := HV.out
      simp only [Value.slice.injEq] at e
      obtain ⟨rfl, -, -⟩ := e
      obtain ⟨bk, off, rfl, hc⟩ := hA (by omega)
      have h1 := hc b _ (wc_get ws b hb)
      have d := (hB.out.low.cell (p := ⟨bk, _, none⟩) (cell_lt h1)).trans h1
      have T := Lib.hid (show ws.getD b 0 = V from hB.out.val)
      have hb' : (b : Int) < (ws.length : Int) := by omega
      have hLow := Lib.hid hB.out.low
      clear h1 hc hA hB
      generalize ws.getD b 0 = x at *
      go_wp2
      go_ret
      exact ⟨by rw [← T.out]; rfl, hLow.out⟩
    · obtain ⟨k, rfl⟩ : ∃ k, j = k + 1 := ⟨j - 1, by omega⟩
      obtain rfl : z = (k : Int) := by omega
      have hk : k < ops.length := by omega
      have hk' : (k : Int) < (ops.length : Int) := by omega
      obtain ⟨A', cap', e, hA⟩ := HL.out
      simp only [Value.slice.injEq] at e
      obtain ⟨rfl, -, -⟩ := e
      obtain ⟨ob, off, rfl, hoc⟩ := hA (by omega)
      have hcl : ∀ j u, j < 5 → (opC ops[k])[j]? = some u → wr.cell? ⟨ob, off + k * 5 + j, none⟩ = some u := fun j u hj hu => by
        have h1 := hoc (k * 5 + j) u (by rw [oc_get ops k j hk hj]; exact hu)
        rw [← Nat.add_assoc] at h1
        exact (hB.out.low.cell (p := ⟨ob, _, none⟩) (cell_lt h1)).trans h1
      have hz := OK.out k hk (by omega)
      have hst := st_succ (ws := ws) hk
      have hlen := st_length ws ops k
      have HVAL := hB.out.val
      rw [hst] at HVAL
      obtain ⟨o, ho⟩ : ∃ o, ops[k] = o := ⟨_, rfl⟩
      rw [ho] at hcl hz HVAL
      obtain ⟨kd, s, t, m, val⟩ := o
      have K := ok_kinds hz
      dsimp only at K
      have d0 := hcl 0 (.int .i64 kd) (by omega) rfl
      have d1 := hcl 1 (.int .i64 s) (by omega) rfl
      have d2 := hcl 2 (.int .i64 t) (by omega) rfl
      have d3 := hcl 3 (.int .i64 m) (by omega) rfl
      have d4 := hcl 4 (.int .u64 val) (by omega) rfl
      rw [Nat.add_zero] at d0
      have BA := Lib.hid (alloc_below wr (.cells #[.int .i64 kd, .int .i64 s, .int .i64 t, .int .i64 m, .int .u64 val] 56))
      have hLow := Lib.hid (below_end hB.out.low BA.out)
      clear hcl ho hoc hA hst BA hB hz
      rcases K with ⟨rfl, hp, hs, -⟩ | ⟨rfl, hp, hs, -⟩ | ⟨rfl, hp, hp2, hs, -⟩ | ⟨rfl, hp, hs, -⟩
      · have HS := Lib.hid (show (stAt ws ops k).ws.getD b 0 = V by rw [hs] at HVAL; exact HVAL)
        clear HVAL hs hlen hp
        go_wp2
        go_roundw
        case rel => exact ⟨k, b, (k : Int) - 1, by omega, by omega, by omega, by go_num, by go_num, by omega, Lib.hid ⟨HS.out, hLow.out⟩⟩
        case measure => first | (simp [intOf]; omega) | simp [intOf]
      · rw [hlen] at hp
        obtain ⟨p1, p2, p3, p4⟩ := partB_spec.1 hp
        obtain ⟨x, rfl⟩ : ∃ x : Nat, s = (x : Int) := ⟨s.toNat, by omega⟩
        rw [hs, Int.toNat_natCast, set_at _ (by omega)] at HVAL
        by_cases hx : x = b
        · subst hx
          rw [if_pos rfl] at HVAL
          subst HVAL
          clear hs hlen hp
          go_wp2
          go_ret
          exact ⟨rfl, hLow.out⟩
        · rw [if_neg hx] at HVAL
          have HS := Lib.hid HVAL
          have qx : ((x : Int) == (b : Int)) = false := by simp only [beq_eq_false_iff_ne]; omega
          clear HVAL hs hlen hp hx
          go_wp2
          go_roundw
          case rel => exact ⟨k, b, (k : Int) - 1, by omega, by omega, by omega, by go_num, by go_num, by omega, Lib.hid ⟨HS.out, hLow.out⟩⟩
          case measure => first | (simp [intOf]; omega) | simp [intOf]
      · rw [hlen] at hp hp2
        obtain ⟨p1, p2, p3, p4⟩ := partB_spec.1 hp
        obtain ⟨r1, r2, r3, r4⟩ := partB_spec.1 hp2
        obtain ⟨x, rfl⟩ : ∃ x : Nat, s = (x : Int) := ⟨s.toNat, by omega⟩
        obtain ⟨y, rfl⟩ : ∃ y : Nat, t = (y : Int) := ⟨t.toNat, by omega⟩
        obtain ⟨g, rfl⟩ : ∃ g : Nat, m = (g : Int) := ⟨m.toNat, by omega⟩
        rw [hs, Int.toNat_natCast, Int.toNat_natCast, Int.toNat_natCast, copy_at (by omega) (by omega)] at HVAL
        clear hs hp hp2
        by_cases hy : y ≤ b
        · by_cases hg : b < y + g
          · rw [if_pos ⟨hy, hg⟩] at HVAL
            have HS := Lib.hid HVAL
            have q1 : decide ((y : Int) ≤ (b : Int)) = true := decide_eq_true (by omega)
            have q1' : decide (y ≤ b) = true := decide_eq_true hy
            have q2 : decide ((b : Int) - (y : Int) < (g : Int)) = true := decide_eq_true (by omega)
            clear HVAL hlen
            go_wp2
            go_roundw
            case rel => exact ⟨k, x + (b - y), (k : Int) - 1, by omega, by omega, by omega, by go_num, by congr 1; omega, by omega, Lib.hid ⟨HS.out, hLow.out⟩⟩
            case measure => first | (simp [intOf]; omega) | simp [intOf]
          · rw [if_neg (by omega)] at HVAL
            have HS := Lib.hid HVAL
            have q1 : decide ((y : Int) ≤ (b : Int)) = true := decide_eq_true (by omega)
            have q1' : decide (y ≤ b) = true := decide_eq_true hy
            have q2 : decide ((b : Int) - (y : Int) < (g : Int)) = false := decide_eq_false (by omega)
            clear HVAL hlen
            go_wp2
            go_roundw
            case rel => exact ⟨k, b, (k : Int) - 1, by omega, by omega, by omega, by go_num, by go_num, by omega, Lib.hid ⟨HS.out, hLow.out⟩⟩
            case measure => first | (simp [intOf]; omega) | simp [intOf]
        · rw [if_neg (by omega)] at HVAL
          have HS := Lib.hid HVAL
          have q1 : decide ((y : Int) ≤ (b : Int)) = false := decide_eq_false (by omega)
          have q1' : decide (y ≤ b) = false := decide_eq_false hy
          clear HVAL hlen
          go_wp2
          go_roundw
          case rel => exact ⟨k, b, (k : Int) - 1, by omega, by omega, by omega, by go_num, by go_num, by omega, Lib.hid ⟨HS.out, hLow.out⟩⟩
          case measure => first | (simp [intOf]; omega) | simp [intOf]
      · rw [hlen] at hp
        obtain ⟨p1, p2, p3, p4⟩ := partB_spec.1 hp
        obtain ⟨y, rfl⟩ : ∃ y : Nat, s = (y : Int) := ⟨s.toNat, by omega⟩
        obtain ⟨g, rfl⟩ : ∃ g : Nat, m = (g : Int) := ⟨m.toNat, by omega⟩
        rw [hs, Int.toNat_natCast, Int.toNat_natCast, zero_at (by omega)] at HVAL
        clear hs hp
        by_cases hy : y ≤ b
        · by_cases hg : b < y + g
          · rw [if_pos ⟨hy, hg⟩] at HVAL
            subst HVAL
            have q1 : decide ((y : Int) ≤ (b : Int)) = true := decide_eq_true (by omega)
            have q1' : decide (y ≤ b) = true := decide_eq_true hy
            have q2 : decide ((b : Int) - (y : Int) < (g : Int)) = true := decide_eq_true (by omega)
            clear hlen
            go_wp2
            go_ret
            exact ⟨rfl, hLow.out⟩
          · rw [if_neg (by omega)] at HVAL
            have HS := Lib.hid HVAL
            have q1 : decide ((y : Int) ≤ (b : Int)) = true := decide_eq_true (by omega)
            have q1' : decide (y ≤ b) = true := decide_eq_true hy
            have q2 : decide ((b : Int) - (y : Int) < (g : Int)) = false := decide_eq_false (by omega)
            clear HVAL hlen
            go_wp2
            go_roundw
            case rel => exact ⟨k, b, (k : Int) - 1, by omega, by omega, by omega, by go_num, by go_num, by omega, Lib.hid ⟨HS.out, hLow.out⟩⟩
            case measure => first | (simp [intOf]; omega) | simp [intOf]
        · rw [if_neg (by omega)] at HVAL
          have HS := Lib.hid HVAL
          have q1 : decide ((y : Int) ≤ (b : Int)) = false := decide_eq_false (by omega)
          have q1' : decide (y ≤ b) = false := decide_eq_false hy
          clear HVAL hlen
          go_wp2
          go_roundw
          case rel => exact ⟨k, b, (k : Int) - 1, by omega, by omega, by omega, by go_num, by go_num, by omega, Lib.hid ⟨HS.out, hLow.out⟩⟩
          case measure => first | (simp [intOf]; omega) | simp [intOf]
end Ytkffabochgmagaa
end Go.Proofs
