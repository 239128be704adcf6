/- List. -/
import Derived.Test.YtkhggnfhhafkjaaDoorListed
namespace Go.Proofs
namespace YtkhggnfhhafkjaaDoor
open Go.RowKit

def bigB (z : Int) : Bool := decide (0 ≤ z ∧ z ≤ 1000000000)
def ascB : List Int → Bool
  | a :: b :: r => decide (a < b) && ascB (b :: r)
  | _ => true
def listF (zs : List Int) : List UInt8 × Int :=
  if 500 < zs.length then ([], 3) else if zs.all bigB = true then (if ascB zs = true then (if zs = [] then [45] else listedL zs, 0) else ([], 6)) else ([], 7)
def listV (p : List UInt8 × Int) : Value := .tuple #[.string ⟨p.1.toArray⟩, .int .i64 p.2]
theorem big_step (zs : List Int) (k : Nat) (hk : k < zs.length) : (zs.drop k).all bigB = (bigB (zs[k]?.getD 0) && (zs.drop (k + 1)).all bigB) := by
  rw [List.drop_eq_getElem_cons hk, List.all_cons, List.getElem?_eq_getElem hk]; rfl
theorem big_end (zs : List Int) (k : Nat) (hk : zs.length ≤ k) : (zs.drop k).all bigB = true := by rw [List.drop_of_length_le hk]; rfl
theorem asc_step (zs : List Int) (k : Nat) (hk : k + 1 < zs.length) : ascB (zs.drop k) = (decide (zs[k]?.getD 0 < zs[k + 1]?.getD 0) && ascB (zs.drop (k + 1))) := by
  rw [List.drop_eq_getElem_cons (show k < zs.length by omega), List.drop_eq_getElem_cons hk, List.getElem?_eq_getElem hk, List.getElem?_eq_getElem (show k < zs.length by omega)]
  simp only [ascB, Option.getD_some]
theorem asc_end (zs : List Int) (k : Nat) (hk : zs.length ≤ k + 1) : ascB (zs.drop k) = true := by
  cases h : zs.drop k with
  | nil => rfl
  | cons a r =>
    have : (zs.drop k).length ≤ 1 := by simp; omega
    rw [h] at this
    cases r with
    | nil => rfl
    | cons b r => simp at this
theorem all_big {zs : List Int} (h : zs.all bigB = true) : ∀ z ∈ zs, Big z := fun z hz => by
  have := List.all_eq_true.1 h z hz
  simpa [bigB, Big] using this

set_option maxRecDepth 100000 in
set_option maxHeartbeats 4000000 in
theorem list30 (b0 off cap : Nat) (zs : List Int) (hc : zs.length ≤ cap) (hm : cap ≤ 9223372036854775807) (w : World) (hw : IntsAt w b0 off zs) (hbl : 0 < zs.length → b0 < w.heap.size) (hL : Laid w) :
    Calls Tryd.prog 30 #[.slice (some ⟨b0, off, none⟩) zs.length cap] w fun e w' => e = .returned (listV (listF zs)) ∧ Below w.heap.size w w' := by
  have HW := Lib.hid hw
  have HL := Lib.hid hL
  clear hw hL
  by_cases h500 : 500 < zs.length
  · have T := Lib.hid (show listF zs = ([], 3) by unfold listF; rw [if_pos h500])
    have q : decide ((500 : Int) < (zs.length : Int)) = true := decide_eq_true (by omega)
    go_enter Tryd.func30, Tryd.ntmps30
    go_wp2
    go_ret2
    exact ⟨by rw [T.out]; rfl, Below.refl _ _⟩
  have q : decide ((500 : Int) < (zs.length : Int)) = false := decide_eq_false (by omega)
  go_enter Tryd.func30, Tryd.ntmps30
  go_wp2
  go_loop [12] (fun i => ∃ k : Nat, k ≤ zs.length ∧ i = .int .i64 k ∧ Hid (zs.all bigB = (zs.drop k).all bigB)) (fun i => zs.length - (intOf i).toNat)
  case atStart => exact ⟨0, by omega, rfl, Lib.hid rfl⟩
  case round =>
    obtain ⟨k, hk, rfl, H⟩ := hrel
    by_cases hlt : k < zs.length
    · have c0 : w.cell? ⟨b0, off + k, none⟩ = some (.int .i64 (zs[k]?.getD 0)) := HW.out k _ (by rw [List.getElem?_eq_getElem hlt]; rfl)
      have S := Lib.hid (big_step zs k hlt)
      generalize zs[k]?.getD 0 = z at *
      by_cases hz : 0 ≤ z ∧ z ≤ 1000000000
      · have HZ := Lib.hid (show bigB z = true by simp [bigB, hz])
        obtain ⟨h0, h1⟩ := hz
        have q1 : decide (z < 0) = false := decide_eq_false (by omega)
        have q2 : decide (1000000000 < z) = false := decide_eq_false (by omega)
        go_wp2
        go_round
        case rel => exact ⟨k + 1, by omega, by go_num, Lib.hid (by rw [H.out, S.out, HZ.out, Bool.true_and])⟩
        case measure => simp [intOf]; omega
      · have HZ : bigB z = false := by simp only [bigB]; exact decide_eq_false hz
        have T := Lib.hid (show listF zs = ([], 7) by unfold listF; rw [if_neg h500, if_neg (by rw [H.out, S.out, HZ]; simp)])
        clear HZ
        by_cases h0 : 0 ≤ z
        · have q1 : decide (z < 0) = false := decide_eq_false (by omega)
          have q2 : decide (1000000000 < z) = true := decide_eq_true (by omega)
          go_wp2
          go_ret2
          exact ⟨by rw [T.out]; rfl, Below.refl _ _⟩
        · have q1 : decide (z < 0) = true := decide_eq_true (by omega)
          go_wp2
          go_ret2
          exact ⟨by rw [T.out]; rfl, Below.refl _ _⟩
    · have E := Lib.hid (show zs.all bigB = true by rw [H.out]; exact big_end zs k (by omega))
      have hkl : k = zs.length := by omega
      subst hkl
      go_wp2
      go_loopw [6] (fun i wr => ∃ k q : Nat, (k = 0 ∨ k + 1 ≤ zs.length) ∧ i = .int .i64 ((k : Int) + 1) ∧ Hid (wr = w.drewN q) ∧ Hid (ascB zs = ascB (zs.drop k))) (fun i _ => zs.length - (intOf i).toNat)
      case atStart => exact ⟨0, 0, by omega, rfl, Lib.hid rfl, Lib.hid rfl⟩
      case round =>
        obtain ⟨k, q0, hk, rfl, hq, H2⟩ := hrel
        by_cases hlt : k + 1 < zs.length
        · have c0 : wr.cell? ⟨b0, off + k, none⟩ = some (.int .i64 (zs[k]?.getD 0)) := by rw [hq.out]; exact HW.out k _ (by rw [List.getElem?_eq_getElem (by omega)]; rfl)
          have c1 : wr.cell? ⟨b0, off + (k + 1), none⟩ = some (.int .i64 (zs[k + 1]?.getD 0)) := by rw [hq.out]; exact HW.out (k + 1) _ (by rw [List.getElem?_eq_getElem (by omega)]; rfl)
          have S := Lib.hid (asc_step zs k hlt)
          generalize zs[k]?.getD 0 = x at *
          generalize zs[k + 1]?.getD 0 = y at *
          have e2 : IntKind.i64.wrap ((k : Int) + 1 - 1) = (k : Int) := by rw [IntWalk.i64_in _ (by omega)]; omega
          have hlt' : (k : Int) + 1 < (zs.length : Int) := by omega
          by_cases hxy : x < y
          · have D := Lib.hid (show decide (x < y) = true from decide_eq_true hxy)
            have q3 : decide (y ≤ x) = false := decide_eq_false (by omega)
            go_wp2_with fail
            go_quiet (fail)
            go_wp2
            go_roundw
            case rel => exact ⟨k + 1, q0 + nq, by omega, by go_num, Lib.hid (by rw [hq.out, World.drewN_drewN]), Lib.hid (by rw [H2.out, S.out, D.out, Bool.true_and])⟩
            case measure => simp [intOf]; omega
          · have D := Lib.hid (show decide (x < y) = false from decide_eq_false hxy)
            have T := Lib.hid (show listF zs = ([], 6) by unfold listF; rw [if_neg h500, if_pos E.out, if_neg (by rw [H2.out, S.out, D.out]; simp)])
            have q3 : decide (y ≤ x) = true := decide_eq_true (by omega)
            go_wp2_with fail
            go_quiet (fail)
            go_wp2
            go_ret2
            exact ⟨by rw [T.out]; rfl, by rw [hq.out]; exact below_drewN (below_drewN (Below.refl _ _) _) _⟩
        · have A := Lib.hid (show ascB zs = true by rw [H2.out]; exact asc_end zs k (by omega))
          have hBr : Below w.heap.size w wr := by rw [hq.out]; exact below_drewN (Below.refl _ _) _
          by_cases h0 : zs.length = 0
          · have T := Lib.hid (show listF zs = ([45], 0) by unfold listF; rw [if_neg h500, if_pos E.out, if_pos A.out, if_pos (List.eq_nil_of_length_eq_zero h0)])
            have q4 : ((zs.length : Int) == 0) = true := beq_iff_eq.2 (by omega)
            clear h0
            go_wp2
            go_ret2
            exact ⟨by rw [T.out]; rfl, hBr⟩
          · have T := Lib.hid (show listF zs = (listedL zs, 0) by unfold listF; rw [if_neg h500, if_pos E.out, if_pos A.out, if_neg (fun e => h0 (by rw [e]; rfl))])
            have q4 : ((zs.length : Int) == 0) = false := beq_eq_false_iff_ne.2 (by omega)
            have hbl' := Lib.hid (hbl (by omega))
            clear h0
            go_wp2_with (go_at_call 54; refine (listed54 b0 off cap zs (by omega) hc hm (all_big E.out) _ (HW.out.below hBr hbl'.out) (Nat.lt_of_lt_of_le hbl'.out hBr.size) (HL.out.self hBr)).mono ?_; rintro e w' ⟨rfl, hb⟩)
            go_ret2
            exact ⟨by rw [T.out]; rfl, hBr.trans (hb.mono hBr.size)⟩
end YtkhggnfhhafkjaaDoor
end Go.Proofs
