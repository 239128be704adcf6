/- Ints, find and before, the reference's. -/
import Derived.Test.YtjkphacidpongaaSlA
import Derived.Deep.LoopGhost
namespace Go.Proofs
namespace Ytjkphacidpongaa
open Go.RowKit

set_option maxRecDepth 100000 in
set_option maxHeartbeats 1000000 in
theorem rints24_loop (A1 : Option Addr) (c1 : Nat) (A2 : Option Addr) (c2 : Nat) (xs ys : List Int) (hlen : xs.length = ys.length) (hmax : xs.length ≤ 1000000) (w : World)
    (h1 : 0 < xs.length → ∃ b off, A1 = some ⟨b, off, none⟩ ∧ ∀ j, j < xs.length → w.cell? ⟨b, off + j, none⟩ = some (.int .i64 (xs.getD j 0)))
    (h2 : 0 < ys.length → ∃ b off, A2 = some ⟨b, off, none⟩ ∧ ∀ j, j < ys.length → w.cell? ⟨b, off + j, none⟩ = some (.int .i64 (ys.getD j 0))) :
    Calls Try.prog 30 #[.slice A1 xs.length c1, .slice A2 ys.length c2] w fun e w' => e = .returned (.bool (decide (xs = ys))) ∧ Below w.heap.size w w' := by
  have HA1 := Lib.hid h1
  have HA2 := Lib.hid h2
  clear h1 h2
  have HL := Lib.hid hlen
  have q0 : ((xs.length : Int) != (ys.length : Int)) = false := by simp; omega
  rw [← hlen]
  clear hlen
  have HQ := Lib.hid q0
  clear q0
  go_enter Try.func30, Try.ntmps30
  go_wp2
  go_loopw [5] (fun i wr => ∃ k q : Nat, k ≤ xs.length ∧ i = .int .i64 k ∧ Hid (wr = w.drewN q) ∧ Hid (xs.take k = ys.take k)) (fun i _ => xs.length - (intOf i).toNat)
  case atStart => exact ⟨0, 0, by omega, rfl, Lib.hid rfl, Lib.hid rfl⟩
  case round =>
    obtain ⟨k, q, hk, rfl, hq, H⟩ := hrel
    by_cases hlt : k < xs.length
    · obtain ⟨b1, o1, rfl, h1⟩ := HA1.out (by omega)
      obtain ⟨b2, o2, rfl, h2⟩ := HA2.out (by have := HL.out; omega)
      have hk' : k < ys.length := by rw [← HL.out]; exact hlt
      have d1 : wr.cell? ⟨b1, o1 + k, none⟩ = some (.int .i64 (xs.getD k 0)) := by rw [hq.out]; exact h1 k hlt
      have d2 : wr.cell? ⟨b2, o2 + k, none⟩ = some (.int .i64 (ys.getD k 0)) := by rw [hq.out]; exact h2 k hk'
      have G1 := Lib.hid (show xs.getD k 0 = xs[k] by simp [List.getD_eq_getElem?_getD, List.getElem?_eq_getElem hlt])
      have G2 := Lib.hid (show ys.getD k 0 = ys[k] by simp [List.getD_eq_getElem?_getD, List.getElem?_eq_getElem hk'])
      have hlt' : (k : Int) < (xs.length : Int) := by omega
      clear h1 h2
      by_cases hg : xs.getD k 0 = ys.getD k 0
      · have Hn : Hid (xs.take (k + 1) = ys.take (k + 1)) := Lib.hid (by rw [List.take_add_one, List.take_add_one, H.out, List.getElem?_eq_getElem hlt, List.getElem?_eq_getElem hk', ← G1.out, ← G2.out, hg])
        have qn : (xs.getD k 0 != ys.getD k 0) = false := by simpa using hg
        clear hg
        generalize xs.getD k 0 = x at *
        generalize ys.getD k 0 = y at *
        go_wp2_with fail
        go_quiet (fail)
        go_wp2
        refine ⟨⟨k + 1, q + nq, by omega, by simp, Lib.hid (by rw [hq.out]; exact World.drewN_drewN ..), Hn⟩, ?_⟩
        show xs.length - ((k : Int) + 1).toNat < xs.length - ((k : Int)).toNat
        omega
      · have qn : (xs.getD k 0 != ys.getD k 0) = true := by simpa using hg
        have HF : Hid (decide (xs = ys) = false) := Lib.hid (by simp; intro h; subst h; exact hg rfl)
        clear hg
        generalize xs.getD k 0 = x at *
        generalize ys.getD k 0 = y at *
        go_wp2_with fail
        go_quiet (fail)
        go_wp2
        refine bodyPost_ret (v := .bool false) (by simp [results, Try.f30, go_sem]) rfl ⟨by rw [HF.out], ?_⟩
        rw [hq.out]
        exact below_drewN (below_drewN (Below.refl _ _) _) _
    · have HE : Hid (xs = ys) := Lib.hid (by have := H.out; rwa [List.take_of_length_le (by omega), List.take_of_length_le (by have := HL.out; omega)] at this)
      have ek : k = xs.length := by omega
      subst ek
      go_wp2
      refine bodyPost_ret (v := .bool true) (by simp [results, Try.f30, go_sem]) rfl ⟨by rw [HE.out]; simp, ?_⟩
      rw [hq.out]
      exact below_drewN (Below.refl _ _) _

theorem rints24_off (A1 : Option Addr) (n1 c1 : Nat) (A2 : Option Addr) (n2 c2 : Nat) (h : n1 ≠ n2) (w : World) :
    Calls Try.prog 30 #[.slice A1 n1 c1, .slice A2 n2 c2] w fun e w' => e = .returned (.bool false) ∧ Below w.heap.size w w' := by
  have q0 : ((n1 : Int) != (n2 : Int)) = true := by simp; omega
  go_enter Try.func30, Try.ntmps30
  go_wp2
  refine bodyPost_ret (v := .bool false) (by simp [results, Try.f30, go_sem]) rfl ⟨rfl, Below.refl _ _⟩

theorem rints24 (v1 v2 : Value) (xs ys : List Int) (hmax : xs.length ≤ 1000000) (w : World) (h1 : IAt w v1 xs) (h2 : IAt w v2 ys) :
    Calls Try.prog 30 #[v1, v2] w fun e w' => e = .returned (.bool (decide (xs = ys))) ∧ Below w.heap.size w w' := by
  obtain ⟨A1, c1, rfl, h1⟩ := h1
  obtain ⟨A2, c2, rfl, h2⟩ := h2
  by_cases hl : xs.length = ys.length
  · exact rints24_loop A1 c1 A2 c2 xs ys hl hmax w h1 h2
  · have hd : decide (xs = ys) = false := by simp; intro e; exact hl (by rw [e])
    rw [hd]
    exact rints24_off A1 _ c1 A2 _ c2 hl w


/-- where a number is, or -1 -/
def atF (cs : List Int) (a : Int) : Int := if hasB cs a = true then (pos a cs.length (stopI cs a) : Int) else -1
theorem pv_def (cs : List Int) (a : Int) (i : Nat) : cs.getD (pos a cs.length i) 0 = pv cs a i := rfl
set_option maxRecDepth 100000 in
set_option maxHeartbeats 1000000 in
theorem rfind40 (v : Value) (cs : List Int) (a : Int) (w : World) (h : IAt w v cs) (hz : (0 : Int) ∈ cs) (hm : cs.length ≤ 100000) (ha : 1 ≤ a ∧ a ≤ 1600) :
    Calls Try.prog 40 #[v, .int .i64 a] w fun e w' => e = .returned (.int .i64 (atF cs a)) ∧ w = w' := by
  have h0 := List.length_pos_of_mem hz
  obtain ⟨A, cap, rfl, hA⟩ := h
  obtain ⟨b1, o1, rfl, ca⟩ := hA h0
  have CA := Lib.hid ca
  have PL := Lib.hid (fun i => pos_lt a h0 i)
  have PS := Lib.hid (fun i => pos_succ a h0 i)
  have SL := Lib.hid (stop_lt hz a)
  have SA := Lib.hid (stop_at hz a)
  have SB := Lib.hid (fun j (hj : j < stopI cs a) => stop_before hj)
  have e1 := pos_cast a h0 0
  have PV := Lib.hid (pv_def cs a)
  have AF := Lib.hid (show atF cs a = if pv cs a (stopI cs a) = a then (pos a cs.length (stopI cs a) : Int) else -1 by unfold atF hasB; simp only [beq_iff_eq])
  have hmul : IntKind.i64.wrap (a * 40503) = a * 40503 := IntWalk.i64_in _ (by omega)
  obtain ⟨m, hm2⟩ : ∃ m, cs.length = m := ⟨_, rfl⟩
  have HM := Lib.hid hm2
  rw [hm2] at hm h0 e1 PL PS SL AF CA PV ⊢
  have e2 : (a * 40503) % (m : Int) = (pos a m 0 : Int) := by rw [e1]; simp
  have E2 := Lib.hid e2
  clear e2
  have mz : ((m : Int) == 0) = false := by simp; omega
  clear hA ca e1 hz hm2
  generalize atF cs a = R at *
  generalize stopI cs a = S at *
  go_enter Try.func40, Try.ntmps40
  go_wp2
  go_loopg [5] m (fun g q wr => ∃ k : Nat, g + k = m ∧ k ≤ S ∧ q = .int .i64 (pos a m k) ∧ Hid (w = wr))
  case atStart => exact ⟨0, by omega, by omega, by rw [E2.out], Lib.hid rfl⟩
  case round =>
    obtain ⟨k, hk, hkS, rfl, hw⟩ := hrel
    obtain rfl := hw.out
    have hkm : k < m := by have := SL.out; omega
    have hp := PL.out k
    have hp' : (pos a m k : Int) < (m : Int) := by omega
    have ca' := CA.out _ hp
    rw [PV.out] at ca'
    have ad1 : (⟨b1, o1, none⟩ : Addr).add (pos a m k) = ⟨b1, o1 + pos a m k, none⟩ := by unfold Addr.add; split <;> simp_all
    have hw1 : IntKind.i64.wrap ((pos a m k : Int) + 1) = (pos a m k : Int) + 1 := IntWalk.i64_in _ (by omega)
    have e3 : ((pos a m k : Int) + 1) % (m : Int) = (pos a m (k + 1) : Int) := by rw [PS.out]; simp
    have hnn : (0 : Int) ≤ (pos a m k : Int) + 1 := by omega
    by_cases hkx : k = S
    · subst hkx
      have hat := SA.out
      generalize pv cs a k = x at *
      generalize pos a m k = p at *
      by_cases hx : x = a
      · have q0 : (x != 0) = true := by simp; omega
        have q1 : (x == a) = true := by simpa using hx
        have T := Lib.hid (show R = (p : Int) by rw [AF.out, if_pos hx])
        clear hat hx
        go_wp2
        refine bodyPost_ret (v := .int .i64 p) (by simp [results, Try.f40, go_sem]) rfl ⟨by rw [T.out], rfl⟩
      · have hx0 : x = 0 := by omega
        have q0 : (x != 0) = false := by simpa using hx0
        have T := Lib.hid (show R = -1 by rw [AF.out, if_neg hx])
        clear hat hx hx0
        go_wp2
        refine bodyPost_ret (v := .int .i64 (-1)) (by simp [results, Try.f40, go_sem]) rfl ⟨by rw [T.out], rfl⟩
    · obtain ⟨h1, h2⟩ := SB.out k (by omega)
      generalize pv cs a k = x at *
      have q0 : (x != 0) = true := by simpa using h2
      have q1 : (x == a) = false := by simpa using h1
      clear h1 h2
      obtain ⟨p2, hp2⟩ : ∃ p2, pos a m (k + 1) = p2 := ⟨_, rfl⟩
      have HP2 := Lib.hid hp2
      rw [hp2] at e3
      clear hp2
      generalize pos a m k = p at *
      have HK := Lib.hid (show k ≤ S ∧ k ≠ S ∧ gk + k = m from ⟨hkS, hkx, hk⟩)
      clear hkS hkx hk
      go_wp2
      go_roundg (m - (k + 1))
      case measure => have := HK.out; omega
      case rel => exact ⟨k + 1, by omega, by have := HK.out; omega, by rw [HP2.out], Lib.hid rfl⟩
end Ytjkphacidpongaa
end Go.Proofs
