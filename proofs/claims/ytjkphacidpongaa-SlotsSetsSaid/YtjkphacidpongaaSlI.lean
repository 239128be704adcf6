/- checkCells. -/
import Derived.Test.YtjkphacidpongaaSlA
import Derived.Test.YtjkphacidpongaaSlE
namespace Go.Proofs
namespace Ytjkphacidpongaa
open Go.RowKit

/-- the marks of the numbers that have been met -/
def metG (n : Nat) (l : List Int) : Array Value := ((List.range n).map fun j : Nat => Value.bool (decide (0 < j ∧ (j : Int) ∈ l))).toArray
theorem metG_size (n : Nat) (l : List Int) : (metG n l).size = n := by simp [metG]
theorem metG_get (n : Nat) (l : List Int) {j : Nat} (h : j < n) : (metG n l)[j]? = some (.bool (decide (0 < j ∧ (j : Int) ∈ l))) := by
  simp [metG, h]
theorem metG_nil (n : Nat) : Array.replicate n (Value.bool false) = metG n [] := by
  apply Array.ext
  · simp [metG]
  · intro i h1 h2
    simp [metG]
theorem metG_skip (n : Nat) (l : List Int) {x : Int} (h : x ≤ 0) : metG n (l ++ [x]) = metG n l := by
  unfold metG
  congr 1
  apply List.map_congr_left
  intro j _
  congr 1
  rw [Bool.eq_iff_iff]
  simp only [decide_eq_true_eq, List.mem_append, List.mem_singleton]
  constructor
  · rintro ⟨h1, h2 | h2⟩
    · exact ⟨h1, h2⟩
    · omega
  · rintro ⟨h1, h2⟩; exact ⟨h1, .inl h2⟩
theorem metG_set (n : Nat) (l : List Int) {x : Int} (h : 1 ≤ x ∧ x < n) : (metG n l).setIfInBounds x.toNat (.bool true) = metG n (l ++ [x]) := by
  apply Array.ext_getElem?
  intro j
  rw [Array.getElem?_setIfInBounds]
  by_cases hj : j < n
  · rw [metG_get _ _ hj, metG_get _ _ hj, metG_size]
    by_cases e : x.toNat = j
    · rw [if_pos e, if_pos (by omega)]
      congr 2
      symm
      simp only [decide_eq_true_eq, List.mem_append, List.mem_singleton]
      exact ⟨by omega, .inr (by omega)⟩
    · rw [if_neg e]
      congr 2
      rw [Bool.eq_iff_iff]
      simp only [decide_eq_true_eq, List.mem_append, List.mem_singleton]
      constructor
      · rintro ⟨h1, h2⟩; exact ⟨h1, .inl h2⟩
      · rintro ⟨h1, h2 | h2⟩
        · exact ⟨h1, h2⟩
        · omega
  · have e1 : (metG n l)[j]? = none := by rw [Array.getElem?_eq_none]; rw [metG_size]; omega
    have e2 : (metG n (l ++ [x]))[j]? = none := by rw [Array.getElem?_eq_none]; rw [metG_size]; omega
    rw [e1, e2, metG_size]
    split
    · rw [if_neg (by omega)]
    · rfl
def metC (l : List Int) : Array Value := metG 1601 l
set_option maxRecDepth 100000 in
theorem zero81 : Try.zeroCells151 = Array.replicate 1601 (Value.bool false) := by kernel_rfl
theorem met_nil : Try.zeroCells151 = metC [] := by rw [zero81, metG_nil]; rfl
theorem met_get (l : List Int) {j : Nat} (h : j < 1601) : (metC l)[j]? = some (.bool (decide (0 < j ∧ (j : Int) ∈ l))) := metG_get _ _ h
theorem met_skip (l : List Int) {x : Int} (h : x ≤ 0) : metC (l ++ [x]) = metC l := metG_skip _ _ h
theorem met_set (l : List Int) {x : Int} (h : 1 ≤ x ∧ x ≤ 1600) : (metC l).setIfInBounds x.toNat (.bool true) = metC (l ++ [x]) := metG_set _ _ (by omega)
theorem cellErr_eq (cs : List Int) (k : Nat) : cellErr cs k = if cs.getD k 0 < -1 ∨ 1600 < cs.getD k 0 then 7 else if 0 < cs.getD k 0 ∧ cs.getD k 0 ∈ cs.take k then 8 else 0 := rfl
/-- what checkCells answers -/
def cellsF (cs : List Int) : Int × Int := if errI cs < cs.length then ((errI cs : Int), cellErr cs (errI cs)) else (0, 0)
theorem cells_err {cs : List Int} {k : Nat} (hk : k < cs.length) (h : ∀ j, j < k → cellErr cs j = 0) {c : Int} (hc : cellErr cs k = c) (h0 : c ≠ 0) : cellsF cs = ((k : Int), c) := by
  have e : errI cs = k := least_eq _ (Nat.zero_le _) (by omega) (by simp [hc, h0]) (fun m _ hm => by simpa using h m hm)
  unfold cellsF
  rw [e, if_pos hk, hc]
theorem cells_ok {cs : List Int} (h : ∀ j, j < cs.length → cellErr cs j = 0) : cellsF cs = (0, 0) := by
  have e : errI cs = 0 + cs.length := least_none _ (fun m _ hm => by simpa using h m (by omega))
  unfold cellsF
  rw [e, if_neg (by omega)]
set_option maxRecDepth 100000 in
set_option maxHeartbeats 1000000 in
theorem cells55 (v : Value) (cs : List Int) (w : World) (h : IAt w v cs) (hm : cs.length ≤ 100000) :
    Calls Try.prog 84 #[v] w fun e w' => e = .returned (.tuple #[.int .i64 (cellsF cs).1, .int .i64 (cellsF cs).2]) ∧ Below w.heap.size w w' := by
  obtain ⟨A, cap, rfl, hA⟩ := h
  have HA := Lib.hid hA
  clear hA
  have hb0 := alloc_below w (.cells Try.zeroCells151 151)
  have hg0 := heap_alloc_new w (.cells Try.zeroCells151 151)
  have HE := Lib.hid (fun k (hk : k < cs.length) (h : ∀ j, j < k → cellErr cs j = 0) c (hc : cellErr cs k = c) (h0 : c ≠ 0) => cells_err hk h hc h0)
  have HO := Lib.hid (fun (h : ∀ j, j < cs.length → cellErr cs j = 0) => cells_ok h)
  obtain ⟨R, hR⟩ : ∃ R, cellsF cs = R := ⟨_, rfl⟩
  rw [hR] at HE HO ⊢
  have CE := Lib.hid (cellErr_eq cs)
  have TS := Lib.hid (fun k (hk : k < cs.length) => take_snoc hk)
  obtain ⟨m, hm2⟩ : ∃ m, cs.length = m := ⟨_, rfl⟩
  have HM := Lib.hid hm2
  rw [hm2] at hm HA HE HO TS ⊢
  clear hm2 hR
  go_enter Try.func84, Try.ntmps84
  go_upto_region 2 with fail
  generalize w.alloc (.cells Try.zeroCells151 151) = W0 at *
  rw [met_nil] at hg0
  have H0 := Lib.hid hg0
  have B0 := Lib.hid hb0
  clear hg0 hb0
  go_wp2
  go_loopw [5, 6, 9] (fun x y i wr => ∃ k : Nat, k ≤ m ∧ i = .int .i64 k ∧ Hid (∀ j, j < k → cellErr cs j = 0) ∧ Hid (wr.heap[w.heap.size]? = some (.cells (metC (cs.take k)) 151 (0, 0))) ∧ Hid (Below w.heap.size w wr)) (fun _ _ i _ => m - (intOf i).toNat)
  case atStart => exact ⟨0, by omega, rfl, Lib.hid (fun j hj => by omega), H0, B0⟩
  case round =>
    obtain ⟨k, hk, rfl, HN, HG, HB⟩ := hrel
    by_cases hlt : k < m
    rotate_left
    · have hlt' : ¬ (k : Int) < (m : Int) := by omega
      have T := HO.out (fun j hj => HN.out j (by omega))
      subst T
      go_wp2
      refine bodyPost_ret (v := .tuple #[.int .i64 0, .int .i64 0]) (by simp [results, Try.f84, go_sem]) rfl ⟨rfl, HB.out⟩
    have hlt' : (k : Int) < (m : Int) := by omega
    obtain ⟨b1, o1, rfl, ca⟩ := HA.out (by omega)
    have ca' := (HB.out.cell (cell_lt (ca k hlt))).trans (ca k hlt)
    have ad1 : (⟨b1, o1, none⟩ : Addr).add k = ⟨b1, o1 + k, none⟩ := by unfold Addr.add; split <;> simp_all
    have HX := Lib.hid (CE.out k)
    have HS := Lib.hid (TS.out k hlt)
    clear ca
    generalize cs.getD k 0 = x at *
    have FIN := Lib.hid (show ∀ c, c ≠ 0 → cellErr cs k = c → R = (↑k, c) from fun c h0 hc => HE.out k hlt HN.out c hc h0)
    have NXT := Lib.hid (show cellErr cs k = 0 → ∀ j, j < k + 1 → cellErr cs j = 0 from fun h j hj => by
      rcases Nat.lt_or_ge j k with h1 | h1
      · exact HN.out j h1
      · obtain rfl : j = k := by omega
        exact h)
    by_cases h1 : x < -1
    · have T := FIN.out 7 (by decide) (by rw [HX.out, if_pos (.inl h1)])
      subst T
      have q1 : decide (x < -1) = true := decide_eq_true h1
      clear h1 FIN
      go_wp2
      refine bodyPost_ret (v := .tuple #[.int .i64 k, .int .i64 7]) (by simp [results, Try.f84, go_sem]) rfl ⟨rfl, HB.out⟩
    have q1 : decide (x < -1) = false := decide_eq_false h1
    by_cases h2 : 1600 < x
    · have T := FIN.out 7 (by decide) (by rw [HX.out, if_pos (.inr h2)])
      subst T
      have q2 : decide (1600 < x) = true := decide_eq_true h2
      clear h1 h2 FIN
      go_wp2
      refine bodyPost_ret (v := .tuple #[.int .i64 k, .int .i64 7]) (by simp [results, Try.f84, go_sem]) rfl ⟨rfl, HB.out⟩
    have q2 : decide (1600 < x) = false := decide_eq_false h2
    have HX2 := Lib.hid (show cellErr cs k = if 0 < x ∧ x ∈ cs.take k then 8 else 0 by rw [HX.out, if_neg (by omega)])
    have AD := Lib.hid (isaddr51 x wr)
    by_cases h3 : 0 < x
    rotate_left
    · have q3 : isA x = false := by unfold isA; rw [decide_eq_false (by omega)]; rfl
      rw [q3] at AD
      have N := Lib.hid (NXT.out (by rw [HX2.out, if_neg (by omega)]))
      have G := Lib.hid (show wr.heap[w.heap.size]? = some (.cells (metC (cs.take (k + 1))) 151 (0, 0)) by rw [HS.out, met_skip _ (by omega)]; exact HG.out)
      clear h1 h2 h3 q3 FIN NXT
      go_wp2_with (go_at_call 63; refine AD.out.mono ?_; rintro e w1 ⟨rfl, rfl⟩)
      refine ⟨⟨k + 1, by omega, by simp, N, G, HB⟩, ?_⟩
      show m - ((k : Int) + 1).toNat < m - ((k : Int)).toNat
      omega
    have q3 : isA x = true := isA_iff.2 (by omega)
    rw [q3] at AD
    have hxi : x.toNat < 1601 := by omega
    have hxn : ((x.toNat : Nat) : Int) = x := Int.toNat_of_nonneg (by omega)
    have c1 : wr.cell? ⟨w.heap.size, x.toNat, none⟩ = some (.bool (decide (0 < x.toNat ∧ ((x.toNat : Nat) : Int) ∈ cs.take k))) := by rw [cell_of_row _ _ _ _ _ _ HG.out, met_get _ hxi]
    have f1 : wr.frozen? ⟨w.heap.size, x.toNat, none⟩ = false := frozen_of_row _ _ _ _ _ HG.out
    have ad2 : (⟨w.heap.size, 0, none⟩ : Addr).add x.toNat = ⟨w.heap.size, x.toNat, none⟩ := by simp [Addr.add]; exact h3
    have hx1 : 1 ≤ x ∧ x ≤ 1600 := by omega
    by_cases h4 : x ∈ cs.take k
    · have T := FIN.out 8 (by decide) (by rw [HX2.out, if_pos ⟨h3, h4⟩])
      subst T
      rw [decide_eq_true ⟨by omega, by rw [hxn]; exact h4⟩] at c1
      clear h1 h2 h3 h4 q3 FIN NXT hxn
      go_wp2_with (go_at_call 63; refine AD.out.mono ?_; rintro e w1 ⟨rfl, rfl⟩)
      refine bodyPost_ret (v := .tuple #[.int .i64 k, .int .i64 8]) (by simp [results, Try.f84, go_sem]) rfl ⟨rfl, HB.out⟩
    · have N := Lib.hid (NXT.out (by rw [HX2.out, if_neg (fun h => h4 h.2)]))
      rw [decide_eq_false (fun h => h4 (by rw [hxn] at h; exact h.2))] at c1
      have G := Lib.hid (show (wr.setCell ⟨w.heap.size, x.toNat, none⟩ (.bool true)).heap[w.heap.size]? = some (.cells (metC (cs.take (k + 1))) 151 (0, 0)) by rw [set_row HG.out, met_set _ hx1, HS.out])
      have B := Lib.hid (HB.out.setCell (p := ⟨w.heap.size, x.toNat, none⟩) (Nat.le_refl _) (.bool true))
      clear h1 h2 h3 h4 q3 FIN NXT hxn
      go_wp2_with (go_at_call 63; refine AD.out.mono ?_; rintro e w1 ⟨rfl, rfl⟩)
      refine ⟨⟨k + 1, by omega, by simp, N, G, B⟩, ?_⟩
      show m - ((k : Int) + 1).toNat < m - ((k : Int)).toNat
      omega
end Ytjkphacidpongaa
end Go.Proofs
