/- The smallest functions: isAddress, crowded, used, find (the reference's), Ints. -/
import Derived.Test.YtjkphacidpongaaGreatG00
import Derived.Test.YtjkphacidpongaaGreatG02
import Derived.Test.YtjkphacidpongaaGreatG03
import Derived.Test.YtjkphacidpongaaGreatG04
namespace Go.Proofs
namespace YtjkphacidpongaaGreat
open Go.RowKit

theorem isA_split (a : Int) : isA a = (if 1 ≤ a then decide (a ≤ 1600) else false) := by
  unfold isA
  split
  · rename_i h; rw [decide_eq_true h]; rfl
  · rename_i h; rw [decide_eq_false h]; rfl
set_option maxRecDepth 100000 in
theorem isaddr51 (a : Int) (w : World) : Calls Tryz.prog 107 #[.int .i64 a] w fun e w' => e = .returned (.bool (isA a)) ∧ w = w' := by
  rw [isA_split]
  by_cases h : 1 ≤ a
  · rw [if_pos h]
    have q : decide (1 ≤ a) = true := decide_eq_true h
    clear h
    go_enter Tryz.func107, Tryz.ntmps107
    go_wp2
    go_ret
    exact ⟨rfl, rfl⟩
  · rw [if_neg h]
    have q : decide (1 ≤ a) = false := decide_eq_false h
    clear h
    go_enter Tryz.func107, Tryz.ntmps107
    go_wp2
    go_ret
    exact ⟨rfl, rfl⟩
set_option maxRecDepth 100000 in
theorem raddr53 (a : Int) (w : World) : Calls Tryz.prog 97 #[.int .i64 a] w fun e w' => e = .returned (.bool (isA a)) ∧ w = w' := by
  rw [isA_split]
  by_cases h : 1 ≤ a
  · rw [if_pos h]
    have q : decide (1 ≤ a) = true := decide_eq_true h
    clear h
    go_enter Tryz.func97, Tryz.ntmps97
    go_wp2
    go_ret
    exact ⟨rfl, rfl⟩
  · rw [if_neg h]
    have q : decide (1 ≤ a) = false := decide_eq_false h
    clear h
    go_enter Tryz.func97, Tryz.ntmps97
    go_wp2
    go_ret
    exact ⟨rfl, rfl⟩
theorem used_snoc (l : List Int) (x : Int) : usedN (l ++ [x]) = usedN l + if x = 0 then 0 else 1 := by
  unfold usedN
  rw [List.countP_append, List.countP_singleton]
  by_cases h : x = 0 <;> simp [h]
theorem addr_snoc (l : List Int) (x : Int) : addrN (l ++ [x]) = addrN l + if 0 < x then 1 else 0 := by
  unfold addrN
  rw [List.countP_append, List.countP_singleton]
  by_cases h : 0 < x <;> simp [h]
theorem take_snoc {l : List Int} {k : Nat} (h : k < l.length) : l.take (k + 1) = l.take k ++ [l.getD k 0] := by
  rw [List.take_add_one, List.getElem?_eq_getElem h, getElem_getD h]; rfl
theorem used_le (l : List Int) : usedN l ≤ l.length := List.countP_le_length
theorem addr_le (l : List Int) : addrN l ≤ l.length := List.countP_le_length
set_option maxRecDepth 100000 in
set_option maxHeartbeats 1000000 in
theorem crowded56 (v : Value) (cs : List Int) (w : World) (h : IAt w v cs) (hm : cs.length ≤ 100000) :
    Calls Tryz.prog 126 #[v] w fun e w' => e = .returned (.bool (crowd cs)) ∧ w = w' := by
  obtain ⟨A, cap, rfl, hA⟩ := h
  have HA := Lib.hid hA
  clear hA
  have HC := Lib.hid (show crowd cs = decide ((3 : Int) * cs.length < 4 * (usedN cs : Int)) by unfold crowd; rw [Bool.eq_iff_iff]; simp only [decide_eq_true_eq]; omega)
  obtain ⟨m, hm2⟩ : ∃ m, cs.length = m := ⟨_, rfl⟩
  have HM := Lib.hid hm2
  rw [hm2] at hm ⊢
  have hu := used_le cs
  rw [hm2] at hu
  clear hm2
  go_enter Tryz.func126, Tryz.ntmps126
  go_wp2
  go_loopw [3, 5, 8] (fun n x i wr => ∃ k u : Nat, k ≤ m ∧ u ≤ k ∧ i = .int .i64 k ∧ n = .int .i64 u ∧ Hid (u = usedN (cs.take k)) ∧ Hid (w = wr)) (fun _ _ i _ => m - (intOf i).toNat)
  case atStart => exact ⟨0, 0, by omega, by omega, rfl, rfl, Lib.hid rfl, Lib.hid rfl⟩
  case round =>
    obtain ⟨k, u, hk, huk, rfl, rfl, HU, hw⟩ := hrel
    obtain rfl := hw.out
    by_cases hlt : k < m
    · have hlt' : (k : Int) < (m : Int) := by omega
      have hkl : k < cs.length := by rw [HM.out]; exact hlt
      obtain ⟨b1, o1, rfl, ca⟩ := HA.out (by omega)
      have ca' := ca k hkl
      have ad1 : (⟨b1, o1, none⟩ : Addr).add k = ⟨b1, o1 + k, none⟩ := by unfold Addr.add; split <;> simp_all
      have LS := Lib.hid (show usedN (cs.take (k + 1)) = u + if cs.getD k 0 = 0 then 0 else 1 by rw [take_snoc hkl, used_snoc, HU.out])
      generalize cs.getD k 0 = x at *
      clear ca
      by_cases hx : x = 0
      · have q3 : (x != 0) = false := by simpa using hx
        have HX := Lib.hid hx
        clear hx
        go_wp2
        refine ⟨⟨k + 1, u, by omega, by omega, by simp, rfl, Lib.hid (by rw [LS.out, if_pos HX.out]; rfl), Lib.hid trivial⟩, ?_⟩
        show m - ((k : Int) + 1).toNat < m - ((k : Int)).toNat
        omega
      · have q3 : (x != 0) = true := by simpa using hx
        have HX := Lib.hid hx
        clear hx
        go_wp2
        refine ⟨⟨k + 1, u + 1, by omega, by omega, by simp, by simp, Lib.hid (by rw [LS.out, if_neg HX.out]), Lib.hid trivial⟩, ?_⟩
        show m - ((k : Int) + 1).toNat < m - ((k : Int)).toNat
        omega
    · have hlt' : ¬ (k : Int) < (m : Int) := by omega
      have T := Lib.hid (show crowd cs = decide ((3 : Int) * m < 4 * (u : Int)) by rw [HC.out, HU.out, List.take_of_length_le (by rw [HM.out]; omega), HM.out])
      clear HU HC
      go_wp2
      refine bodyPost_ret (v := .bool (decide ((3 : Int) * m < 4 * (u : Int)))) (by simp [results, Tryz.f126, go_sem]) rfl ⟨by rw [T.out], rfl⟩
set_option maxRecDepth 100000 in
set_option maxHeartbeats 1000000 in
theorem rused39 (v : Value) (cs : List Int) (w : World) (h : IAt w v cs) (hm : cs.length ≤ 100000) :
    Calls Tryz.prog 83 #[v] w fun e w' => e = .returned (.tuple #[.int .i64 (usedN cs), .int .i64 (addrN cs)]) ∧ w = w' := by
  obtain ⟨A, cap, rfl, hA⟩ := h
  have HA := Lib.hid hA
  clear hA
  obtain ⟨m, hm2⟩ : ∃ m, cs.length = m := ⟨_, rfl⟩
  have HM := Lib.hid hm2
  rw [hm2] at hm ⊢
  clear hm2
  go_enter Tryz.func83, Tryz.ntmps83
  go_wp2
  go_loopw [4, 5, 6] (fun n o i wr => ∃ k u v : Nat, k ≤ m ∧ u ≤ k ∧ v ≤ k ∧ i = .int .i64 k ∧ n = .int .i64 u ∧ o = .int .i64 v ∧ Hid (u = usedN (cs.take k)) ∧ Hid (v = addrN (cs.take k)) ∧ Hid (w = wr)) (fun _ _ i _ => m - (intOf i).toNat)
  case atStart => exact ⟨0, 0, 0, by omega, by omega, by omega, rfl, rfl, rfl, Lib.hid rfl, Lib.hid rfl, Lib.hid rfl⟩
  case round =>
    obtain ⟨k, u, v, hk, huk, hvk, rfl, rfl, rfl, HU, HV, hw⟩ := hrel
    obtain rfl := hw.out
    by_cases hlt : k < m
    · have hlt' : (k : Int) < (m : Int) := by omega
      have hkl : k < cs.length := by rw [HM.out]; exact hlt
      obtain ⟨b1, o1, rfl, ca⟩ := HA.out (by omega)
      have ca' := ca k hkl
      have ad1 : (⟨b1, o1, none⟩ : Addr).add k = ⟨b1, o1 + k, none⟩ := by unfold Addr.add; split <;> simp_all
      have LS := Lib.hid (show usedN (cs.take (k + 1)) = u + if cs.getD k 0 = 0 then 0 else 1 by rw [take_snoc hkl, used_snoc, HU.out])
      have LV := Lib.hid (show addrN (cs.take (k + 1)) = v + if 0 < cs.getD k 0 then 1 else 0 by rw [take_snoc hkl, addr_snoc, HV.out])
      generalize cs.getD k 0 = x at *
      clear ca
      have fin : ∀ (U V : Int) (u' v' : Nat), U = u' → V = v' → u' ≤ u + 1 → v' ≤ v + 1 → u' = usedN (cs.take (k + 1)) → v' = addrN (cs.take (k + 1)) → (∃ k_1 u_1 v_1 : Nat, k_1 ≤ m ∧ u_1 ≤ k_1 ∧ v_1 ≤ k_1 ∧ Value.int .i64 ((k : Int) + 1) = .int .i64 k_1 ∧ Value.int .i64 U = .int .i64 u_1 ∧ Value.int .i64 V = .int .i64 v_1 ∧ Hid (u_1 = usedN (cs.take k_1)) ∧ Hid (v_1 = addrN (cs.take k_1)) ∧ Hid True) ∧ m - (intOf (.int .i64 ((k : Int) + 1))).toNat < m - (intOf (.int .i64 (k : Int))).toNat := by
        intro U V u' v' e1 e2 h1 h2 h3 h4
        refine ⟨⟨k + 1, u', v', by omega, by omega, by omega, by simp, by rw [e1], by rw [e2], Lib.hid h3, Lib.hid h4, Lib.hid trivial⟩, ?_⟩
        show m - ((k : Int) + 1).toNat < m - ((k : Int)).toNat
        omega
      have FIN := Lib.hid fin
      clear fin
      by_cases hx : x = 0
      · have q3 : (x != 0) = false := by simpa using hx
        have q4 : decide (0 < x) = false := by simp [hx]
        have HX := Lib.hid (show x = 0 from hx)
        clear hx
        go_wp2
        exact FIN.out _ _ u v rfl rfl (by omega) (by omega) (by rw [LS.out, if_pos HX.out]; rfl) (by rw [LV.out, if_neg (by rw [HX.out]; omega)]; rfl)
      · have q3 : (x != 0) = true := by simpa using hx
        have HX := Lib.hid hx
        clear hx
        by_cases hy : 0 < x
        · have q4 : decide (0 < x) = true := decide_eq_true hy
          have HY := Lib.hid hy
          clear hy
          go_wp2
          exact FIN.out _ _ (u + 1) (v + 1) (by simp) (by simp) (by omega) (by omega) (by rw [LS.out, if_neg HX.out]) (by rw [LV.out, if_pos HY.out])
        · have q4 : decide (0 < x) = false := decide_eq_false hy
          have HY := Lib.hid hy
          clear hy
          go_wp2
          exact FIN.out _ _ (u + 1) v (by simp) rfl (by omega) (by omega) (by rw [LS.out, if_neg HX.out]) (by rw [LV.out, if_neg HY.out]; rfl)
    · have hlt' : ¬ (k : Int) < (m : Int) := by omega
      have T := Lib.hid (show usedN cs = u ∧ addrN cs = v by rw [HU.out, HV.out, List.take_of_length_le (by rw [HM.out]; omega)]; exact ⟨rfl, rfl⟩)
      clear HU HV
      go_wp2
      refine bodyPost_ret (v := .tuple #[.int .i64 u, .int .i64 v]) (by simp [results, Tryz.f83, go_sem]) rfl ⟨by rw [T.out.1, T.out.2], rfl⟩

end YtjkphacidpongaaGreat
end Go.Proofs
/- checkCells. -/
namespace Go.Proofs
namespace YtjkphacidpongaaGreat
open Go.RowKit

/-- the marks of the numbers that have been met -/
def metG (n : Nat) (l : List Int) : Array Value := ((List.range n).map fun j : Nat => Value.bool (decide (0 < j ∧ (j : Int) ∈ l))).toArray
theorem metG_size (n : Nat) (l : List Int) : (metG n l).size = n := by simp [metG]
theorem metG_get (n : Nat) (l : List Int) {j : Nat} (h : j < n) : (metG n l)[j]? = some (.bool (decide (0 < j ∧ (j : Int) ∈ l))) := by
  simp [metG, h]
theorem metG_nil (n : Nat) : Array.replicate n (Value.bool false) = metG n [] := by
  apply Array.ext
  · simp [metG]
  · intro i h1 h2
    simp [metG]
theorem metG_skip (n : Nat) (l : List Int) {x : Int} (h : x ≤ 0) : metG n (l ++ [x]) = metG n l := by
  unfold metG
  congr 1
  apply List.map_congr_left
  intro j _
  congr 1
  rw [Bool.eq_iff_iff]
  simp only [decide_eq_true_eq, List.mem_append, List.mem_singleton]
  constructor
  · rintro ⟨h1, h2 | h2⟩
    · exact ⟨h1, h2⟩
    · omega
  · rintro ⟨h1, h2⟩; exact ⟨h1, .inl h2⟩
theorem metG_set (n : Nat) (l : List Int) {x : Int} (h : 1 ≤ x ∧ x < n) : (metG n l).setIfInBounds x.toNat (.bool true) = metG n (l ++ [x]) := by
  apply Array.ext_getElem?
  intro j
  rw [Array.getElem?_setIfInBounds]
  by_cases hj : j < n
  · rw [metG_get _ _ hj, metG_get _ _ hj, metG_size]
    by_cases e : x.toNat = j
    · rw [if_pos e, if_pos (by omega)]
      congr 2
      symm
      simp only [decide_eq_true_eq, List.mem_append, List.mem_singleton]
      exact ⟨by omega, .inr (by omega)⟩
    · rw [if_neg e]
      congr 2
      rw [Bool.eq_iff_iff]
      simp only [decide_eq_true_eq, List.mem_append, List.mem_singleton]
      constructor
      · rintro ⟨h1, h2⟩; exact ⟨h1, .inl h2⟩
      · rintro ⟨h1, h2 | h2⟩
        · exact ⟨h1, h2⟩
        · omega
  · have e1 : (metG n l)[j]? = none := by rw [Array.getElem?_eq_none]; rw [metG_size]; omega
    have e2 : (metG n (l ++ [x]))[j]? = none := by rw [Array.getElem?_eq_none]; rw [metG_size]; omega
    rw [e1, e2, metG_size]
    split
    · rw [if_neg (by omega)]
    · rfl
def metC (l : List Int) : Array Value := metG 1601 l
set_option maxRecDepth 100000 in
theorem zero81 : Tryz.zeroCells160 = Array.replicate 1601 (Value.bool false) := by kernel_rfl
theorem met_nil : Tryz.zeroCells160 = metC [] := by rw [zero81, metG_nil]; rfl
theorem met_get (l : List Int) {j : Nat} (h : j < 1601) : (metC l)[j]? = some (.bool (decide (0 < j ∧ (j : Int) ∈ l))) := metG_get _ _ h
theorem met_skip (l : List Int) {x : Int} (h : x ≤ 0) : metC (l ++ [x]) = metC l := metG_skip _ _ h
theorem met_set (l : List Int) {x : Int} (h : 1 ≤ x ∧ x ≤ 1600) : (metC l).setIfInBounds x.toNat (.bool true) = metC (l ++ [x]) := metG_set _ _ (by omega)
theorem cellErr_eq (cs : List Int) (k : Nat) : cellErr cs k = if cs.getD k 0 < -1 ∨ 1600 < cs.getD k 0 then 7 else if 0 < cs.getD k 0 ∧ cs.getD k 0 ∈ cs.take k then 8 else 0 := rfl
/-- what checkCells answers -/
def cellsF (cs : List Int) : Int × Int := if errI cs < cs.length then ((errI cs : Int), cellErr cs (errI cs)) else (0, 0)
theorem cells_err {cs : List Int} {k : Nat} (hk : k < cs.length) (h : ∀ j, j < k → cellErr cs j = 0) {c : Int} (hc : cellErr cs k = c) (h0 : c ≠ 0) : cellsF cs = ((k : Int), c) := by
  have e : errI cs = k := least_eq _ (Nat.zero_le _) (by omega) (by simp [hc, h0]) (fun m _ hm => by simpa using h m hm)
  unfold cellsF
  rw [e, if_pos hk, hc]
theorem cells_ok {cs : List Int} (h : ∀ j, j < cs.length → cellErr cs j = 0) : cellsF cs = (0, 0) := by
  have e : errI cs = 0 + cs.length := least_none _ (fun m _ hm => by simpa using h m (by omega))
  unfold cellsF
  rw [e, if_neg (by omega)]
set_option maxRecDepth 100000 in
set_option maxHeartbeats 1000000 in
theorem cells55 (v : Value) (cs : List Int) (w : World) (h : IAt w v cs) (hm : cs.length ≤ 100000) :
    Calls Tryz.prog 139 #[v] w fun e w' => e = .returned (.tuple #[.int .i64 (cellsF cs).1, .int .i64 (cellsF cs).2]) ∧ Below w.heap.size w w' := by
  obtain ⟨A, cap, rfl, hA⟩ := h
  have HA := Lib.hid hA
  clear hA
  have hb0 := alloc_below w (.cells Tryz.zeroCells160 160)
  have hg0 := heap_alloc_new w (.cells Tryz.zeroCells160 160)
  have HE := Lib.hid (fun k (hk : k < cs.length) (h : ∀ j, j < k → cellErr cs j = 0) c (hc : cellErr cs k = c) (h0 : c ≠ 0) => cells_err hk h hc h0)
  have HO := Lib.hid (fun (h : ∀ j, j < cs.length → cellErr cs j = 0) => cells_ok h)
  obtain ⟨R, hR⟩ : ∃ R, cellsF cs = R := ⟨_, rfl⟩
  rw [hR] at HE HO ⊢
  have CE := Lib.hid (cellErr_eq cs)
  have TS := Lib.hid (fun k (hk : k < cs.length) => take_snoc hk)
  obtain ⟨m, hm2⟩ : ∃ m, cs.length = m := ⟨_, rfl⟩
  have HM := Lib.hid hm2
  rw [hm2] at hm HA HE HO TS ⊢
  clear hm2 hR
  go_enter Tryz.func139, Tryz.ntmps139
  go_upto_region 2 with fail
  generalize w.alloc (.cells Tryz.zeroCells160 160) = W0 at *
  rw [met_nil] at hg0
  have H0 := Lib.hid hg0
  have B0 := Lib.hid hb0
  clear hg0 hb0
  go_wp2
  go_loopw [5, 6, 9] (fun x y i wr => ∃ k : Nat, k ≤ m ∧ i = .int .i64 k ∧ Hid (∀ j, j < k → cellErr cs j = 0) ∧ Hid (wr.heap[w.heap.size]? = some (.cells (metC (cs.take k)) 160 (0, 0))) ∧ Hid (Below w.heap.size w wr)) (fun _ _ i _ => m - (intOf i).toNat)
  case atStart => exact ⟨0, by omega, rfl, Lib.hid (fun j hj => by omega), H0, B0⟩
  case round =>
    obtain ⟨k, hk, rfl, HN, HG, HB⟩ := hrel
    by_cases hlt : k < m
    rotate_left
    · have hlt' : ¬ (k : Int) < (m : Int) := by omega
      have T := HO.out (fun j hj => HN.out j (by omega))
      subst T
      go_wp2
      refine bodyPost_ret (v := .tuple #[.int .i64 0, .int .i64 0]) (by simp [results, Tryz.f139, go_sem]) rfl ⟨rfl, HB.out⟩
    have hlt' : (k : Int) < (m : Int) := by omega
    obtain ⟨b1, o1, rfl, ca⟩ := HA.out (by omega)
    have ca' := (HB.out.cell (cell_lt (ca k hlt))).trans (ca k hlt)
    have ad1 : (⟨b1, o1, none⟩ : Addr).add k = ⟨b1, o1 + k, none⟩ := by unfold Addr.add; split <;> simp_all
    have HX := Lib.hid (CE.out k)
    have HS := Lib.hid (TS.out k hlt)
    clear ca
    generalize cs.getD k 0 = x at *
    have FIN := Lib.hid (show ∀ c, c ≠ 0 → cellErr cs k = c → R = (↑k, c) from fun c h0 hc => HE.out k hlt HN.out c hc h0)
    have NXT := Lib.hid (show cellErr cs k = 0 → ∀ j, j < k + 1 → cellErr cs j = 0 from fun h j hj => by
      rcases Nat.lt_or_ge j k with h1 | h1
      · exact HN.out j h1
      · obtain rfl : j = k := by omega
        exact h)
    by_cases h1 : x < -1
    · have T := FIN.out 7 (by decide) (by rw [HX.out, if_pos (.inl h1)])
      subst T
      have q1 : decide (x < -1) = true := decide_eq_true h1
      clear h1 FIN
      go_wp2
      refine bodyPost_ret (v := .tuple #[.int .i64 k, .int .i64 7]) (by simp [results, Tryz.f139, go_sem]) rfl ⟨rfl, HB.out⟩
    have q1 : decide (x < -1) = false := decide_eq_false h1
    by_cases h2 : 1600 < x
    · have T := FIN.out 7 (by decide) (by rw [HX.out, if_pos (.inr h2)])
      subst T
      have q2 : decide (1600 < x) = true := decide_eq_true h2
      clear h1 h2 FIN
      go_wp2
      refine bodyPost_ret (v := .tuple #[.int .i64 k, .int .i64 7]) (by simp [results, Tryz.f139, go_sem]) rfl ⟨rfl, HB.out⟩
    have q2 : decide (1600 < x) = false := decide_eq_false h2
    have HX2 := Lib.hid (show cellErr cs k = if 0 < x ∧ x ∈ cs.take k then 8 else 0 by rw [HX.out, if_neg (by omega)])
    have AD := Lib.hid (isaddr51 x wr)
    by_cases h3 : 0 < x
    rotate_left
    · have q3 : isA x = false := by unfold isA; rw [decide_eq_false (by omega)]; rfl
      rw [q3] at AD
      have N := Lib.hid (NXT.out (by rw [HX2.out, if_neg (by omega)]))
      have G := Lib.hid (show wr.heap[w.heap.size]? = some (.cells (metC (cs.take (k + 1))) 160 (0, 0)) by rw [HS.out, met_skip _ (by omega)]; exact HG.out)
      clear h1 h2 h3 q3 FIN NXT
      go_wp2_with (go_at_call 107; refine AD.out.mono ?_; rintro e w1 ⟨rfl, rfl⟩)
      refine ⟨⟨k + 1, by omega, by simp, N, G, HB⟩, ?_⟩
      show m - ((k : Int) + 1).toNat < m - ((k : Int)).toNat
      omega
    have q3 : isA x = true := isA_iff.2 (by omega)
    rw [q3] at AD
    have hxi : x.toNat < 1601 := by omega
    have hxn : ((x.toNat : Nat) : Int) = x := Int.toNat_of_nonneg (by omega)
    have c1 : wr.cell? ⟨w.heap.size, x.toNat, none⟩ = some (.bool (decide (0 < x.toNat ∧ ((x.toNat : Nat) : Int) ∈ cs.take k))) := by rw [cell_of_row _ _ _ _ _ _ HG.out, met_get _ hxi]
    have f1 : wr.frozen? ⟨w.heap.size, x.toNat, none⟩ = false := frozen_of_row _ _ _ _ _ HG.out
    have ad2 : (⟨w.heap.size, 0, none⟩ : Addr).add x.toNat = ⟨w.heap.size, x.toNat, none⟩ := by simp [Addr.add]; exact h3
    have hx1 : 1 ≤ x ∧ x ≤ 1600 := by omega
    by_cases h4 : x ∈ cs.take k
    · have T := FIN.out 8 (by decide) (by rw [HX2.out, if_pos ⟨h3, h4⟩])
      subst T
      rw [decide_eq_true ⟨by omega, by rw [hxn]; exact h4⟩] at c1
      clear h1 h2 h3 h4 q3 FIN NXT hxn
      go_wp2_with (go_at_call 107; refine AD.out.mono ?_; rintro e w1 ⟨rfl, rfl⟩)
      refine bodyPost_ret (v := .tuple #[.int .i64 k, .int .i64 8]) (by simp [results, Tryz.f139, go_sem]) rfl ⟨rfl, HB.out⟩
    · have N := Lib.hid (NXT.out (by rw [HX2.out, if_neg (fun h => h4 h.2)]))
      rw [decide_eq_false (fun h => h4 (by rw [hxn] at h; exact h.2))] at c1
      have G := Lib.hid (show (wr.setCell ⟨w.heap.size, x.toNat, none⟩ (.bool true)).heap[w.heap.size]? = some (.cells (metC (cs.take (k + 1))) 160 (0, 0)) by rw [set_row HG.out, met_set _ hx1, HS.out])
      have B := Lib.hid (HB.out.setCell (p := ⟨w.heap.size, x.toNat, none⟩) (Nat.le_refl _) (.bool true))
      clear h1 h2 h3 h4 q3 FIN NXT hxn
      go_wp2_with (go_at_call 107; refine AD.out.mono ?_; rintro e w1 ⟨rfl, rfl⟩)
      refine ⟨⟨k + 1, by omega, by simp, N, G, B⟩, ?_⟩
      show m - ((k : Int) + 1).toNat < m - ((k : Int)).toNat
      omega
end YtjkphacidpongaaGreat
end Go.Proofs
/- checkPaths, check and Check, the program's. -/
namespace Go.Proofs
namespace YtjkphacidpongaaGreat
open Go.RowKit

/-- what checkPaths answers -/
def pathsF (cs : List Int) : Int × Int := if offI cs < cs.length then ((offI cs : Int), 6) else (0, 0)
theorem paths_err {cs : List Int} {k : Nat} (hk : k < cs.length) (h : ∀ j, j < k → offB cs j = false) (hc : offB cs k = true) : pathsF cs = ((k : Int), 6) := by
  have e : offI cs = k := least_eq _ (Nat.zero_le _) (by omega) hc (fun m _ hm => h m hm)
  unfold pathsF
  rw [e, if_pos hk]
theorem paths_ok {cs : List Int} (h : ∀ j, j < cs.length → offB cs j = false) : pathsF cs = (0, 0) := by
  have e : offI cs = 0 + cs.length := least_none _ (fun m _ hm => h m (by omega))
  unfold pathsF
  rw [e, if_neg (by omega)]
theorem offB_eq (cs : List Int) (i : Nat) : offB cs i = (decide (0 < cs.getD i 0) && !hasB cs (cs.getD i 0)) := rfl
set_option maxRecDepth 100000 in
set_option maxHeartbeats 1000000 in
theorem paths57 (v : Value) (cs : List Int) (w : World) (h : IAt w v cs) (hz : (0 : Int) ∈ cs) (hr : ∀ c ∈ cs, -1 ≤ c ∧ c ≤ 1600) (hm : cs.length ≤ 100000) :
    Calls Tryz.prog 140 #[v] w fun e w' => e = .returned (.tuple #[.int .i64 (pathsF cs).1, .int .i64 (pathsF cs).2]) ∧ Below w.heap.size w w' := by
  have FD := Lib.hid (fun W (hb : Below w.heap.size w W) a (ha : 1 ≤ a ∧ a ≤ 1600) => find46 v cs a W (h.below hb) hz (fun c hc => (hr c hc).1) hm ha)
  have RG := Lib.hid (fun i (hi : i < cs.length) => hr _ (getD_mem hi))
  obtain ⟨A, cap, rfl, hA⟩ := h
  have HA := Lib.hid hA
  clear hA hz hr
  have HE := Lib.hid (fun k (hk : k < cs.length) (h : ∀ j, j < k → offB cs j = false) (hc : offB cs k = true) => paths_err hk h hc)
  have HO := Lib.hid (fun (h : ∀ j, j < cs.length → offB cs j = false) => paths_ok h)
  obtain ⟨R, hR⟩ : ∃ R, pathsF cs = R := ⟨_, rfl⟩
  rw [hR] at HE HO ⊢
  have CE := Lib.hid (offB_eq cs)
  obtain ⟨m, hm2⟩ : ∃ m, cs.length = m := ⟨_, rfl⟩
  rw [hm2] at hm HA HE HO RG FD ⊢
  clear hm2 hR
  go_enter Tryz.func140, Tryz.ntmps140
  go_wp2
  go_loopw [4, 5, 6, 7, 10] (fun a b c d i wr => ∃ k : Nat, k ≤ m ∧ i = .int .i64 k ∧ Hid (∀ j, j < k → offB cs j = false) ∧ Hid (Below w.heap.size w wr)) (fun _ _ _ _ i _ => m - (intOf i).toNat)
  case atStart => exact ⟨0, by omega, rfl, Lib.hid (fun j hj => by omega), Lib.hid (Below.refl _ _)⟩
  case round =>
    obtain ⟨k, hk, rfl, HN, HB⟩ := hrel
    by_cases hlt : k < m
    rotate_left
    · have hlt' : ¬ (k : Int) < (m : Int) := by omega
      have T := HO.out (fun j hj => HN.out j (by omega))
      subst T
      go_wp2
      refine bodyPost_ret (v := .tuple #[.int .i64 0, .int .i64 0]) (by simp [results, Tryz.f140, go_sem]) rfl ⟨rfl, HB.out⟩
    have hlt' : (k : Int) < (m : Int) := by omega
    obtain ⟨b1, o1, rfl, ca⟩ := HA.out (by omega)
    have ca' := (HB.out.cell (cell_lt (ca k hlt))).trans (ca k hlt)
    have ad1 : (⟨b1, o1, none⟩ : Addr).add k = ⟨b1, o1 + k, none⟩ := by unfold Addr.add; split <;> simp_all
    have HX := Lib.hid (CE.out k)
    have FIN := Lib.hid (show offB cs k = true → R = (↑k, 6) from fun hc => HE.out k hlt HN.out hc)
    have NXT := Lib.hid (show offB cs k = false → ∀ j, j < k + 1 → offB cs j = false from fun h j hj => by
      rcases Nat.lt_or_ge j k with h1 | h1
      · exact HN.out j h1
      · obtain rfl : j = k := by omega
        exact h)
    have rg := RG.out k hlt
    clear ca
    generalize cs.getD k 0 = x at *
    have AD := Lib.hid (isaddr51 x wr)
    by_cases h3 : 0 < x
    rotate_left
    · have q3 : isA x = false := by unfold isA; rw [decide_eq_false (by omega)]; rfl
      rw [q3] at AD
      have N := Lib.hid (NXT.out (by rw [HX.out, decide_eq_false h3]; rfl))
      clear h3 q3 FIN NXT
      go_wp2_with (go_at_call 107; refine AD.out.mono ?_; rintro e w1 ⟨rfl, rfl⟩)
      refine ⟨⟨k + 1, by omega, by simp, N, HB⟩, ?_⟩
      show m - ((k : Int) + 1).toNat < m - ((k : Int)).toNat
      omega
    have q3 : isA x = true := isA_iff.2 (by omega)
    rw [q3] at AD
    have FX := Lib.hid (FD.out wr HB.out x (by omega))
    have HX2 := Lib.hid (show offB cs k = !hasB cs x by rw [HX.out, decide_eq_true h3]; rfl)
    generalize findF cs x = p at *
    cases hh : hasB cs x with
    | true =>
      rw [hh] at FX
      have N := Lib.hid (NXT.out (by rw [HX2.out, hh]; rfl))
      clear h3 q3 FIN NXT HX2 HX hh
      go_wp2_with (first | (go_at_call 107; refine AD.out.mono ?_; rintro e w1 ⟨rfl, rfl⟩) | (go_at_call 119; refine FX.out.mono ?_; rintro e w1 ⟨rfl, hb1⟩; have B1 := Lib.hid (HB.out.trans (hb1.mono HB.out.size)); clear hb1))
      refine ⟨⟨k + 1, by omega, by simp, N, B1⟩, ?_⟩
      show m - ((k : Int) + 1).toNat < m - ((k : Int)).toNat
      omega
    | false =>
      rw [hh] at FX
      have T := FIN.out (by rw [HX2.out, hh]; rfl)
      subst T
      clear h3 q3 NXT HX2 HX hh
      go_wp2_with (first | (go_at_call 107; refine AD.out.mono ?_; rintro e w1 ⟨rfl, rfl⟩) | (go_at_call 119; refine FX.out.mono ?_; rintro e w1 ⟨rfl, hb1⟩; have B1 := Lib.hid (HB.out.trans (hb1.mono HB.out.size)); clear hb1))
      refine bodyPost_ret (v := .tuple #[.int .i64 k, .int .i64 6]) (by simp [results, Tryz.f140, go_sem]) rfl ⟨rfl, B1.out⟩
end YtjkphacidpongaaGreat
end Go.Proofs
