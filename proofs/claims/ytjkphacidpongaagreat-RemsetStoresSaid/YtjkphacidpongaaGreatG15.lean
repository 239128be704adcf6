/- Ints, find and before, the reference's. -/
import Derived.Test.YtjkphacidpongaaGreatG05
import Derived.Deep.LoopGhost
import Derived.Test.YtjkphacidpongaaGreatG09
namespace Go.Proofs
namespace YtjkphacidpongaaGreat
open Go.RowKit

set_option maxRecDepth 100000 in
set_option maxHeartbeats 1000000 in
theorem rints24_loop (A1 : Option Addr) (c1 : Nat) (A2 : Option Addr) (c2 : Nat) (xs ys : List Int) (hlen : xs.length = ys.length) (hmax : xs.length ≤ 1000000) (w : World)
    (h1 : 0 < xs.length → ∃ b off, A1 = some ⟨b, off, none⟩ ∧ ∀ j, j < xs.length → w.cell? ⟨b, off + j, none⟩ = some (.int .i64 (xs.getD j 0)))
    (h2 : 0 < ys.length → ∃ b off, A2 = some ⟨b, off, none⟩ ∧ ∀ j, j < ys.length → w.cell? ⟨b, off + j, none⟩ = some (.int .i64 (ys.getD j 0))) :
    Calls Tryz.prog 25 #[.slice A1 xs.length c1, .slice A2 ys.length c2] w fun e w' => e = .returned (.bool (decide (xs = ys))) ∧ Below w.heap.size w w' := by
  have HA1 := Lib.hid h1
  have HA2 := Lib.hid h2
  clear h1 h2
  have HL := Lib.hid hlen
  have q0 : ((xs.length : Int) != (ys.length : Int)) = false := by simp; omega
  rw [← hlen]
  clear hlen
  have HQ := Lib.hid q0
  clear q0
  go_enter Tryz.func25, Tryz.ntmps25
  go_wp2
  go_loopw [5] (fun i wr => ∃ k q : Nat, k ≤ xs.length ∧ i = .int .i64 k ∧ Hid (wr = w.drewN q) ∧ Hid (xs.take k = ys.take k)) (fun i _ => xs.length - (intOf i).toNat)
  case atStart => exact ⟨0, 0, by omega, rfl, Lib.hid rfl, Lib.hid rfl⟩
  case round =>
    obtain ⟨k, q, hk, rfl, hq, H⟩ := hrel
    by_cases hlt : k < xs.length
    · obtain ⟨b1, o1, rfl, h1⟩ := HA1.out (by omega)
      obtain ⟨b2, o2, rfl, h2⟩ := HA2.out (by have := HL.out; omega)
      have hk' : k < ys.length := by rw [← HL.out]; exact hlt
      have d1 : wr.cell? ⟨b1, o1 + k, none⟩ = some (.int .i64 (xs.getD k 0)) := by rw [hq.out]; exact h1 k hlt
      have d2 : wr.cell? ⟨b2, o2 + k, none⟩ = some (.int .i64 (ys.getD k 0)) := by rw [hq.out]; exact h2 k hk'
      have G1 := Lib.hid (show xs.getD k 0 = xs[k] by simp [List.getD_eq_getElem?_getD, List.getElem?_eq_getElem hlt])
      have G2 := Lib.hid (show ys.getD k 0 = ys[k] by simp [List.getD_eq_getElem?_getD, List.getElem?_eq_getElem hk'])
      have hlt' : (k : Int) < (xs.length : Int) := by omega
      clear h1 h2
      by_cases hg : xs.getD k 0 = ys.getD k 0
      · have Hn : Hid (xs.take (k + 1) = ys.take (k + 1)) := Lib.hid (by rw [List.take_add_one, List.take_add_one, H.out, List.getElem?_eq_getElem hlt, List.getElem?_eq_getElem hk', ← G1.out, ← G2.out, hg])
        have qn : (xs.getD k 0 != ys.getD k 0) = false := by simpa using hg
        clear hg
        generalize xs.getD k 0 = x at *
        generalize ys.getD k 0 = y at *
        go_wp2_with fail
        go_quiet (fail)
        go_wp2
        refine ⟨⟨k + 1, q + nq, by omega, by simp, Lib.hid (by rw [hq.out]; exact World.drewN_drewN ..), Hn⟩, ?_⟩
        show xs.length - ((k : Int) + 1).toNat < xs.length - ((k : Int)).toNat
        omega
      · have qn : (xs.getD k 0 != ys.getD k 0) = true := by simpa using hg
        have HF : Hid (decide (xs = ys) = false) := Lib.hid (by simp; intro h; subst h; exact hg rfl)
        clear hg
        generalize xs.getD k 0 = x at *
        generalize ys.getD k 0 = y at *
        go_wp2_with fail
        go_quiet (fail)
        go_wp2
        refine bodyPost_ret (v := .bool false) (by simp [results, Tryz.f25, go_sem]) rfl ⟨by rw [HF.out], ?_⟩
        rw [hq.out]
        exact below_drewN (below_drewN (Below.refl _ _) _) _
    · have HE : Hid (xs = ys) := Lib.hid (by have := H.out; rwa [List.take_of_length_le (by omega), List.take_of_length_le (by have := HL.out; omega)] at this)
      have ek : k = xs.length := by omega
      subst ek
      go_wp2
      refine bodyPost_ret (v := .bool true) (by simp [results, Tryz.f25, go_sem]) rfl ⟨by rw [HE.out]; simp, ?_⟩
      rw [hq.out]
      exact below_drewN (Below.refl _ _) _

theorem rints24_off (A1 : Option Addr) (n1 c1 : Nat) (A2 : Option Addr) (n2 c2 : Nat) (h : n1 ≠ n2) (w : World) :
    Calls Tryz.prog 25 #[.slice A1 n1 c1, .slice A2 n2 c2] w fun e w' => e = .returned (.bool false) ∧ Below w.heap.size w w' := by
  have q0 : ((n1 : Int) != (n2 : Int)) = true := by simp; omega
  go_enter Tryz.func25, Tryz.ntmps25
  go_wp2
  refine bodyPost_ret (v := .bool false) (by simp [results, Tryz.f25, go_sem]) rfl ⟨rfl, Below.refl _ _⟩

theorem rints24 (v1 v2 : Value) (xs ys : List Int) (hmax : xs.length ≤ 1000000) (w : World) (h1 : IAt w v1 xs) (h2 : IAt w v2 ys) :
    Calls Tryz.prog 25 #[v1, v2] w fun e w' => e = .returned (.bool (decide (xs = ys))) ∧ Below w.heap.size w w' := by
  obtain ⟨A1, c1, rfl, h1⟩ := h1
  obtain ⟨A2, c2, rfl, h2⟩ := h2
  by_cases hl : xs.length = ys.length
  · exact rints24_loop A1 c1 A2 c2 xs ys hl hmax w h1 h2
  · have hd : decide (xs = ys) = false := by simp; intro e; exact hl (by rw [e])
    rw [hd]
    exact rints24_off A1 _ c1 A2 _ c2 hl w


/-- where a number is, or -1 -/
def atF (cs : List Int) (a : Int) : Int := if hasB cs a = true then (pos a cs.length (stopI cs a) : Int) else -1
theorem pv_def (cs : List Int) (a : Int) (i : Nat) : cs.getD (pos a cs.length i) 0 = pv cs a i := rfl
set_option maxRecDepth 100000 in
set_option maxHeartbeats 1000000 in
theorem rfind40 (v : Value) (cs : List Int) (a : Int) (w : World) (h : IAt w v cs) (hz : (0 : Int) ∈ cs) (hm : cs.length ≤ 100000) (ha : 1 ≤ a ∧ a ≤ 1600) :
    Calls Tryz.prog 74 #[v, .int .i64 a] w fun e w' => e = .returned (.int .i64 (atF cs a)) ∧ w = w' := by
  have h0 := List.length_pos_of_mem hz
  obtain ⟨A, cap, rfl, hA⟩ := h
  obtain ⟨b1, o1, rfl, ca⟩ := hA h0
  have CA := Lib.hid ca
  have PL := Lib.hid (fun i => pos_lt a h0 i)
  have PS := Lib.hid (fun i => pos_succ a h0 i)
  have SL := Lib.hid (stop_lt hz a)
  have SA := Lib.hid (stop_at hz a)
  have SB := Lib.hid (fun j (hj : j < stopI cs a) => stop_before hj)
  have e1 := pos_cast a h0 0
  have PV := Lib.hid (pv_def cs a)
  have AF := Lib.hid (show atF cs a = if pv cs a (stopI cs a) = a then (pos a cs.length (stopI cs a) : Int) else -1 by unfold atF hasB; simp only [beq_iff_eq])
  have hmul : IntKind.i64.wrap (a * 40503) = a * 40503 := IntWalk.i64_in _ (by omega)
  obtain ⟨m, hm2⟩ : ∃ m, cs.length = m := ⟨_, rfl⟩
  have HM := Lib.hid hm2
  rw [hm2] at hm h0 e1 PL PS SL AF CA PV ⊢
  have e2 : (a * 40503) % (m : Int) = (pos a m 0 : Int) := by rw [e1]; simp
  have E2 := Lib.hid e2
  clear e2
  have mz : ((m : Int) == 0) = false := by simp; omega
  clear hA ca e1 hz hm2
  generalize atF cs a = R at *
  generalize stopI cs a = S at *
  go_enter Tryz.func74, Tryz.ntmps74
  go_wp2
  go_loopg [5] m (fun g q wr => ∃ k : Nat, g + k = m ∧ k ≤ S ∧ q = .int .i64 (pos a m k) ∧ Hid (w = wr))
  case atStart => exact ⟨0, by omega, by omega, by rw [E2.out], Lib.hid rfl⟩
  case round =>
    obtain ⟨k, hk, hkS, rfl, hw⟩ := hrel
    obtain rfl := hw.out
    have hkm : k < m := by have := SL.out; omega
    have hp := PL.out k
    have hp' : (pos a m k : Int) < (m : Int) := by omega
    have ca' := CA.out _ hp
    rw [PV.out] at ca'
    have ad1 : (⟨b1, o1, none⟩ : Addr).add (pos a m k) = ⟨b1, o1 + pos a m k, none⟩ := by unfold Addr.add; split <;> simp_all
    have hw1 : IntKind.i64.wrap ((pos a m k : Int) + 1) = (pos a m k : Int) + 1 := IntWalk.i64_in _ (by omega)
    have e3 : ((pos a m k : Int) + 1) % (m : Int) = (pos a m (k + 1) : Int) := by rw [PS.out]; simp
    have hnn : (0 : Int) ≤ (pos a m k : Int) + 1 := by omega
    by_cases hkx : k = S
    · subst hkx
      have hat := SA.out
      generalize pv cs a k = x at *
      generalize pos a m k = p at *
      by_cases hx : x = a
      · have q0 : (x != 0) = true := by simp; omega
        have q1 : (x == a) = true := by simpa using hx
        have T := Lib.hid (show R = (p : Int) by rw [AF.out, if_pos hx])
        clear hat hx
        go_wp2
        refine bodyPost_ret (v := .int .i64 p) (by simp [results, Tryz.f74, go_sem]) rfl ⟨by rw [T.out], rfl⟩
      · have hx0 : x = 0 := by omega
        have q0 : (x != 0) = false := by simpa using hx0
        have T := Lib.hid (show R = -1 by rw [AF.out, if_neg hx])
        clear hat hx hx0
        go_wp2
        refine bodyPost_ret (v := .int .i64 (-1)) (by simp [results, Tryz.f74, go_sem]) rfl ⟨by rw [T.out], rfl⟩
    · obtain ⟨h1, h2⟩ := SB.out k (by omega)
      generalize pv cs a k = x at *
      have q0 : (x != 0) = true := by simpa using h2
      have q1 : (x == a) = false := by simpa using h1
      clear h1 h2
      obtain ⟨p2, hp2⟩ : ∃ p2, pos a m (k + 1) = p2 := ⟨_, rfl⟩
      have HP2 := Lib.hid hp2
      rw [hp2] at e3
      clear hp2
      generalize pos a m k = p at *
      have HK := Lib.hid (show k ≤ S ∧ k ≠ S ∧ gk + k = m from ⟨hkS, hkx, hk⟩)
      clear hkS hkx hk
      go_wp2
      go_roundg (m - (k + 1))
      case measure => have := HK.out; omega
      case rel => exact ⟨k + 1, by omega, by have := HK.out; omega, by rw [HP2.out], Lib.hid rfl⟩
end YtjkphacidpongaaGreat
end Go.Proofs
/- The reference's before and put; a copy by append. -/
namespace Go.Proofs
namespace YtjkphacidpongaaGreat
open Go.RowKit

set_option maxRecDepth 100000 in
set_option maxHeartbeats 1000000 in
theorem rbefore38 (v : Value) (cs : List Int) (i : Nat) (w : World) (h : IAt w v cs) (hi : i < cs.length) (hm : cs.length ≤ 100000) :
    Calls Tryz.prog 101 #[v, .int .i64 i] w fun e w' => e = .returned (.bool (decide (cs.getD i 0 ∈ cs.take i))) ∧ Below w.heap.size w w' := by
  obtain ⟨A, cap, rfl, hA⟩ := h
  obtain ⟨b1, o1, rfl, hc⟩ := hA (by omega)
  have CA := Lib.hid hc
  have ad0 : (⟨b1, o1, none⟩ : Addr).add i = ⟨b1, o1 + i, none⟩ := by unfold Addr.add; split <;> simp_all
  have YES := Lib.hid (fun k (hk : k < i) (e : cs.getD k 0 = cs.getD i 0) => (show decide (cs.getD i 0 ∈ cs.take i) = true from decide_eq_true (by
    rw [← e, ← getElem_getD (show k < cs.length by omega)]
    exact List.mem_take_iff_getElem.2 ⟨k, by omega, rfl⟩)))
  have NO := Lib.hid (fun (hn : ∀ k, k < i → cs.getD k 0 ≠ cs.getD i 0) => (show decide (cs.getD i 0 ∈ cs.take i) = false from decide_eq_false (fun hm2 => by
    obtain ⟨k, hk, e⟩ := List.mem_take_iff_getElem.1 hm2
    exact hn k (by omega) (by rw [← e, getElem_getD]))))
  obtain ⟨R, hR⟩ : ∃ R, decide (cs.getD i 0 ∈ cs.take i) = R := ⟨_, rfl⟩
  rw [hR] at YES NO ⊢
  obtain ⟨m, hm2⟩ : ∃ m, cs.length = m := ⟨_, rfl⟩
  rw [hm2] at hi hm CA ⊢
  obtain ⟨x, hx⟩ : ∃ x, cs.getD i 0 = x := ⟨_, rfl⟩
  have CI := Lib.hid (CA.out i hi)
  rw [hx] at YES NO CI
  have hii : (i : Int) < (m : Int) := by omega
  clear hA hc hm2 hR hx
  go_enter Tryz.func101, Tryz.ntmps101
  go_wp2
  go_loopw [5] (fun q wr => ∃ k n : Nat, k ≤ i ∧ q = .int .i64 k ∧ Hid (wr = w.drewN n) ∧ Hid (∀ j, j < k → cs.getD j 0 ≠ x)) (fun q _ => i - (intOf q).toNat)
  case atStart => exact ⟨0, 0, by omega, rfl, Lib.hid rfl, Lib.hid (fun j hj => by omega)⟩
  case round =>
    obtain ⟨k, n, hk, rfl, hw, HN⟩ := hrel
    by_cases hlt : k < i
    · have hlt' : (k : Int) < (i : Int) := by omega
      have hkm : (k : Int) < (m : Int) := by omega
      have ca' : wr.cell? ⟨b1, o1 + k, none⟩ = some (.int .i64 (cs.getD k 0)) := by rw [hw.out]; exact CA.out k (by omega)
      have ci' : wr.cell? ⟨b1, o1 + i, none⟩ = some (.int .i64 x) := by rw [hw.out]; exact CI.out
      have ad1 : (⟨b1, o1, none⟩ : Addr).add k = ⟨b1, o1 + k, none⟩ := by unfold Addr.add; split <;> simp_all
      have YK := Lib.hid (YES.out k hlt)
      have NX := Lib.hid (show cs.getD k 0 ≠ x → ∀ j, j < k + 1 → cs.getD j 0 ≠ x from fun h j hj => by
        rcases Nat.lt_or_ge j k with h1 | h1
        · exact HN.out j h1
        · obtain rfl : j = k := by omega
          exact h)
      generalize cs.getD k 0 = y at *
      by_cases hy : y = x
      · have q : (y == x) = true := by simpa using hy
        have T := YK.out hy
        subst T
        clear hy NX YK
        go_wp2_with fail
        go_quiet (fail)
        go_wp2
        refine bodyPost_ret (v := .bool true) (by simp [results, Tryz.f101, go_sem]) rfl ⟨rfl, ?_⟩
        rw [hw.out]
        exact below_drewN (below_drewN (Below.refl _ _) _) _
      · have q : (y == x) = false := by simpa using hy
        have N := Lib.hid (NX.out hy)
        clear hy NX YK
        go_wp2_with fail
        go_quiet (fail)
        go_wp2
        refine ⟨⟨k + 1, n + nq, by omega, by simp, Lib.hid (by rw [hw.out]; exact World.drewN_drewN ..), N⟩, ?_⟩
        show i - ((k : Int) + 1).toNat < i - ((k : Int)).toNat
        omega
    · have hlt' : ¬ (k : Int) < (i : Int) := by omega
      obtain rfl : k = i := by omega
      have T := NO.out HN.out
      subst T
      go_wp2
      refine bodyPost_ret (v := .bool false) (by simp [results, Tryz.f101, go_sem]) rfl ⟨rfl, ?_⟩
      rw [hw.out]
      exact below_drewN (Below.refl _ _) _
/-- append of a whole argument to a new, empty row -/
theorem push_all {ops : Array Oper} {rest : List Oper} {o : Oper} {a : Act} {Q : Exit → Act → World → Prop} {W w : World} {v vg : Value} {xs ys : List Int} (hown : W.ownsRow w.heap.size 3 1 v xs.length (ic xs)) (hB : Below w.heap.size w W) (hg : IAt W vg ys) (hne : 0 < ys.length) (hgd : o.guard = none) (s x : Operand)
    (ho : o.op = .call { callee := .builtin .append, args := #[s, x], argTypes := #[25, 25] }) (hs : a.eval s = v) (hx : a.eval x = vg) (hl : xs.length + ys.length ≤ 1000000)
    (h : ∀ g cap W', W'.ownsRow w.heap.size 3 1 (.slice (some ⟨g, 0, none⟩) (xs.length + ys.length) cap) (xs.length + ys.length) (ic (xs ++ ys)) → Below w.heap.size w W' → wpList Tryz.prog ops Q rest (a.put o.dst (.slice (some ⟨g, 0, none⟩) (xs.length + ys.length) cap)) W') : wpList Tryz.prog ops Q (o :: rest) a W := by
  obtain ⟨i0, hi, hz0, hz1, hz2⟩ := info_parts info3
  obtain ⟨A, cap, rfl, hA⟩ := hg
  obtain ⟨b, off, rfl, hc⟩ := hA hne
  refine wpList_append_lies _ hgd s x 25 ho w.heap.size 3 i0 _ 1 8 Tryz.underlying25 hi hz0 hz1 hz2 rfl (by decide) v xs.length (ic xs) hs hown ⟨b, off, none⟩ ys.length cap (ic ys) hx (by rw [ic_length, Nat.mul_one]) ?_ (ic_one ys) hne ?_ ?_ ?_ _ rfl ?_
  · intro j u hj
    have hjl : j < ys.length := by have := (List.getElem?_eq_some_iff.1 hj).1; rwa [ic_length] at this
    rw [ic_get ys j hjl] at hj
    cases hj
    have e : (⟨b, off, none⟩ : Addr).add j = ⟨b, off + j, none⟩ := by simp [Addr.add]
    rw [e]
    exact hc j hjl
  · unfold maxLen; omega
  · omega
  · exact hB.size
  · intro g cap W' h1 h2 _ _
    refine h g cap W' ?_ ?_
    · rw [ic_append]; exact h1
    · exact hB.grown h2 hB.size (fun k hk => (hown.lt k hk).1)
theorem empty_row {W w : World} (hB : Below w.heap.size w W) : (W.alloc (.cells #[] 3)).ownsRow w.heap.size 3 1 (.slice (some ⟨W.heap.size, 0, none⟩) 0 0) ([] : List Int).length (ic []) :=
  ⟨rfl, .inr ⟨W.heap.size, 0, #[], rfl, hB.size, heap_alloc_new W _, Nat.le_refl _, by unfold maxLen; omega, by simp, rfl⟩⟩
theorem irow_cell {W : World} {B g n cap : Nat} {zs : List Int} (h : W.ownsRow B 3 1 (.slice (some ⟨g, 0, none⟩) n cap) n (ic zs)) (hn : zs.length = n) {k : Nat} (hk : k < n) : W.cell? ⟨g, k, none⟩ = some (.int .i64 (zs.getD k 0)) ∧ W.frozen? ⟨g, k, none⟩ = false := by
  refine ⟨?_, h.frozenAt k⟩
  rw [h.cellAt k (by omega), ic_get zs k (by omega)]
theorem irow_put {W w : World} {g n cap : Nat} {zs : List Int} (h : W.ownsRow w.heap.size 3 1 (.slice (some ⟨g, 0, none⟩) n cap) n (ic zs)) (hB : Below w.heap.size w W) (k : Nat) (z : Int) :
    (W.setCell ⟨g, k, none⟩ (.int .i64 z)).ownsRow w.heap.size 3 1 (.slice (some ⟨g, 0, none⟩) n cap) n (ic (zs.set k z)) ∧ Below w.heap.size w (W.setCell ⟨g, k, none⟩ (.int .i64 z)) := by
  obtain ⟨h1, h2⟩ := h.stored k (.int .i64 z)
  refine ⟨?_, hB.setCell (p := ⟨g, k, none⟩) (h.lt g rfl).1 _⟩
  rw [ic_set]
  exact h1
end YtjkphacidpongaaGreat
end Go.Proofs
/- The reference's put. -/
namespace Go.Proofs
namespace YtjkphacidpongaaGreat
open Go.RowKit

set_option maxRecDepth 100000 in
set_option maxHeartbeats 1000000 in
theorem rput62 (v : Value) (cs : List Int) (a : Int) (w : World) (h : IAt w v cs) (hz : (0 : Int) ∈ cs) (hm : cs.length ≤ 100000) (ha : 1 ≤ a ∧ a ≤ 1600) :
    Calls Tryz.prog 98 #[v, .int .i64 a] w fun e w' => ∃ u, e = .returned u ∧ Row w w' u (putF cs a) ∧ Below w.heap.size w w' := by
  have h0 := List.length_pos_of_mem hz
  have hb0 := alloc_below w (.cells #[] 3)
  have hv := h.below hb0
  have he := empty_row (Below.refl w.heap.size w)
  obtain ⟨A, cap, rfl, -⟩ := h
  have HV := Lib.hid hv
  have HE := Lib.hid he
  have B0 := Lib.hid hb0
  have PL := Lib.hid (fun i => pos_lt a h0 i)
  have PS := Lib.hid (fun i => pos_succ a h0 i)
  have FL := Lib.hid (free_lt hz a)
  have FA := Lib.hid (free_at hz a)
  have FB := Lib.hid (fun j (hj : j < freeI cs a) => free_before hj)
  have e1 := pos_cast a h0 0
  have PV := Lib.hid (pv_def cs a)
  have PA := Lib.hid (put_at cs a)
  have PN := Lib.hid (put_len cs a)
  have hmul : IntKind.i64.wrap (a * 40503) = a * 40503 := IntWalk.i64_in _ (by omega)
  obtain ⟨m, hm2⟩ : ∃ m, cs.length = m := ⟨_, rfl⟩
  have HM := Lib.hid hm2
  rw [hm2] at hm h0 e1 PL PS FL PA PV PN
  have e2 : (a * 40503) % (m : Int) = (pos a m 0 : Int) := by rw [e1]; simp
  have E2 := Lib.hid e2
  clear e2 hv he hb0 e1 hz
  obtain ⟨D, hD⟩ : ∃ D, putF cs a = D := ⟨_, rfl⟩
  rw [hD] at PA PN ⊢
  generalize freeI cs a = S at *
  clear hD
  go_enter Tryz.func98, Tryz.ntmps98
  go_upto_region 3 with (at_builtin; refine push_all HE.out B0.out HV.out (by rw [HM.out]; exact h0) rfl _ _ rfl rfl rfl (by rw [HM.out]; show 0 + m ≤ 1000000; omega) ?_; intro g cap2 W1 ho hb1; have HO := Lib.hid ho; have B1 := Lib.hid hb1; clear ho hb1)
  have O1 := Lib.hid (show W1.ownsRow w.heap.size 3 1 (.slice (some ⟨g, 0, none⟩) m cap2) m (ic cs) by have := HO.out; rwa [List.nil_append, show ([] : List Int).length + cs.length = m by rw [HM.out]; simp] at this)
  clear HO hm2
  go_loopg [6] m (fun gh q wr => ∃ k : Nat, gh + k = m ∧ k ≤ S ∧ q = .int .i64 (pos a m k) ∧ Hid (W1 = wr))
  case atStart => exact ⟨0, by omega, by omega, by rw [E2.out], Lib.hid rfl⟩
  case round =>
    obtain ⟨k, hk, hkS, rfl, hw⟩ := hrel
    obtain rfl := hw.out
    have hkm : k < m := by have := FL.out; omega
    have hp := PL.out k
    have hp' : (pos a m k : Int) < (m : Int) := by omega
    obtain ⟨ca', fa'⟩ := irow_cell O1.out HM.out hp
    rw [PV.out] at ca'
    have ad1 : (⟨g, 0, none⟩ : Addr).add (pos a m k) = ⟨g, pos a m k, none⟩ := by unfold Addr.add; split <;> simp_all
    have hw1 : IntKind.i64.wrap ((pos a m k : Int) + 1) = (pos a m k : Int) + 1 := IntWalk.i64_in _ (by omega)
    have e3 : ((pos a m k : Int) + 1) % (m : Int) = (pos a m (k + 1) : Int) := by rw [PS.out]; simp
    have hnn : (0 : Int) ≤ (pos a m k : Int) + 1 := by omega
    by_cases hkx : k = S
    · subst hkx
      have q0 : decide (0 < pv cs a k) = false := decide_eq_false (by have := FA.out; omega)
      have q0' : ¬ 0 < pv cs a k := by have := FA.out; omega
      obtain ⟨O2, B2⟩ := irow_put O1.out B1.out (pos a m k) a
      rw [← PA.out] at O2
      have HO2 := Lib.hid O2
      have HB2 := Lib.hid B2
      generalize pv cs a k = x at *
      generalize pos a m k = p at *
      clear O2 B2
      go_wp2
      refine bodyPost_ret (v := .slice (some ⟨g, 0, none⟩) m cap2) (by simp [results, Tryz.f98, go_sem]) rfl ⟨_, rfl, ?_, HB2.out⟩
      unfold Row
      rw [PN.out]
      exact HO2.out
    · have h1 := FB.out k (by omega)
      generalize pv cs a k = x at *
      have q0 : decide (0 < x) = true := decide_eq_true h1
      obtain ⟨p2, hp2⟩ : ∃ p2, pos a m (k + 1) = p2 := ⟨_, rfl⟩
      have HP2 := Lib.hid hp2
      rw [hp2] at e3
      clear hp2
      generalize pos a m k = p at *
      have HK := Lib.hid (show k ≤ S ∧ k ≠ S ∧ gk + k = m from ⟨hkS, hkx, hk⟩)
      clear hkS hkx hk
      go_wp2
      go_roundg (m - (k + 1))
      case measure => have := HK.out; omega
      case rel => exact ⟨k + 1, by omega, by have := HK.out; omega, by rw [HP2.out], Lib.hid rfl⟩
end YtjkphacidpongaaGreat
end Go.Proofs
