/- Same and Ints. -/
import Derived.Test.YteeghjhkfaeflaaG00
import Derived.Test.YteeghjhkfaeflaaG06
namespace Go.Proofs
namespace Yteeghjhkfaeflaa
open Go.RowKit

def ic (zs : List Int) : List Value := zs.map (Value.int .i64)
theorem ic_length (zs : List Int) : (ic zs).length = zs.length := by simp [ic]
theorem ic_append (xs ys : List Int) : ic (xs ++ ys) = ic xs ++ ic ys := by simp [ic]
theorem ic_get (zs : List Int) (k : Nat) (h : k < zs.length) : (ic zs)[k]? = some (.int .i64 (zs.getD k 0)) := by
  simp [ic, List.getD_eq_getElem?_getD, List.getElem?_eq_getElem h]
/-- v is a slice whose cells are the numbers zs -/
def IAt (W : World) (v : Value) (zs : List Int) : Prop := ∃ A cap, v = .slice A zs.length cap ∧ (0 < zs.length → ∃ b off, A = some ⟨b, off, none⟩ ∧ ∀ j u, (ic zs)[j]? = some u → W.cell? ⟨b, off + j, none⟩ = some u)
theorem IAt.nil (W : World) : IAt W (.slice none 0 0) [] := ⟨none, 0, rfl, fun h => by simp at h⟩
theorem IAt.of_own {W : World} {base : Nat} {v : Value} {zs : List Int} (h : W.ownsRow base 3 1 v zs.length (ic zs)) : IAt W v zs := by
  rcases h.2 with ⟨rfl, h0⟩ | ⟨gg, cap, cur, rfl, _⟩
  · exact ⟨none, 0, by rw [h0], fun h => by omega⟩
  · refine ⟨_, cap, rfl, fun _ => ⟨gg, 0, rfl, fun j u hu => ?_⟩⟩
    have := h.cells (g := gg) rfl j u hu
    rw [Nat.zero_add]
    have e : (⟨gg, 0, none⟩ : Addr).add j = ⟨gg, j, none⟩ := by unfold Addr.add; split <;> simp_all
    rwa [e] at this
theorem IAt.below {W W' : World} {v : Value} {zs : List Int} (h : IAt W v zs) (hb : Below W.heap.size W W') : IAt W' v zs := by
  obtain ⟨A, cap, rfl, h⟩ := h
  exact ⟨A, cap, rfl, fun h0 => let ⟨b, off, hA, hc⟩ := h h0; ⟨b, off, hA, fun j u hu => (hb.cell (cell_lt (hc j u hu))).trans (hc j u hu)⟩⟩
theorem IAt.row {W : World} {g : Nat} {zs : List Int} {cap : Nat} (h : W.heap[g]? = some (.cells (ic zs).toArray 3 (0, 0))) : IAt W (.slice (some ⟨g, 0, none⟩) zs.length cap) zs := by
  refine ⟨_, cap, rfl, fun _ => ⟨g, 0, rfl, fun j u hu => ?_⟩⟩
  rw [cell_of_row _ _ _ _ _ _ h, Nat.zero_add]
  simpa using hu

set_option maxRecDepth 100000 in
set_option maxHeartbeats 1000000 in
theorem same14_loop (A1 : Option Addr) (c1 : Nat) (A2 : Option Addr) (c2 : Nat) (xs ys : List Int) (hlen : xs.length = ys.length) (hmax : xs.length ≤ 1000000) (w : World)
    (h1 : 0 < xs.length → ∃ b off, A1 = some ⟨b, off, none⟩ ∧ ∀ j u, (wc xs)[j]? = some u → w.cell? ⟨b, off + j, none⟩ = some u)
    (h2 : 0 < ys.length → ∃ b off, A2 = some ⟨b, off, none⟩ ∧ ∀ j u, (wc ys)[j]? = some u → w.cell? ⟨b, off + j, none⟩ = some u) :
    Calls Try.prog 31 #[.slice A1 xs.length c1, .slice A2 ys.length c2] w fun e w' => e = .returned (.bool (decide (xs = ys))) ∧ Below w.heap.size w w' := by
  have HA1 := Lib.hid h1
  have HA2 := Lib.hid h2
  clear h1 h2
  have HL := Lib.hid hlen
  have q0 : ((xs.length : Int) != (ys.length : Int)) = false := by simp; omega
  rw [← hlen]
  clear hlen
  have HQ := Lib.hid q0
  clear q0
  go_enter Try.func31, Try.ntmps31
  go_wp2
  go_loopw [5] (fun i wr => ∃ k q : Nat, k ≤ xs.length ∧ i = .int .i64 k ∧ Hid (wr = w.drewN q) ∧ Hid (xs.take k = ys.take k)) (fun i _ => xs.length - (intOf i).toNat)
  case atStart => exact ⟨0, 0, by omega, rfl, Lib.hid rfl, Lib.hid rfl⟩
  case round =>
    obtain ⟨k, q, hk, rfl, hq, H⟩ := hrel
    by_cases hlt : k < xs.length
    · obtain ⟨b1, o1, rfl, h1⟩ := HA1.out (by omega)
      obtain ⟨b2, o2, rfl, h2⟩ := HA2.out (by have := HL.out; omega)
      have hk' : k < ys.length := by rw [← HL.out]; exact hlt
      have d1 : wr.cell? ⟨b1, o1 + k, none⟩ = some (.int .u64 (xs.getD k 0)) := by rw [hq.out]; exact h1 _ _ (wc_get xs k hlt)
      have d2 : wr.cell? ⟨b2, o2 + k, none⟩ = some (.int .u64 (ys.getD k 0)) := by rw [hq.out]; exact h2 _ _ (wc_get ys k hk')
      have G1 := Lib.hid (show xs.getD k 0 = xs[k] by simp [List.getD_eq_getElem?_getD, List.getElem?_eq_getElem hlt])
      have G2 := Lib.hid (show ys.getD k 0 = ys[k] by simp [List.getD_eq_getElem?_getD, List.getElem?_eq_getElem hk'])
      have hlt' : (k : Int) < (xs.length : Int) := by omega
      clear h1 h2
      by_cases hg : xs.getD k 0 = ys.getD k 0
      · have Hn : Hid (xs.take (k + 1) = ys.take (k + 1)) := Lib.hid (by rw [List.take_add_one, List.take_add_one, H.out, List.getElem?_eq_getElem hlt, List.getElem?_eq_getElem hk', ← G1.out, ← G2.out, hg])
        have qn : (xs.getD k 0 != ys.getD k 0) = false := by simpa using hg
        clear hg
        generalize xs.getD k 0 = x at *
        generalize ys.getD k 0 = y at *
        go_wp2_with fail
        go_quiet (fail)
        go_wp2
        refine ⟨⟨k + 1, q + nq, by omega, by simp, Lib.hid (by rw [hq.out]; exact World.drewN_drewN ..), Hn⟩, ?_⟩
        show xs.length - ((k : Int) + 1).toNat < xs.length - ((k : Int)).toNat
        omega
      · have qn : (xs.getD k 0 != ys.getD k 0) = true := by simpa using hg
        have HF : Hid (decide (xs = ys) = false) := Lib.hid (by simp; intro h; subst h; exact hg rfl)
        clear hg
        generalize xs.getD k 0 = x at *
        generalize ys.getD k 0 = y at *
        go_wp2_with fail
        go_quiet (fail)
        go_wp2
        refine bodyPost_ret (v := .bool false) (by simp [results, Try.f31, go_sem]) rfl ⟨by rw [HF.out], ?_⟩
        rw [hq.out]
        exact below_drewN (below_drewN (Below.refl _ _) _) _
    · have HE : Hid (xs = ys) := Lib.hid (by have := H.out; rwa [List.take_of_length_le (by omega), List.take_of_length_le (by have := HL.out; omega)] at this)
      have ek : k = xs.length := by omega
      subst ek
      go_wp2
      refine bodyPost_ret (v := .bool true) (by simp [results, Try.f31, go_sem]) rfl ⟨by rw [HE.out]; simp, ?_⟩
      rw [hq.out]
      exact below_drewN (Below.refl _ _) _

theorem same14_off (A1 : Option Addr) (n1 c1 : Nat) (A2 : Option Addr) (n2 c2 : Nat) (h : n1 ≠ n2) (w : World) :
    Calls Try.prog 31 #[.slice A1 n1 c1, .slice A2 n2 c2] w fun e w' => e = .returned (.bool false) ∧ Below w.heap.size w w' := by
  have q0 : ((n1 : Int) != (n2 : Int)) = true := by simp; omega
  go_enter Try.func31, Try.ntmps31
  go_wp2
  refine bodyPost_ret (v := .bool false) (by simp [results, Try.f31, go_sem]) rfl ⟨rfl, Below.refl _ _⟩

theorem same14 (v1 v2 : Value) (xs ys : List Int) (hmax : xs.length ≤ 1000000) (w : World) (h1 : WAt w v1 xs) (h2 : WAt w v2 ys) :
    Calls Try.prog 31 #[v1, v2] w fun e w' => e = .returned (.bool (decide (xs = ys))) ∧ Below w.heap.size w w' := by
  obtain ⟨A1, c1, rfl, h1⟩ := h1
  obtain ⟨A2, c2, rfl, h2⟩ := h2
  by_cases hl : xs.length = ys.length
  · exact same14_loop A1 c1 A2 c2 xs ys hl hmax w h1 h2
  · have hd : decide (xs = ys) = false := by simp; intro e; exact hl (by rw [e])
    rw [hd]
    exact same14_off A1 _ c1 A2 _ c2 hl w

set_option maxRecDepth 100000 in
set_option maxHeartbeats 1000000 in
theorem same21_loop (A1 : Option Addr) (c1 : Nat) (A2 : Option Addr) (c2 : Nat) (xs ys : List Int) (hlen : xs.length = ys.length) (hmax : xs.length ≤ 1000000) (w : World)
    (h1 : 0 < xs.length → ∃ b off, A1 = some ⟨b, off, none⟩ ∧ ∀ j u, (ic xs)[j]? = some u → w.cell? ⟨b, off + j, none⟩ = some u)
    (h2 : 0 < ys.length → ∃ b off, A2 = some ⟨b, off, none⟩ ∧ ∀ j u, (ic ys)[j]? = some u → w.cell? ⟨b, off + j, none⟩ = some u) :
    Calls Try.prog 17 #[.slice A1 xs.length c1, .slice A2 ys.length c2] w fun e w' => e = .returned (.bool (decide (xs = ys))) ∧ Below w.heap.size w w' := by
  have HA1 := Lib.hid h1
  have HA2 := Lib.hid h2
  clear h1 h2
  have HL := Lib.hid hlen
  have q0 : ((xs.length : Int) != (ys.length : Int)) = false := by simp; omega
  rw [← hlen]
  clear hlen
  have HQ := Lib.hid q0
  clear q0
  go_enter Try.func17, Try.ntmps17
  go_wp2
  go_loopw [5] (fun i wr => ∃ k q : Nat, k ≤ xs.length ∧ i = .int .i64 k ∧ Hid (wr = w.drewN q) ∧ Hid (xs.take k = ys.take k)) (fun i _ => xs.length - (intOf i).toNat)
  case atStart => exact ⟨0, 0, by omega, rfl, Lib.hid rfl, Lib.hid rfl⟩
  case round =>
    obtain ⟨k, q, hk, rfl, hq, H⟩ := hrel
    by_cases hlt : k < xs.length
    · obtain ⟨b1, o1, rfl, h1⟩ := HA1.out (by omega)
      obtain ⟨b2, o2, rfl, h2⟩ := HA2.out (by have := HL.out; omega)
      have hk' : k < ys.length := by rw [← HL.out]; exact hlt
      have d1 : wr.cell? ⟨b1, o1 + k, none⟩ = some (.int .i64 (xs.getD k 0)) := by rw [hq.out]; exact h1 _ _ (ic_get xs k hlt)
      have d2 : wr.cell? ⟨b2, o2 + k, none⟩ = some (.int .i64 (ys.getD k 0)) := by rw [hq.out]; exact h2 _ _ (ic_get ys k hk')
      have G1 := Lib.hid (show xs.getD k 0 = xs[k] by simp [List.getD_eq_getElem?_getD, List.getElem?_eq_getElem hlt])
      have G2 := Lib.hid (show ys.getD k 0 = ys[k] by simp [List.getD_eq_getElem?_getD, List.getElem?_eq_getElem hk'])
      have hlt' : (k : Int) < (xs.length : Int) := by omega
      clear h1 h2
      by_cases hg : xs.getD k 0 = ys.getD k 0
      · have Hn : Hid (xs.take (k + 1) = ys.take (k + 1)) := Lib.hid (by rw [List.take_add_one, List.take_add_one, H.out, List.getElem?_eq_getElem hlt, List.getElem?_eq_getElem hk', ← G1.out, ← G2.out, hg])
        have qn : (xs.getD k 0 != ys.getD k 0) = false := by simpa using hg
        clear hg
        generalize xs.getD k 0 = x at *
        generalize ys.getD k 0 = y at *
        go_wp2_with fail
        go_quiet (fail)
        go_wp2
        refine ⟨⟨k + 1, q + nq, by omega, by simp, Lib.hid (by rw [hq.out]; exact World.drewN_drewN ..), Hn⟩, ?_⟩
        show xs.length - ((k : Int) + 1).toNat < xs.length - ((k : Int)).toNat
        omega
      · have qn : (xs.getD k 0 != ys.getD k 0) = true := by simpa using hg
        have HF : Hid (decide (xs = ys) = false) := Lib.hid (by simp; intro h; subst h; exact hg rfl)
        clear hg
        generalize xs.getD k 0 = x at *
        generalize ys.getD k 0 = y at *
        go_wp2_with fail
        go_quiet (fail)
        go_wp2
        refine bodyPost_ret (v := .bool false) (by simp [results, Try.f17, go_sem]) rfl ⟨by rw [HF.out], ?_⟩
        rw [hq.out]
        exact below_drewN (below_drewN (Below.refl _ _) _) _
    · have HE : Hid (xs = ys) := Lib.hid (by have := H.out; rwa [List.take_of_length_le (by omega), List.take_of_length_le (by have := HL.out; omega)] at this)
      have ek : k = xs.length := by omega
      subst ek
      go_wp2
      refine bodyPost_ret (v := .bool true) (by simp [results, Try.f17, go_sem]) rfl ⟨by rw [HE.out]; simp, ?_⟩
      rw [hq.out]
      exact below_drewN (Below.refl _ _) _

theorem same21_off (A1 : Option Addr) (n1 c1 : Nat) (A2 : Option Addr) (n2 c2 : Nat) (h : n1 ≠ n2) (w : World) :
    Calls Try.prog 17 #[.slice A1 n1 c1, .slice A2 n2 c2] w fun e w' => e = .returned (.bool false) ∧ Below w.heap.size w w' := by
  have q0 : ((n1 : Int) != (n2 : Int)) = true := by simp; omega
  go_enter Try.func17, Try.ntmps17
  go_wp2
  refine bodyPost_ret (v := .bool false) (by simp [results, Try.f17, go_sem]) rfl ⟨rfl, Below.refl _ _⟩

theorem same21 (v1 v2 : Value) (xs ys : List Int) (hmax : xs.length ≤ 1000000) (w : World) (h1 : IAt w v1 xs) (h2 : IAt w v2 ys) :
    Calls Try.prog 17 #[v1, v2] w fun e w' => e = .returned (.bool (decide (xs = ys))) ∧ Below w.heap.size w w' := by
  obtain ⟨A1, c1, rfl, h1⟩ := h1
  obtain ⟨A2, c2, rfl, h2⟩ := h2
  by_cases hl : xs.length = ys.length
  · exact same21_loop A1 c1 A2 c2 xs ys hl hmax w h1 h2
  · have hd : decide (xs = ys) = false := by simp; intro e; exact hl (by rw [e])
    rw [hd]
    exact same21_off A1 _ c1 A2 _ c2 hl w

end Yteeghjhkfaeflaa
end Go.Proofs
/- Zero, cmp.Or and Differ. -/
namespace Go.Proofs
namespace Yteeghjhkfaeflaa
open Go.RowKit

end Yteeghjhkfaeflaa
end Go.Proofs
/- cmp.Or of two errors, and Differ on two arenas of one size. -/
namespace Go.Proofs
namespace Yteeghjhkfaeflaa
open Go.RowKit

set_option maxRecDepth 100000 in
theorem or40 (g : Nat) (w : World) (h : w.heap[g]? = some (.cells #[.int .i64 0, .int .i64 0] 26 (0, 0))) :
    Calls Try.prog 61 #[.slice (some ⟨g, 0, none⟩) 2 2] w fun e w' => e = .returned (.int .i64 0) ∧ w = w' := by
  have d0 := cell_of_row _ _ 0 _ _ _ h
  have d1 := cell_of_row _ _ 1 _ _ _ h
  simp only [List.getElem?_toArray, List.getElem?_cons_zero, List.getElem?_cons_succ] at d0 d1
  clear h
  go_enter Try.func61, Try.ntmps61
  go_wp2
  go_loopw [8] (fun i wr => ∃ j : Nat, j ≤ 2 ∧ i = .int .i64 j ∧ Hid (w = wr)) (fun i _ => 2 - (intOf i).toNat)
  case atStart => exact ⟨0, by omega, rfl, Lib.hid rfl⟩
  case round =>
    obtain ⟨j, hj, rfl, hw⟩ := hrel
    obtain rfl := hw.out
    rcases (by omega : j = 0 ∨ j = 1 ∨ j = 2) with rfl | rfl | rfl
    · go_wp2
      refine ⟨⟨1, by omega, rfl, Lib.hid trivial⟩, ?_⟩
      decide
    · go_wp2
      refine ⟨⟨2, by omega, rfl, Lib.hid trivial⟩, ?_⟩
      decide
    · go_wp2
      go_ret
      exact ⟨rfl, rfl⟩
/-- what a call of Check answers -/
structure ChkIs (W : World) (v : Value) (c : Int) : Prop where
  call : Calls Try.prog 69 #[v] W fun e w' => e = .returned (.int .i64 c) ∧ W = w'
theorem info3 : (Try.prog.info? 3).map (fun i => (i.zero, i.size, i.bytes)) = some (some (.int .i64 0), 1, 8) := by kernel_rfl
theorem diffs_eq {k : Nat} {x y : Int} {xs ys : List Int} (h : x = y) : diffs k (x :: xs) (y :: ys) = diffs (k + 1) xs ys := by rw [diffs, if_pos h]
theorem diffs_ne {k : Nat} {x y : Int} {xs ys : List Int} (h : x ≠ y) : diffs k (x :: xs) (y :: ys) = (k : Int) :: diffs (k + 1) xs ys := by rw [diffs, if_neg h]
theorem diffs_nil (k : Nat) (ys : List Int) : diffs k [] ys = [] := by cases ys <;> simp [diffs]
theorem own_form {W : World} {base size n : Nat} {e : TypeId} {v : Value} {xs : List Value} (h : W.ownsRow base e size v n xs) : ∃ A cap, v = .slice A n cap := by
  rcases h.2 with ⟨rfl, h0⟩ | ⟨gg, cap, cur, rfl, _⟩
  · rw [h0]; exact ⟨none, 0, rfl⟩
  · exact ⟨_, cap, rfl⟩
theorem push_int {ops : Array Oper} {rest : List Oper} {o : Oper} {a : Act} {Q : Exit → Act → World → Prop} {W W0 w : World} {v : Value} {zs : List Int} (hown : W.ownsRow w.heap.size 3 1 v zs.length (ic zs)) (hB : Below w.heap.size w W) (z : Int) (hgd : o.guard = none) (s x : Operand)
    (ho : o.op = .call { callee := .builtin .append, args := #[s, x], argTypes := #[29, 29] }) (hs : a.eval s = v) (H : Nat) (hx : a.eval x = .slice (some ⟨H, 0, none⟩) 1 1) (hH : H = W.heap.size)
    (hW : W0 = W.alloc (.cells #[.int .i64 z] 3)) (hl : zs.length + 1 ≤ 1000000)
    (h : ∀ v' W', W'.ownsRow w.heap.size 3 1 v' (zs ++ [z]).length (ic (zs ++ [z])) → Below w.heap.size w W' → W.heap.size ≤ W'.heap.size → wpList Try.prog ops Q rest (a.put o.dst v') W') : wpList Try.prog ops Q (o :: rest) a W0 := by
  subst hW
  subst hH
  obtain ⟨i0, hi, hz0, hz1, hz2⟩ := info_parts info3
  refine wpList_append_own _ hgd s x 29 ho w.heap.size 3 i0 _ 1 8 Try.underlying29 hi hz0 hz1 hz2 rfl (by decide) v zs.length (ic zs) hs (hown.alloc _) ⟨W.heap.size, 0, none⟩ 1 1 [.int .i64 z] hx rfl ?_ (by simp [Value.oneCell']) ?_ ?_ ?_ ?_
  · intro j u hj
    have e : (⟨W.heap.size, 0, none⟩ : Addr).add j = ⟨W.heap.size, j, none⟩ := by unfold Addr.add; split <;> simp_all
    rw [e, cell_of_row _ _ _ _ _ _ (heap_alloc_new W _)]
    simpa using hj
  · unfold maxLen; omega
  · omega
  · have := hB.size; simp; omega
  · intro v' W' h1 h2 _
    refine h v' W' ?_ ((hB.alloc hB.size _).grown h2 (by have := hB.size; simp; omega) (fun k hk => (hown.lt k hk).1)) (by have := h2.size; simp at this; omega)
    rw [ic_append, List.length_append, List.length_singleton]
    exact h1

end Yteeghjhkfaeflaa
end Go.Proofs
