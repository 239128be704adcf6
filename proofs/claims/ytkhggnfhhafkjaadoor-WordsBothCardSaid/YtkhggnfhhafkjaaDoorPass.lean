/- The iterator over the fields of a line: what follows behind a field. -/
import Derived.Test.YtkhggnfhhafkjaaDoorIter
import Derived.Test.YtkhggnfhhafkjaaDoorNat
namespace Go.Proofs
namespace YtkhggnfhhafkjaaDoor
open Go.RowKit

/-- how the iterator ends -/
def Fin (items : List (Fld × Bool)) (J Jx : List (Fld × Bool) → World → Prop) (W : World) : Prop := J items W ∨ ∃ pre, pre <+: items ∧ Jx pre W
def Yields (n l fb N : Nat) (J Jx : List (Fld × Bool) → World → Prop) : Prop :=
  ∀ pre x W1, J pre W1 → pre.length < N + 1 → fb < W1.heap.size → YieldAt Fence.wide (n - 1) Tryd.prog l (encI x) W1 fun e W' =>
      (e = .returned (.bool true) ∧ J (pre ++ [x]) W' ∧ W1.heap.size ≤ W'.heap.size ∧ W'.heap[fb]? = W1.heap[fb]?) ∨ (e = .returned (.bool false) ∧ Jx (pre ++ [x]) W')

theorem rest_cons (t : ByteArray) (m : Nat) {c : UInt8} {r : List UInt8} (h : t.data.toList.drop m = c :: r) :
    ∃ h0 : 0 < (t.extract m t.size).size, (t.extract m t.size).toList.isEmpty = false ∧ (!(t.extract m t.size).toList.isEmpty) = true ∧ (t.extract m t.size)[0] = c := by
  have e := drop_data t m
  rw [h] at e
  have hsz : 0 < (t.extract m t.size).size := by
    have : (t.extract m t.size).data.toList.length = r.length + 1 := by rw [e]; rfl
    have e2 : (t.extract m t.size).size = (t.extract m t.size).data.toList.length := by simp
    omega
  obtain ⟨r', hr, _⟩ := head_eq _ hsz
  rw [e] at hr
  have em := isEmpty_of _ hsz
  refine ⟨hsz, em, by rw [em]; rfl, ?_⟩
  injection hr with h1 _
  exact h1.symm
set_option maxRecDepth 100000 in
set_option maxHeartbeats 4000000 in
theorem pass2_bad (n : Nat) (hn : 1 ≤ n) (P2 : Exit → Act → World → Prop) (items : List (Fld × Bool)) (J Jx : List (Fld × Bool) → World → Prop) (N l Bl fb : Nat) (hN : N ≤ 1000000)
    (hY : Yields n l fb N J Jx) (hret : ∀ (tm : Array Value) W, Fin items J Jx W → P2 .ret { tmps := tm, defers := [] } W)
    (T2 : Code) (hT2 : findLabel (match Tryd.f69.body with | some (.scope c) => c | _ => .skip) 2 = some (.seq .skip T2))
    (a : Act) (W : World) (pre : List (Fld × Bool)) (t : ByteArray) (hf : Fr l Bl fb (.int .i64 0) (.bool false) (.string t) a) (hj : J pre W) (hsz : fb < W.heap.size) (hlen : pre.length + t.size ≤ N) (hit : items = pre ++ [(([], false), false)]) :
    T2.wp Tryd.prog (jumpTo (fun l' a' w' => JJ items J N l Bl fb l' a' w' ∧ mu l' a' w' < mu 2 a W) P2) a W := by
  have hT3 : Code.seq .skip _ = Code.seq .skip T2 := Option.some.inj hT2
  injection hT3 with _ hT4
  subst hT4
  clear hT2
  obtain ⟨u2, u7, u8, u9, u10, u11, u12, u13, u14, u15, u16, u17, u18, u19, u20, u21, u22, u23, u24, u25, u26, u27, u28, u29, u30, u31, u32, u33, u34, u35, u36, u37, u38, u39, u40, u41, u42, u43, u44, u45, u46, u47, u48, u49, u50, u51, u52, u53, u54, u55, rfl⟩ := hf
  obtain ⟨fn, tm, asg, bd, hy, hR⟩ := hY pre (([], false), false) W hj (by omega) hsz
  dsimp only [encI] at hy
  have HRET := Lib.hid hret
  have HIT := Lib.hid hit
  have HR := Lib.hid hR
  clear hret hit hR
  have ht : t.size ≤ 1000000 := by omega
  go_upto_region 12 with (fail)
  refine (wpIn_wide (n := n)).1 ?_
  gi_wp2
  refine HR.out.mono ?_
  rintro e W' (⟨rfl, hj', _, _⟩ | ⟨rfl, hx⟩)
  · gi_wp2
    go_wp2
    exact HRET.out _ _ (.inl (by rw [HIT.out]; exact hj'))
  · gi_wp2
    go_wp2
    exact HRET.out _ _ (.inr ⟨_, by rw [HIT.out]; exact List.prefix_refl _, hx⟩)
set_option maxRecDepth 100000 in
set_option maxHeartbeats 4000000 in
theorem pass2_wrong (n : Nat) (hn : 1 ≤ n) (P2 : Exit → Act → World → Prop) (items : List (Fld × Bool)) (J Jx : List (Fld × Bool) → World → Prop) (N l Bl fb : Nat) (hN : N ≤ 1000000)
    (hY : Yields n l fb N J Jx) (hret : ∀ (tm : Array Value) W, Fin items J Jx W → P2 .ret { tmps := tm, defers := [] } W)
    (T2 : Code) (hT2 : findLabel (match Tryd.f69.body with | some (.scope c) => c | _ => .skip) 2 = some (.seq .skip T2))
    (a : Act) (W : World) (pre : List (Fld × Bool)) (t : ByteArray) (m : Nat) (c : UInt8) (r : List UInt8) (hm : m ≤ t.size) (hcr : t.data.toList.drop m = c :: r) (hc32 : c ≠ 32) (hf : Fr l Bl fb (.int .i64 m) (.bool true) (.string t) a) (hj : J pre W) (hsz : fb < W.heap.size) (hlen : pre.length + t.size ≤ N) (hit : items = pre ++ [(([], false), false)]) :
    T2.wp Tryd.prog (jumpTo (fun l' a' w' => JJ items J N l Bl fb l' a' w' ∧ mu l' a' w' < mu 2 a W) P2) a W := by
  have hT3 : Code.seq .skip _ = Code.seq .skip T2 := Option.some.inj hT2
  injection hT3 with _ hT4
  subst hT4
  clear hT2
  obtain ⟨u2, u7, u8, u9, u10, u11, u12, u13, u14, u15, u16, u17, u18, u19, u20, u21, u22, u23, u24, u25, u26, u27, u28, u29, u30, u31, u32, u33, u34, u35, u36, u37, u38, u39, u40, u41, u42, u43, u44, u45, u46, u47, u48, u49, u50, u51, u52, u53, u54, u55, rfl⟩ := hf
  obtain ⟨fn, tm, asg, bd, hy, hR⟩ := hY pre (([], false), false) W hj (by omega) hsz
  dsimp only [encI] at hy
  have HRET := Lib.hid hret
  have HIT := Lib.hid hit
  have HR := Lib.hid hR
  clear hret hit hR
  have ht : t.size ≤ 1000000 := by omega
  have hx := rest_cons t m hcr
  obtain ⟨x0, x1, x2, x3⟩ := hx
  have x4 : (((t.extract m t.size)[0].toNat : Int) != 32) = true := by
    rw [x3]
    simp only [bne_iff_ne, ne_eq]
    intro e
    apply hc32
    apply UInt8.toNat_inj.1
    show c.toNat = 32
    omega
  clear x3
  have x5 : 0 < t.size - m := by simpa using x0
  have x6 : (0 : Int) < ((t.size - m : Nat) : Int) := by omega
  go_upto_region 12 with (fail)
  refine (wpIn_wide (n := n)).1 ?_
  gi_wp2
  refine HR.out.mono ?_
  rintro e W' (⟨rfl, hj', _, _⟩ | ⟨rfl, hx⟩)
  · gi_wp2
    go_wp2
    exact HRET.out _ _ (.inl (by rw [HIT.out]; exact hj'))
  · gi_wp2
    go_wp2
    exact HRET.out _ _ (.inr ⟨_, by rw [HIT.out]; exact List.prefix_refl _, hx⟩)
set_option maxRecDepth 100000 in
set_option maxHeartbeats 4000000 in
theorem pass2_last (n : Nat) (hn : 1 ≤ n) (P2 : Exit → Act → World → Prop) (items : List (Fld × Bool)) (J Jx : List (Fld × Bool) → World → Prop) (N l Bl fb : Nat) (hN : N ≤ 1000000)
    (hY : Yields n l fb N J Jx) (hret : ∀ (tm : Array Value) W, Fin items J Jx W → P2 .ret { tmps := tm, defers := [] } W)
    (T2 : Code) (hT2 : findLabel (match Tryd.f69.body with | some (.scope c) => c | _ => .skip) 2 = some (.seq .skip T2))
    (a : Act) (W : World) (pre : List (Fld × Bool)) (t : ByteArray) (m : Nat) (S : List UInt8) (qd : Bool) (hm : m ≤ t.size) (hcr : t.data.toList.drop m = []) (hbx : BoxIs W fb (.string ⟨S.toArray⟩) (.bool qd)) (hf : Fr l Bl fb (.int .i64 m) (.bool true) (.string t) a) (hj : J pre W) (hsz : fb < W.heap.size) (hlen : pre.length + t.size ≤ N) (hit : items = pre ++ [((S, qd), true)]) :
    T2.wp Tryd.prog (jumpTo (fun l' a' w' => JJ items J N l Bl fb l' a' w' ∧ mu l' a' w' < mu 2 a W) P2) a W := by
  have hT3 : Code.seq .skip _ = Code.seq .skip T2 := Option.some.inj hT2
  injection hT3 with _ hT4
  subst hT4
  clear hT2
  obtain ⟨u2, u7, u8, u9, u10, u11, u12, u13, u14, u15, u16, u17, u18, u19, u20, u21, u22, u23, u24, u25, u26, u27, u28, u29, u30, u31, u32, u33, u34, u35, u36, u37, u38, u39, u40, u41, u42, u43, u44, u45, u46, u47, u48, u49, u50, u51, u52, u53, u54, u55, rfl⟩ := hf
  obtain ⟨fn, tm, asg, bd, hy, hR⟩ := hY pre ((S, qd), true) W hj (by omega) hsz
  dsimp only [encI] at hy
  have HRET := Lib.hid hret
  have HIT := Lib.hid hit
  have HR := Lib.hid hR
  clear hret hit hR
  have ht : t.size ≤ 1000000 := by omega
  obtain ⟨c0, c1, _, _⟩ := hbx.cells
  have hmt : m = t.size := by
    have : (t.data.toList.drop m).length = t.size - m := by simp
    rw [hcr] at this
    simp at this
    omega
  have x0 := toList_nil (t.extract m t.size) (by simp; omega)
  have x1 : (t.extract m t.size).toList.isEmpty = true := by rw [x0]; rfl
  have x2 : (!(t.extract m t.size).toList.isEmpty) = false := by rw [x1]; rfl
  clear hmt hcr
  go_upto_region 13 with (fail)
  refine (wpIn_wide (n := n)).1 ?_
  gi_wp2
  refine HR.out.mono ?_
  rintro e W' (⟨rfl, hj', _, _⟩ | ⟨rfl, hx⟩)
  · gi_wp2
    go_wp2
    exact HRET.out _ _ (.inl (by rw [HIT.out]; exact hj'))
  · gi_wp2
    go_wp2
    exact HRET.out _ _ (.inr ⟨_, by rw [HIT.out]; exact List.prefix_refl _, hx⟩)
set_option maxRecDepth 100000 in
set_option maxHeartbeats 4000000 in
theorem pass2_more (n : Nat) (hn : 1 ≤ n) (P2 : Exit → Act → World → Prop) (items : List (Fld × Bool)) (J Jx : List (Fld × Bool) → World → Prop) (N l Bl fb : Nat) (hN : N ≤ 1000000)
    (hY : Yields n l fb N J Jx) (hret : ∀ (tm : Array Value) W, Fin items J Jx W → P2 .ret { tmps := tm, defers := [] } W)
    (T2 : Code) (hT2 : findLabel (match Tryd.f69.body with | some (.scope c) => c | _ => .skip) 2 = some (.seq .skip T2))
    (a : Act) (W : World) (pre : List (Fld × Bool)) (t : ByteArray) (m : Nat) (S : List UInt8) (qd : Bool) (hm : m ≤ t.size) (r : List UInt8) (hcr : t.data.toList.drop m = 32 :: r) (hbx : BoxIs W fb (.string ⟨S.toArray⟩) (.bool qd)) (hf : Fr l Bl fb (.int .i64 m) (.bool true) (.string t) a) (hj : J pre W) (hsz : fb < W.heap.size) (hlen : pre.length + t.size ≤ N) (hit : items = pre ++ ((S, qd), true) :: fldsQ r) :
    T2.wp Tryd.prog (jumpTo (fun l' a' w' => JJ items J N l Bl fb l' a' w' ∧ mu l' a' w' < mu 2 a W) P2) a W := by
  have hT3 : Code.seq .skip _ = Code.seq .skip T2 := Option.some.inj hT2
  injection hT3 with _ hT4
  subst hT4
  clear hT2
  obtain ⟨u2, u7, u8, u9, u10, u11, u12, u13, u14, u15, u16, u17, u18, u19, u20, u21, u22, u23, u24, u25, u26, u27, u28, u29, u30, u31, u32, u33, u34, u35, u36, u37, u38, u39, u40, u41, u42, u43, u44, u45, u46, u47, u48, u49, u50, u51, u52, u53, u54, u55, rfl⟩ := hf
  obtain ⟨fn, tm, asg, bd, hy, hR⟩ := hY pre ((S, qd), true) W hj (by omega) hsz
  dsimp only [encI] at hy
  have HRET := Lib.hid hret
  have HIT := Lib.hid hit
  have HR := Lib.hid hR
  clear hret hit hR
  have ht : t.size ≤ 1000000 := by omega
  obtain ⟨c0, c1, _, _⟩ := hbx.cells
  have hx := rest_cons t m hcr
  obtain ⟨x0, x1, x2, x3⟩ := hx
  have x4 : (((t.extract m t.size)[0].toNat : Int) != 32) = false := by
    rw [x3]; rfl
  clear x3
  have x5 : 0 < t.size - m := by simpa using x0
  have x6 : (0 : Int) < ((t.size - m : Nat) : Int) := by omega
  have hr : (((t.extract m t.size).extract 1 (t.size - m)).data.toList = r ∧ ((t.extract m t.size).extract 1 (t.size - m)).size = t.size - m - 1) := by
    have e : (t.extract m t.size).size = t.size - m := by simp
    refine ⟨?_, by simp⟩
    rw [← e, drop_data, drop_data, hcr]; rfl
  have HRR := Lib.hid hr
  clear hcr hr
  go_upto_region 13 with (fail)
  refine (wpIn_wide (n := n)).1 ?_
  gi_wp2
  refine HR.out.mono ?_
  rintro e W' (⟨rfl, hj', hs', hb'⟩ | ⟨rfl, hx⟩)
  · gi_wp2
    go_wp2
    go_step3
    refine ⟨⟨pre ++ [((S, qd), true)], (t.extract m t.size).extract 1 (t.size - m), _, _, Fr_mk, ⟨hj', Nat.lt_of_lt_of_le hsz hs', ⟨_, _, hb'.trans hbx⟩, ?_, ?_⟩⟩, ?_⟩
    · rw [HRR.out.2, List.length_append, List.length_singleton]; omega
    · rw [HRR.out.1, HIT.out, List.append_assoc]; rfl
    · show 3 * ((t.extract m t.size).extract 1 (t.size - m)).size + 2 < 3 * t.size + 0
      rw [HRR.out.2]
      omega
  · gi_wp2
    go_wp2
    exact HRET.out _ _ (.inr ⟨_, by rw [HIT.out]; exact (List.prefix_append_right_inj _).2 (by simp), hx⟩)
end YtkhggnfhhafkjaaDoor
end Go.Proofs
