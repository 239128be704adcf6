/- Shapes: the program's, filled in place, and the reference's, appended one by one. -/
import Derived.Test.YtekhkgcdgkfflaaHdF
import Derived.Laws.OwnMore
import Derived.Laws.Rows
import Derived.Deep.AppendLies
import Derived.LoopTactic
import Derived.Deep.OwnRows
import Derived.Laws.MakeOwn
namespace Go.Proofs
namespace Ytekhkgcdgkfflaa
open Go.RowKit

theorem grown_of_below {a w : World} (h : Below a.heap.size a w) (row : Option Nat) : a.grownBy w row := ⟨h.os, h.tape, h.output, h.size, fun i hi _ => h.block i hi⟩
theorem own_below {w w' : World} {base size n : Nat} {e : TypeId} {v : Value} {xs : List Value} (h : w.ownsRow base e size v n xs) (hb : Below w.heap.size w w') : w'.ownsRow base e size v n xs :=
  h.kept (grown_of_below hb none) (by cases v.ownBlock <;> simp)
theorem made_below {w W : World} {B : Nat} (hB : Below B w W) {W' : World} (h : W.grownBy W' none) (hs : B ≤ W.heap.size) : Below B w W' := hB.grown h hs (fun k hk => by cases hk)
theorem info23 : (Try.prog.info? 23).map (fun i => (i.zero, i.size, i.bytes)) = some (some (.agg #[.int .i64 0, .int .i64 0]), 2, 16) := by kernel_rfl
/-- the cells of a list of shapes -/
def sc (l : List (Int × Int)) : List Value := l.flatMap fun f => [.int .i64 f.1, .int .i64 f.2]
theorem sc_snoc (l : List (Int × Int)) (f : Int × Int) : sc (l ++ [f]) = sc l ++ [.int .i64 f.1, .int .i64 f.2] := by simp [sc]
theorem sc_length (l : List (Int × Int)) : (sc l).length = l.length * 2 := by
  induction l with
  | nil => rfl
  | cons f l ih => simp only [sc, List.flatMap_cons, List.length_append, List.length_cons, List.length_nil] at *; omega
theorem sc_get (l : List (Int × Int)) : ∀ (i : Nat) (h : i < l.length), (sc l)[i * 2]? = some (.int .i64 l[i].1) ∧ (sc l)[i * 2 + 1]? = some (.int .i64 l[i].2) := by
  induction l with
  | nil => intro i h; simp at h
  | cons f l ih =>
    intro i h
    cases i with
    | zero => simp [sc]
    | succ i =>
      have := ih i (by simpa using h)
      have e : sc (f :: l) = [.int .i64 f.1, .int .i64 f.2] ++ sc l := by simp [sc]
      rw [e, List.getElem?_append_right (by simp; omega), List.getElem?_append_right (by simp; omega)]
      simp only [List.length_cons, List.length_nil, List.getElem_cons_succ]
      rw [show (i + 1) * 2 - (0 + 1 + 1) = i * 2 by omega, show (i + 1) * 2 + 1 - (0 + 1 + 1) = i * 2 + 1 by omega]
      exact this
def shF (n : Nat) (p : Nat) : Int × Int := ((p : Int), (n : Int) - 1 - (p : Int))
def shL (n k : Nat) : List (Int × Int) := (List.range k).map (shF n)
theorem shL_length (n k : Nat) : (shL n k).length = k := by simp [shL]
theorem shL_succ (n k : Nat) : shL n (k + 1) = shL n k ++ [shF n k] := by simp [shL, List.range_succ]
/-- v is a slice of the n shapes of the size n -/
def ShAt (W : World) (v : Value) (n : Nat) : Prop := ∃ b cap, v = .slice (some ⟨b, 0, none⟩) n cap ∧ ∀ i, i < n → W.cell? ⟨b, i * 2, none⟩ = some (.int .i64 (i : Int)) ∧ W.cell? ⟨b, i * 2 + 1, none⟩ = some (.int .i64 ((n : Int) - 1 - (i : Int)))
theorem cell_lt {W : World} {p : Addr} {u : Value} (h : W.cell? p = some u) : p.block < W.heap.size := by
  unfold World.cell? at h
  apply Classical.byContradiction
  intro hn
  have : W.heap[p.block]? = none := by simp; omega
  rw [this] at h
  simp at h
theorem ShAt.below {W W' : World} {v : Value} {n : Nat} (h : ShAt W v n) (hb : Below W.heap.size W W') : ShAt W' v n := by
  obtain ⟨b, cap, rfl, h⟩ := h
  exact ⟨b, cap, rfl, fun i hi => ⟨(hb.cell (cell_lt (h i hi).1)).trans (h i hi).1, (hb.cell (cell_lt (h i hi).2)).trans (h i hi).2⟩⟩
/-- the answer of Shapes -/
def ShAns (W : World) (n : Int) (e : Ending) (w' : World) : Prop :=
  (∃ (v : Value) (k : Nat), (k : Int) = n ∧ 1 ≤ k ∧ k ≤ 64 ∧ e = .returned (.tuple #[v, .int .i64 0]) ∧ ShAt w' v k ∧ Below W.heap.size W w') ∨ ((n < 1 ∨ 64 < n) ∧ e = .returned (.tuple #[.slice none 0 0, .int .i64 7]) ∧ Below W.heap.size W w')

/-- a row of n shapes, of which k are there -/
structure Fil (B : Nat) (w W : World) (n k : Nat) : Prop where
  ex : ∃ xs : List Value, W.ownsRow B 23 2 (.slice (some ⟨B, 0, none⟩) n n) n xs ∧ (∀ j, j < k → xs[j * 2]? = some (.int .i64 (j : Int)) ∧ xs[j * 2 + 1]? = some (.int .i64 ((n : Int) - 1 - (j : Int))))
  low : Below B w W
theorem Fil.cells {B : Nat} {w W : World} {n k : Nat} (h : Fil B w W n k) (j : Nat) (hj : j < n * 2) : ∃ u, W.cell? ⟨B, j, none⟩ = some u := by
  obtain ⟨xs, ho, _⟩ := h.ex
  refine ⟨xs[j]'(by rw [ho.1]; exact hj), ?_⟩
  rw [ho.cellAt j hj, List.getElem?_eq_getElem]
theorem Fil.free {B : Nat} {w W : World} {n k : Nat} (h : Fil B w W n k) (j : Nat) : W.frozen? ⟨B, j, none⟩ = false := by
  obtain ⟨xs, ho, _⟩ := h.ex
  exact ho.frozenAt j
theorem Fil.put {B : Nat} {w W : World} {n k : Nat} (h : Fil B w W n k) (hk : k < n) : Fil B w ((W.setCell ⟨B, k * 2, none⟩ (.int .i64 (k : Int))).setCell ⟨B, k * 2 + 1, none⟩ (.int .i64 ((n : Int) - 1 - (k : Int)))) n (k + 1) := by
  obtain ⟨xs, ho, hx⟩ := h.ex
  have hl := ho.1
  obtain ⟨o1, _⟩ := ho.stored (k * 2) (.int .i64 (k : Int))
  obtain ⟨o2, _⟩ := o1.stored (k * 2 + 1) (.int .i64 ((n : Int) - 1 - (k : Int)))
  refine ⟨⟨_, o2, fun j hj => ?_⟩, (h.low.setCell (p := ⟨B, k * 2, none⟩) (Nat.le_refl _) _).setCell (p := ⟨B, k * 2 + 1, none⟩) (Nat.le_refl _) _⟩
  by_cases he : j = k
  · subst he
    rw [List.getElem?_set_ne (by omega), List.getElem?_set_self (by omega), List.getElem?_set_self (by simp; omega)]
    exact ⟨rfl, rfl⟩
  · rw [List.getElem?_set_ne (by omega), List.getElem?_set_ne (by omega), List.getElem?_set_ne (by omega), List.getElem?_set_ne (by omega)]
    exact hx j (by omega)
theorem Fil.done {B : Nat} {w W : World} {n : Nat} (h : Fil B w W n n) : ShAt W (.slice (some ⟨B, 0, none⟩) n n) n := by
  obtain ⟨xs, ho, hx⟩ := h.ex
  exact ⟨B, n, rfl, fun i hi => ⟨(ho.cellAt _ (by omega)).trans (hx i hi).1, (ho.cellAt _ (by omega)).trans (hx i hi).2⟩⟩

set_option maxRecDepth 100000 in
set_option maxHeartbeats 400000 in
theorem shapes25 (n : Int) (w : World) : Calls Try.prog 25 #[.int .i64 n] w fun e w' => ShAns w n e w' := by
  by_cases h : n < 1 ∨ 64 < n
  · by_cases h1 : n < 1
    · have q1 : decide (n < 1) = true := decide_eq_true h1
      have h' := Lib.hid h
      clear h
      go_enter Try.func25, Try.ntmps25
      go_wp2
      go_ret2
      exact .inr ⟨h'.out, rfl, Below.refl _ _⟩
    · have q1 : decide (n < 1) = false := decide_eq_false h1
      have q2 : decide (64 < n) = true := decide_eq_true (by omega)
      have h' := Lib.hid h
      clear h
      go_enter Try.func25, Try.ntmps25
      go_wp2
      go_ret2
      exact .inr ⟨h'.out, rfl, Below.refl _ _⟩
  · obtain ⟨m, rfl⟩ : ∃ m : Nat, n = (m : Int) := ⟨n.toNat, by omega⟩
    have m1 : 1 ≤ m := by omega
    have m2 : m ≤ 64 := by omega
    have q1 : decide ((m : Int) < 1) = false := decide_eq_false (by omega)
    have q2 : decide ((64 : Int) < (m : Int)) = false := decide_eq_false (by omega)
    obtain ⟨i0, hi, hz0, hz1, hz2⟩ := info_parts info23
    clear h
    go_enter Try.func25, Try.ntmps25
    go_wp2_with (refine wpList_make_full _ rfl _ _ 39 rfl w.heap.size 23 i0 _ 2 Try.underlying39 hi hz0 hz1 .i64 .i64 (m : Int) (m : Int) m rfl rfl rfl rfl (by rw [hz2]; omega) (by unfold maxLen; omega) (Nat.le_refl _) ?_; intro W1 hr1 hg1; have hF := Lib.hid (show Fil w.heap.size w W1 m 0 from ⟨⟨_, hr1, fun j hj => absurd hj (Nat.not_lt_zero _)⟩, made_below (Below.refl _ w) hg1 (Nat.le_refl _)⟩); clear hr1 hg1)
    go_loopw [16] (fun i wr => ∃ k : Nat, k ≤ m ∧ i = .int .i64 k ∧ Hid (Fil w.heap.size w wr m k)) (fun i _ => m - (intOf i).toNat)
    case atStart => exact ⟨0, by omega, rfl, hF⟩
    case round =>
      clear hF
      obtain ⟨k, hk, rfl, hF⟩ := hrel
      by_cases hlt : k < m
      · obtain ⟨u0, c0⟩ := hF.out.cells (k * 2) (by omega)
        obtain ⟨u1, c1⟩ := hF.out.cells (k * 2 + 1) (by omega)
        have z0 := hF.out.free (k * 2)
        have z1 := hF.out.free (k * 2 + 1)
        have hP := Lib.hid (hF.out.put hlt)
        go_wp2
        go_roundw
        case rel => exact ⟨k + 1, by omega, by go_num, hP⟩
        case measure => simp [intOf]; omega
      · obtain rfl : k = m := by omega
        go_wp2
        go_ret2
        exact .inl ⟨_, k, rfl, m1, m2, rfl, hF.out.done, hF.out.low⟩
theorem two_new (W : World) (x y : Value) (t : TypeId) : ∀ j u, [x, y][j]? = some u → (W.alloc (.cells #[x, y] t)).cell? ((⟨W.heap.size, 0, none⟩ : Addr).add j) = some u := by
  intro j u hj
  have e : (⟨W.heap.size, 0, none⟩ : Addr).add j = ⟨W.heap.size, j, none⟩ := by unfold Addr.add; split <;> simp_all
  rw [e, cell_of_row _ _ _ _ _ _ (heap_alloc_new W _)]
  simpa using hj
def SRow (B : Nat) (W : World) (v : Value) (l : List (Int × Int)) : Prop := W.ownsRow B 23 2 v l.length (sc l)
theorem push_shape {ops : Array Oper} {rest : List Oper} {o : Oper} {a : Act} {Q : Exit → Act → World → Prop} {W W0 w : World} {B : Nat} {v : Value} {l : List (Int × Int)} (hown : SRow B W v l) (hB : Below B w W) (p r : Int) (hgd : o.guard = none) (s x : Operand)
    (ho : o.op = .call { callee := .builtin .append, args := #[s, x], argTypes := #[39, 39] }) (hs : a.eval s = v) (H : Nat) (hx : a.eval x = .slice (some ⟨H, 0, none⟩) 1 1) (hH : H = W.heap.size)
    (hW : W0 = W.alloc (.cells #[.int .i64 p, .int .i64 r] 23)) (hBs : B ≤ w.heap.size) (hl : l.length + 1 ≤ 1000000)
    (h : ∀ v' W', SRow B W' v' (l ++ [(p, r)]) → Below B w W' → wpList Try.prog ops Q rest (a.put o.dst v') W') : wpList Try.prog ops Q (o :: rest) a W0 := by
  subst hW
  subst hH
  obtain ⟨i0, hi, hz0, hz1, hz2⟩ := info_parts info23
  have hBW : B ≤ W.heap.size := Nat.le_trans hBs hB.size
  refine wpList_append_own _ hgd s x 39 ho B 23 i0 _ 2 16 Try.underlying39 hi hz0 hz1 hz2 rfl (by decide) v l.length (sc l) hs (hown.alloc _) ⟨W.heap.size, 0, none⟩ 1 1 [.int .i64 p, .int .i64 r] hx rfl (two_new W _ _ _) ?_ ?_ ?_ ?_ ?_
  · simp [Value.oneCell']
  · unfold maxLen; omega
  · omega
  · simp; omega
  · intro v' W' h1 h2 _
    refine h v' W' ?_ ?_
    · unfold SRow; rw [sc_snoc, List.length_append, List.length_singleton]; exact h1
    · exact (hB.alloc hBW _).grown h2 (by simp; omega) (fun k hk => (hown.lt k hk).1)
theorem SRow.shapes {B : Nat} {W : World} {v : Value} {m : Nat} (h : SRow B W v (shL m m)) (hm : 1 ≤ m) : ShAt W v m := by
  unfold SRow at h
  rcases h.2 with ⟨rfl, h0⟩ | ⟨g, cap, cur, rfl, _⟩
  · rw [shL_length] at h0; omega
  · rw [shL_length] at h ⊢
    refine ⟨g, cap, rfl, fun i hi => ?_⟩
    obtain ⟨e1, e2⟩ := sc_get (shL m m) i (by rw [shL_length]; exact hi)
    refine ⟨(h.cellAt _ (by omega)).trans (e1.trans ?_), (h.cellAt _ (by omega)).trans (e2.trans ?_)⟩ <;> simp [shL, shF]
set_option maxRecDepth 100000 in
set_option maxHeartbeats 400000 in
theorem rshapes26 (n : Int) (w : World) : Calls Try.prog 26 #[.int .i64 n] w fun e w' => ShAns w n e w' := by
  by_cases h : n < 1 ∨ 64 < n
  · by_cases h1 : n < 1
    · have q1 : decide (n < 1) = true := decide_eq_true h1
      have h' := Lib.hid h
      clear h
      go_enter Try.func26, Try.ntmps26
      go_wp2
      go_ret2
      exact .inr ⟨h'.out, rfl, Below.refl _ _⟩
    · have q1 : decide (n < 1) = false := decide_eq_false h1
      have q2 : decide (64 < n) = true := decide_eq_true (by omega)
      have h' := Lib.hid h
      clear h
      go_enter Try.func26, Try.ntmps26
      go_wp2
      go_ret2
      exact .inr ⟨h'.out, rfl, Below.refl _ _⟩
  · obtain ⟨m, rfl⟩ : ∃ m : Nat, n = (m : Int) := ⟨n.toNat, by omega⟩
    have m1 : 1 ≤ m := by omega
    have m2 : m ≤ 64 := by omega
    have q1 : decide ((m : Int) < 1) = false := decide_eq_false (by omega)
    have q2 : decide ((64 : Int) < (m : Int)) = false := decide_eq_false (by omega)
    clear h
    go_enter Try.func26, Try.ntmps26
    go_wp2
    go_loopw [4, 5] (fun v i wr => ∃ k : Nat, k ≤ m ∧ i = .int .i64 k ∧ Hid (SRow w.heap.size wr v (shL m k) ∧ Below w.heap.size w wr)) (fun _ i _ => m - (intOf i).toNat)
    case atStart => exact ⟨0, by omega, rfl, Lib.hid ⟨World.ownsRow_nil _ _ _ _, Below.refl _ _⟩⟩
    case round =>
      obtain ⟨k, hk, rfl, hF⟩ := hrel
      by_cases hlt : k < m
      · have hlt' : (k : Int) < (m : Int) := by omega
        go_wp2_with (at_builtin; refine push_shape hF.out.1 hF.out.2 (k : Int) ((m : Int) - 1 - (k : Int)) rfl _ _ rfl rfl _ rfl rfl rfl (Nat.le_refl _) (by rw [shL_length]; omega) ?_; intro v1 W1 hs1 hb1; have hP := Lib.hid (And.intro (show SRow w.heap.size W1 v1 (shL m (k + 1)) by rw [shL_succ]; exact hs1) hb1); clear hs1 hb1)
        go_roundw
        case rel => exact ⟨k + 1, by omega, by go_num, hP⟩
        case measure => simp [intOf]; omega
      · obtain rfl : k = m := by omega
        go_wp2
        go_ret2
        exact .inl ⟨_, k, rfl, m1, m2, rfl, hF.out.1.shapes m1, hF.out.2⟩
end Ytekhkgcdgkfflaa
end Go.Proofs
