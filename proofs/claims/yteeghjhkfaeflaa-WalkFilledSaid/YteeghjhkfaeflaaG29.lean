/- Count, the program's. -/
import Derived.Test.YteeghjhkfaeflaaG28
import Derived.Test.YteeghjhkfaeflaaG07
namespace Go.Proofs
namespace Yteeghjhkfaeflaa
open Go.RowKit

def sumP (l : List (Int × Int)) : Int := l.foldl (fun s p => s + p.1) 0
def sumR (l : List (Int × Int)) : Int := l.foldl (fun s p => s + p.2) 0
theorem sumP_snoc (l : List (Int × Int)) (p : Int × Int) : sumP (l ++ [p]) = sumP l + p.1 := by simp [sumP]
theorem sumR_snoc (l : List (Int × Int)) (p : Int × Int) : sumR (l ++ [p]) = sumR l + p.2 := by simp [sumR]
def cntF (ws : List Int) (f t : Int) : (Int × Int × Int) × Int := if (shpsF ws f t).2 ≠ 0 then ((0, 0, 0), (shpsF ws f t).2) else (((shpsF ws f t).1.length, sumP (shpsF ws f t).1, sumR (shpsF ws f t).1), 0)
def cntV (n : Int × Int × Int) : Value := .agg #[.int .i64 n.1, .int .i64 n.2.1, .int .i64 n.2.2]
theorem obj_rng (ws : List Int) (x : Int) : 0 ≤ (objF ws x).1 ∧ (objF ws x).1 ≤ 63 ∧ 0 ≤ (objF ws x).2.1 ∧ (objF ws x).2.1 ≤ 63 := by
  rcases obj_cases ws x with ⟨E, hE, e⟩ | ⟨k, P, R, rfl, ho⟩
  · rw [e]; simp
  · rw [ho.is]; have := ho.sum; dsimp only; omega
def smallP (p : Int × Int) : Prop := 0 ≤ p.1 ∧ p.1 ≤ 63 ∧ 0 ≤ p.2 ∧ p.2 ≤ 63
theorem shps_small (ws : List Int) (f t : Int) : ∀ p ∈ (shpsF ws f t).1, smallP p := by
  unfold shpsF colF
  split
  · intro p hp
    simp only [List.mem_flatMap, shpL, List.mem_singleton] at hp
    obtain ⟨x, _, rfl⟩ := hp
    exact obj_rng ws x
  · intro p hp; cases hp
theorem sum_bound (l : List (Int × Int)) (h : ∀ p ∈ l, smallP p) : ∀ j, j ≤ l.length → 0 ≤ sumP (l.take j) ∧ sumP (l.take j) ≤ 63 * j ∧ 0 ≤ sumR (l.take j) ∧ sumR (l.take j) ≤ 63 * j
  | 0, _ => by simp [sumP, sumR]
  | j + 1, hj => by
    have h1 := sum_bound l h j (by omega)
    have h2 := h (l.getD j (0, 0)) (by rw [List.getD_eq_getElem?_getD, List.getElem?_eq_getElem (by omega)]; exact List.getElem_mem _)
    unfold smallP at h2
    rw [pair_take (by omega), sumP_snoc, sumR_snoc]
    omega
theorem shps_len (ws : List Int) (f t : Int) : (shpsF ws f t).1.length ≤ 102464 := col_len _ _ (by intro x; simp [shpL]) ws f t
theorem three_row {W : World} {g : Nat} {x y z : Value} {t : TypeId} (h : W.heap[g]? = some (.cells #[x, y, z] t (0, 0))) :
    W.cell? ⟨g, 0, none⟩ = some x ∧ W.cell? ⟨g, 1, none⟩ = some y ∧ W.cell? ⟨g, 2, none⟩ = some z ∧ W.frozen? ⟨g, 0, none⟩ = false ∧ W.frozen? ⟨g, 1, none⟩ = false ∧ W.frozen? ⟨g, 2, none⟩ = false := by
  obtain ⟨h0, h1, h2⟩ := three_cells h
  exact ⟨h0, h1, h2, frozen_of_row _ _ _ _ _ h, frozen_of_row _ _ _ _ _ h, frozen_of_row _ _ _ _ _ h⟩
theorem three_put {W : World} {g : Nat} {x y z : Value} {t : TypeId} (h : W.heap[g]? = some (.cells #[x, y, z] t (0, 0))) (a b c : Value) :
    (((W.setCell ⟨g, 0, none⟩ a).setCell ⟨g, 1, none⟩ b).setCell ⟨g, 2, none⟩ c).heap[g]? = some (.cells #[a, b, c] t (0, 0)) := by
  have := set_row (set_row (set_row h 0 a) 1 b) 2 c
  simpa using this
theorem two_put {W : World} {g : Nat} {x y z : Value} {t : TypeId} (h : W.heap[g]? = some (.cells #[x, y, z] t (0, 0))) (b c : Value) :
    ((W.setCell ⟨g, 1, none⟩ b).setCell ⟨g, 2, none⟩ c).heap[g]? = some (.cells #[x, b, c] t (0, 0)) := by
  have := set_row (set_row h 1 b) 2 c
  simpa using this
set_option maxRecDepth 100000 in
set_option maxHeartbeats 1000000 in
theorem count20 (v : Value) (ws : List Int) (f t : Int) (w : World) (h : Ar w v ws) :
    Calls Try.prog 20 #[v, .int .i64 f, .int .i64 t] w fun e w' => e = .returned (.tuple #[cntV (cntF ws f t).1, .int .i64 (cntF ws f t).2]) ∧ Below w.heap.size w w' := by
  have E := Lib.hid (fun W (hb : Below w.heap.size w W) => col42 v ws f t 43 (enters_of Try.func43 (by kernel_rfl) rfl) (shpL ws) (fun x => (objF ws x).2.2) (by intro x; simp [shpL]) W (h.below hb) (fun x X hX => shape43 v ws x X ((h.below hb).below hX)))
  have hlen := shps_len ws f t
  have hsm := shps_small ws f t
  unfold cntF
  unfold shpsF at *
  generalize colF (shpL ws) (fun x => (objF ws x).2.2) ws f t = q at *
  obtain ⟨l, c⟩ := q
  dsimp only at *
  obtain ⟨Av, cv, rfl, -, -⟩ := h.open
  clear h
  have N := Lib.hid (heap_alloc_new w (.cells #[.int .i64 0, .int .i64 0, .int .i64 0] 35))
  have B := Lib.hid (alloc_below w (.cells #[.int .i64 0, .int .i64 0, .int .i64 0] 35))
  by_cases hc : c = 0
  rotate_left
  · rw [if_pos hc]
    have q : (c != 0) = true := by simpa using hc
    clear hc hsm
    unfold cntV
    dsimp only
    go_enter Try.func20, Try.ntmps20
    go_wp2_with (go_at_call 42; refine (E.out _ B.out).mono ?_; rintro e w1 ⟨u, rfl, hx, hb⟩; have HB := Lib.hid (below_end B.out hb); have N1 := Lib.hid (keep_heap hb N.out); clear hb hx; obtain ⟨t0, t1, t2, t3, t4, t5⟩ := three_row N1.out)
    obtain ⟨s0, s1, s2⟩ := three_cells (three_put N1.out (.int .i64 0) (.int .i64 0) (.int .i64 0))
    exact bodyPost_ret (v := .tuple #[.agg #[.int .i64 0, .int .i64 0, .int .i64 0], .int .i64 c]) (by simp [results, Try.f20, go_sem, s0, s1, s2]) rfl ⟨rfl, ((HB.out.setCell (p := ⟨w.heap.size, 0, none⟩) (Nat.le_refl _) _).setCell (p := ⟨w.heap.size, 1, none⟩) (Nat.le_refl _) _).setCell (p := ⟨w.heap.size, 2, none⟩) (Nat.le_refl _) _⟩
  subst hc
  rw [if_neg (by simp)]
  unfold cntV
  dsimp only
  go_enter Try.func20, Try.ntmps20
  go_upto_region 5 with (go_at_call 42; refine (E.out _ B.out).mono ?_; rintro e w1 ⟨u, rfl, hx, hb⟩; have HB := Lib.hid (below_end B.out hb); have N1 := Lib.hid (keep_heap hb N.out); obtain ⟨A, cp, rfl, hc⟩ := XAt.of_own hx; have HA := Lib.hid hc; clear hc hx hb)
  obtain ⟨m, hm⟩ : ∃ m, l.length = m := ⟨_, rfl⟩
  have HM := Lib.hid hm
  rw [hm] at hlen ⊢
  have hb2 := alloc_below w1 (.cells #[.int .i64 (m : Int), .int .i64 0, .int .i64 0] 35)
  have N2 := Lib.hid (heap_alloc_new w1 (.cells #[.int .i64 (m : Int), .int .i64 0, .int .i64 0] 35))
  have B2 := Lib.hid (below_end HB.out hb2)
  have Z2 := Lib.hid (keep_heap hb2 N1.out)
  have K2 := Lib.hid (fun (p : Addr) (u : Value) (hp : w1.cell? p = some u) => (⟨cell_lt hp, keep_cell hb2 hp⟩ : p.block < w1.heap.size ∧ (w1.alloc (.cells #[.int .i64 (m : Int), .int .i64 0, .int .i64 0] 35)).cell? p = some u))
  have hg : w.heap.size < w1.heap.size := (Array.getElem?_eq_some_iff.1 N1.out).1
  have hg2 : w1.heap.size < (w1.alloc (.cells #[.int .i64 (m : Int), .int .i64 0, .int .i64 0] 35)).heap.size := by simp
  generalize w1.alloc (.cells #[.int .i64 (m : Int), .int .i64 0, .int .i64 0] 35) = W2 at *
  have HSM := Lib.hid hsm
  clear hm hb2 hsm N N1 B
  generalize hgg : w1.heap.size = g at *
  have HG := Lib.hid hg
  have HG2 := Lib.hid hg2
  clear hgg hg hg2
  go_wp2
  go_loopw [30] (fun i wr => ∃ j : Nat, j ≤ m ∧ i = .int .i64 j ∧ Hid (wr.heap[g]? = some (.cells #[.int .i64 (m : Int), .int .i64 (sumP (l.take j)), .int .i64 (sumR (l.take j))] 35 (0, 0))) ∧ Hid (Below g W2 wr)) (fun i _ => m - (intOf i).toNat)
  case atStart => exact ⟨0, by omega, rfl, N2, Lib.hid (Below.refl _ _)⟩
  case round =>
    obtain ⟨j, hj, rfl, hrow, hB⟩ := hrel
    by_cases hlt : j < m
    · have hlt' : (j : Int) < (m : Int) := by omega
      have hjl : j < l.length := by rw [HM.out]; exact hlt
      obtain ⟨b1, o1, rfl, ca⟩ := HA.out (by omega)
      have ca1 := K2.out _ _ (ca _ _ (pc_get l j hjl).1)
      have ca2 := K2.out _ _ (ca _ _ (pc_get l j hjl).2)
      rw [← Nat.add_assoc] at ca2
      have cb1 := (World.cell?_of_block (hB.out.block _ ca1.1)).trans ca1.2
      have cb2 := (World.cell?_of_block (hB.out.block _ ca2.1)).trans ca2.2
      have hbd := sum_bound l HSM.out j (by omega)
      have hsj := HSM.out (l.getD j (0, 0)) (by rw [List.getD_eq_getElem?_getD, List.getElem?_eq_getElem hjl]; exact List.getElem_mem _)
      have LP := Lib.hid (sumP_snoc (l.take j) (l.getD j (0, 0)))
      have LR := Lib.hid (sumR_snoc (l.take j) (l.getD j (0, 0)))
      rw [← pair_take hjl] at LP LR
      have ad1 : (⟨b1, o1, none⟩ : Addr).add (j * 2) = ⟨b1, o1 + j * 2, none⟩ := by unfold Addr.add; split <;> simp_all
      generalize l.getD j (0, 0) = x at *
      obtain ⟨y, z⟩ := x
      unfold smallP at hsj
      dsimp only at *
      generalize sumP (l.take j) = sp at *
      generalize sumR (l.take j) = sr at *
      have e1 : IntKind.i64.wrap (sp + y) = sp + y := IntWalk.i64_in _ (by omega)
      have e2 : IntKind.i64.wrap (sr + z) = sr + z := IntWalk.i64_in _ (by omega)
      clear ca ca1 ca2 hbd hsj
      go_upto_region 8 with (fail)
      have hb3 := alloc_below wr (.cells #[.int .i64 y, .int .i64 z] 51)
      have N3 := Lib.hid (heap_alloc_new wr (.cells #[.int .i64 y, .int .i64 z] 51))
      have R3 := Lib.hid (keep_heap hb3 hrow.out)
      have B3 := Lib.hid (hB.out.alloc (Nat.le_trans (Nat.le_of_lt HG2.out) hB.out.size) (.cells #[.int .i64 y, .int .i64 z] 51))
      have hne : g ≠ wr.heap.size := by have := (Array.getElem?_eq_some_iff.1 hrow.out).1; omega
      generalize wr.heap.size = gb at *
      generalize wr.alloc (.cells #[.int .i64 y, .int .i64 z] 51) = W3 at *
      obtain ⟨t0, t1, -, -⟩ := two_free N3.out
      obtain ⟨r0, r1, r2, r3, r4, r5⟩ := three_row R3.out
      have HNE := Lib.hid hne
      clear hb3 cb1 cb2 hrow hB hne
      have t1' : (W3.setCell ⟨g, 1, none⟩ (.int .i64 (sp + y))).cell? ⟨gb, 1, none⟩ = some (.int .i64 z) := by rw [World.cell?_setCell_other _ _ _ _ (by simp [HNE.out])]; exact t1
      have r2' : (W3.setCell ⟨g, 1, none⟩ (.int .i64 (sp + y))).cell? ⟨g, 2, none⟩ = some (.int .i64 sr) := by rw [World.cell?_setCell_other _ _ _ _ (by simp)]; exact r2
      have r5' : (W3.setCell ⟨g, 1, none⟩ (.int .i64 (sp + y))).frozen? ⟨g, 2, none⟩ = false := by
        have := set_row R3.out 1 (.int .i64 (sp + y)); exact frozen_of_row _ _ _ _ _ this
      go_wp2
      refine ⟨⟨j + 1, by omega, by simp, Lib.hid ?_, Lib.hid ((B3.out.setCell (p := ⟨g, 1, none⟩) (Nat.le_refl _) _).setCell (p := ⟨g, 2, none⟩) (Nat.le_refl _) _)⟩, ?_⟩
      · rw [LP.out, LR.out]; exact two_put R3.out _ _
      · show m - ((j : Int) + 1).toNat < m - ((j : Int)).toNat
        omega
    · have ek : j = m := by omega
      have ht : l.take j = l := List.take_of_length_le (by rw [HM.out]; omega)
      rw [ht] at hrow
      have hlt' : ¬ (j : Int) < (m : Int) := by omega
      obtain ⟨r0, r1, r2, r3, r4, r5⟩ := three_row hrow.out
      have Z3 := Lib.hid ((hB.out.block _ HG.out).trans Z2.out)
      obtain ⟨t0, t1, t2, t3, t4, t5⟩ := three_row Z3.out
      clear ht ek
      go_wp2
      obtain ⟨s0, s1, s2⟩ := three_cells (three_put Z3.out (.int .i64 (m : Int)) (.int .i64 (sumP l)) (.int .i64 (sumR l)))
      exact bodyPost_ret (v := .tuple #[.agg #[.int .i64 (m : Int), .int .i64 (sumP l), .int .i64 (sumR l)], .int .i64 0]) (by simp [results, Try.f20, go_sem, s0, s1, s2]) rfl ⟨by rw [HM.out], (((B2.out.trans (hB.out.mono (Nat.le_of_lt HG.out))).setCell (p := ⟨w.heap.size, 0, none⟩) (Nat.le_refl _) _).setCell (p := ⟨w.heap.size, 1, none⟩) (Nat.le_refl _) _).setCell (p := ⟨w.heap.size, 2, none⟩) (Nat.le_refl _) _⟩
end Yteeghjhkfaeflaa
end Go.Proofs
/- Two counts, two references, compared. -/
namespace Go.Proofs
namespace Yteeghjhkfaeflaa
namespace Hd
open Go.RowKit

theorem flds35 : ∀ f ∈ (Try.prog.fieldsOf 35).toList, f.name ≠ "_" ∧ f.type = 3 := by
  have h : (Try.prog.fieldsOf 35).toList.all (fun f => decide (f.name ≠ "_") && f.type == 3) = true := by kernel_rfl
  intro f hf
  have := List.all_eq_true.1 h f hf
  simpa using this
theorem offs35 : (Try.prog.fieldsOf 35).toList.map (·.offset) = [0, 1, 2] := by kernel_rfl
theorem held35 : Try.prog.stoodInHeld 35 = false := by kernel_rfl
def sameT35 (a b x c d y : Int) : Bool := a == c && b == d && x == y
theorem eqIn35 (a b x c d y : Int) (W : World) : (Op.equalIn 10000 35 (.agg (ints [a, b, x])) (.agg (ints [c, d, y]))).run Try.prog W = .ok (sameT35 a b x c d y) W := by
  rw [run_equalIn_agg W 9999 35 _ _ (by kernel_rfl) held35]
  have ho := offs35
  rw [eqF23 9998 W [a, b, x] [c, d, y] _ flds35 (by
    intro f hf
    have : f.offset ∈ (Try.prog.fieldsOf 35).toList.map (·.offset) := List.mem_map.2 ⟨f, hf, rfl⟩
    rw [ho] at this
    simp at this
    simp
    omega)]
  have e : ((Try.prog.fieldsOf 35).toList.all fun f => [a, b, x].getD f.offset 0 == [c, d, y].getD f.offset 0) = (((Try.prog.fieldsOf 35).toList.map (·.offset)).all fun i => [a, b, x].getD i 0 == [c, d, y].getD i 0) := by
    rw [List.all_map]; rfl
  rw [e, ho]
  simp [sameT35, Bool.and_assoc]
theorem eql35 (a b x c d y : Int) (W : World) : (binOp .eql 35 (.agg #[.int .i64 a, .int .i64 b, .int .i64 x]) (.agg #[.int .i64 c, .int .i64 d, .int .i64 y])).run Try.prog W = .ok (.bool (sameT35 a b x c d y)) W := by
  rw [run_eql_struct]
  have h := eqIn35 a b x c d y W
  unfold ints at h
  simp only [List.map_cons, List.map_nil] at h
  rw [h]
  rfl
theorem neq35 (a b x c d y : Int) (W : World) : (binOp .neq 35 (.agg #[.int .i64 a, .int .i64 b, .int .i64 x]) (.agg #[.int .i64 c, .int .i64 d, .int .i64 y])).run Try.prog W = .ok (.bool (!sameT35 a b x c d y)) W := by
  rw [run_neq_struct]
  have h := eqIn35 a b x c d y W
  unfold ints at h
  simp only [List.map_cons, List.map_nil] at h
  rw [h]
  rfl
theorem flds57 : ∀ f ∈ (Try.prog.fieldsOf 57).toList, f.name ≠ "_" ∧ f.type = 3 := by
  have h : (Try.prog.fieldsOf 57).toList.all (fun f => decide (f.name ≠ "_") && f.type == 3) = true := by kernel_rfl
  intro f hf
  have := List.all_eq_true.1 h f hf
  simpa using this
theorem offs57 : (Try.prog.fieldsOf 57).toList.map (·.offset) = [0, 1] := by kernel_rfl
theorem held57 : Try.prog.stoodInHeld 57 = false := by kernel_rfl
def sameT57 (a b c d : Int) : Bool := a == c && b == d
theorem eqIn57 (a b c d : Int) (W : World) : (Op.equalIn 10000 57 (.agg (ints [a, b])) (.agg (ints [c, d]))).run Try.prog W = .ok (sameT57 a b c d) W := by
  rw [run_equalIn_agg W 9999 57 _ _ (by kernel_rfl) held57]
  have ho := offs57
  rw [eqF23 9998 W [a, b] [c, d] _ flds57 (by
    intro f hf
    have : f.offset ∈ (Try.prog.fieldsOf 57).toList.map (·.offset) := List.mem_map.2 ⟨f, hf, rfl⟩
    rw [ho] at this
    simp at this
    simp
    omega)]
  have e : ((Try.prog.fieldsOf 57).toList.all fun f => [a, b].getD f.offset 0 == [c, d].getD f.offset 0) = (((Try.prog.fieldsOf 57).toList.map (·.offset)).all fun i => [a, b].getD i 0 == [c, d].getD i 0) := by
    rw [List.all_map]; rfl
  rw [e, ho]
  simp [sameT57, Bool.and_assoc]
theorem eql57 (a b c d : Int) (W : World) : (binOp .eql 57 (.agg #[.int .i64 a, .int .i64 b]) (.agg #[.int .i64 c, .int .i64 d])).run Try.prog W = .ok (.bool (sameT57 a b c d)) W := by
  rw [run_eql_struct]
  have h := eqIn57 a b c d W
  unfold ints at h
  simp only [List.map_cons, List.map_nil] at h
  rw [h]
  rfl
theorem neq57 (a b c d : Int) (W : World) : (binOp .neq 57 (.agg #[.int .i64 a, .int .i64 b]) (.agg #[.int .i64 c, .int .i64 d])).run Try.prog W = .ok (.bool (!sameT57 a b c d)) W := by
  rw [run_neq_struct]
  have h := eqIn57 a b c d W
  unfold ints at h
  simp only [List.map_cons, List.map_nil] at h
  rw [h]
  rfl
theorem eqC (x y z : Int) (W : World) : (binOp .eql 35 (.agg #[.int .i64 x, .int .i64 y, .int .i64 z]) (.agg #[.int .i64 x, .int .i64 y, .int .i64 z])).run Try.prog W = .ok (.bool true) W := by rw [eql35]; simp [sameT35]
theorem neR (x y : Int) (W : World) : (binOp .neq 57 (.agg #[.int .i64 x, .int .i64 y]) (.agg #[.int .i64 x, .int .i64 y])).run Try.prog W = .ok (.bool false) W := by rw [neq57]; simp [sameT57]
end Hd
end Yteeghjhkfaeflaa
end Go.Proofs
/- The laws' awake answers true. -/
namespace Go.Proofs
namespace Yteeghjhkfaeflaa
open Go.RowKit

def wkL : List Int := [0, 65793, 4, 9, 1, 513, 1, 0, 0, 0, 0, 0]
def wkO : Obj := .cells #[.int .u64 0, .int .u64 65793, .int .u64 4, .int .u64 9, .int .u64 1, .int .u64 513, .int .u64 1, .int .u64 0, .int .u64 0, .int .u64 0, .int .u64 0, .int .u64 0] 58
theorem wk_ar (W : World) : Ar (W.alloc wkO) (.slice (some ⟨W.heap.size, 0, none⟩) 12 12) wkL :=
  ⟨WAt.row (zs := wkL) (cap := 12) (heap_alloc_new W wkO), fun A n c e => by cases e; exact Nat.le_refl _, fun z hz => by
    simp only [wkL, List.mem_cons, List.not_mem_nil, or_false] at hz
    unfold Hd.UI
    omega, by decide⟩
theorem ex35 (w : World) : Calls Try.prog 35 #[] w fun e w' => e = .returned (.slice (some ⟨w.heap.size, 0, none⟩) 12 12) ∧ w.alloc wkO = w' := by
  unfold wkO
  go_enter Try.func35, Try.ntmps35
  go_wp2
  go_ret
  exact ⟨rfl, rfl⟩
theorem wk_objs : objsF wkL 1 8 = ([1, 4, 5], 0) := by decide
theorem wk_slots : slotsF wkL 1 8 = ([2, 6, 7], 0) := by decide
theorem wk_find : findF wkL 1 8 3 = (1, 0) := by decide
theorem wk_into : intoF wkL 1 8 0 4 = ([6], 0) := by decide
theorem wk_cnt : cntF wkL 1 8 = ((3, 3, 1), 0) := by decide
theorem F15 (W : World) : Calls Try.prog 15 #[.slice (some ⟨W.heap.size, 0, none⟩) 12 12, .int .i64 1, .int .i64 8] (W.alloc wkO) fun e w' => ∃ v, e = .returned (.tuple #[v, .int .i64 0]) ∧ Hid (IAt w' v [1, 4, 5]) ∧ Below W.heap.size W w' := by
  refine (objects15 _ wkL 1 8 _ (wk_ar W)).mono ?_
  intro e w' h
  rw [wk_objs] at h
  obtain ⟨v, h1, h2, h3⟩ := h.own2
  exact ⟨v, h1, h2, below_end (alloc_below W wkO) h3⟩
theorem F22 (W : World) : Calls Try.prog 22 #[.slice (some ⟨W.heap.size, 0, none⟩) 12 12, .int .i64 1, .int .i64 8] (W.alloc wkO) fun e w' => ∃ v, e = .returned (.tuple #[v, .int .i64 0]) ∧ Hid (IAt w' v [2, 6, 7]) ∧ Below W.heap.size W w' := by
  refine (slots22 _ wkL 1 8 _ (wk_ar W)).mono ?_
  intro e w' h
  rw [wk_slots] at h
  obtain ⟨v, h1, h2, h3⟩ := h.own2
  exact ⟨v, h1, h2, below_end (alloc_below W wkO) h3⟩
theorem F27 (W : World) : Calls Try.prog 27 #[.slice (some ⟨W.heap.size, 0, none⟩) 12 12, .int .i64 1, .int .i64 8, .int .i64 0, .int .i64 4] (W.alloc wkO) fun e w' => ∃ v, e = .returned (.tuple #[v, .int .i64 0]) ∧ Hid (IAt w' v [6]) ∧ Below W.heap.size W w' := by
  refine (into27 _ wkL 1 8 0 4 _ (wk_ar W)).mono ?_
  intro e w' h
  rw [wk_into] at h
  obtain ⟨v, h1, h2, h3⟩ := h.own2
  exact ⟨v, h1, h2, below_end (alloc_below W wkO) h3⟩
theorem F18 (W : World) : Calls Try.prog 18 #[.slice (some ⟨W.heap.size, 0, none⟩) 12 12, .int .i64 1, .int .i64 8, .int .i64 3] (W.alloc wkO) fun e w' => e = .returned (.tuple #[.int .i64 1, .int .i64 0]) ∧ Below W.heap.size W w' := by
  refine (find18 _ wkL 1 8 3 _ (wk_ar W)).mono ?_
  rw [wk_find]
  rintro e w' ⟨rfl, h⟩
  exact ⟨rfl, below_end (alloc_below W wkO) h⟩
theorem F20 (W : World) : Calls Try.prog 20 #[.slice (some ⟨W.heap.size, 0, none⟩) 12 12, .int .i64 1, .int .i64 8] (W.alloc wkO) fun e w' => e = .returned (.tuple #[.agg #[.int .i64 3, .int .i64 3, .int .i64 1], .int .i64 0]) ∧ Below W.heap.size W w' := by
  refine (count20 _ wkL 1 8 _ (wk_ar W)).mono ?_
  rw [wk_cnt]
  rintro e w' ⟨rfl, h⟩
  exact ⟨rfl, below_end (alloc_below W wkO) h⟩
set_option maxRecDepth 100000 in
set_option maxHeartbeats 1000000 in
theorem awake12 (w : World) : Calls Try.prog 12 #[] w fun e w' => e = .returned (.bool true) ∧ Below w.heap.size w w' := by
  have EQ := fun W => Hd.eqC 3 3 1 W
  go_enter Try.func12, Try.ntmps12
  go_upto_region 6 with (first
    | (go_at_call 35; refine (ex35 _).mono ?_; rintro e w' ⟨rfl, rfl⟩)
    | (go_at_call 15; refine (F15 _).mono ?_; rintro e w1 ⟨v1, rfl, x1, hb1⟩)
    | (go_at_call 22; refine (F22 _).mono ?_; rintro e w2 ⟨v2, rfl, x2, hb2⟩)
    | (go_at_call 18; refine (F18 _).mono ?_; rintro e w3 ⟨rfl, hb3⟩)
    | (go_at_call 27; refine (F27 _).mono ?_; rintro e w4 ⟨v4, rfl, x4, hb4⟩)
    | (go_at_call 20; refine (F20 _).mono ?_; rintro e w5 ⟨rfl, hb5⟩))
  have hb := alloc_below w5 (.cells #[.int .i64 3, .int .i64 3, .int .i64 1] 35)
  have X1 := Lib.hid (((((x1.out.below hb2).below hb3).below hb4).below hb5).below hb)
  have X2 := Lib.hid ((((x2.out.below hb3).below hb4).below hb5).below hb)
  have X4 := Lib.hid ((x4.out.below hb5).below hb)
  have N := Lib.hid (heap_alloc_new w5 (.cells #[.int .i64 3, .int .i64 3, .int .i64 1] 35))
  have B := Lib.hid (below_end (below_end (below_end (below_end (below_end hb1 hb2) hb3) hb4) hb5) hb)
  clear x1 x2 x4 hb1 hb2 hb3 hb4 hb5 hb
  generalize w5.heap.size = g at *
  generalize w5.alloc (.cells #[.int .i64 3, .int .i64 3, .int .i64 1] 35) = W5 at *
  have R5 := Lib.hid (Below.refl W5.heap.size W5)
  have S1 := Lib.hid (fun W (hb : Below W5.heap.size W5 W) => I21 [1, 4, 5] v1 (.slice (some ⟨W.heap.size, 0, none⟩) 3 3) (W.alloc (.cells #[.int .i64 1, .int .i64 4, .int .i64 5] 3)) (by decide) (X1.out.below (below_end hb (alloc_below W _))) (IAt.row (zs := [1, 4, 5]) (cap := 3) (heap_alloc_new W _)))
  have S2 := Lib.hid (fun W (hb : Below W5.heap.size W5 W) => I21 [2, 6, 7] v2 (.slice (some ⟨W.heap.size, 0, none⟩) 3 3) (W.alloc (.cells #[.int .i64 2, .int .i64 6, .int .i64 7] 3)) (by decide) (X2.out.below (below_end hb (alloc_below W _))) (IAt.row (zs := [2, 6, 7]) (cap := 3) (heap_alloc_new W _)))
  have S4 := Lib.hid (fun W (hb : Below W5.heap.size W5 W) => I21 [6] v4 (.slice (some ⟨W.heap.size, 0, none⟩) 1 1) (W.alloc (.cells #[.int .i64 6] 3)) (by decide) (X4.out.below (below_end hb (alloc_below W _))) (IAt.row (zs := [6]) (cap := 1) (heap_alloc_new W _)))
  go_wp2_with (first
    | (go_at_call 17; (with_reducible refine (S1.out _ R5.out).mono ?_); rintro e w6 ⟨rfl, hb6⟩; have k6 := Lib.hid (below_end (alloc_below W5 (.cells #[.int .i64 1, .int .i64 4, .int .i64 5] 3)) hb6))
    | (go_at_call 17; (with_reducible refine (S2.out _ k6.out).mono ?_); rintro e w7 ⟨rfl, hb7⟩; have k7 := Lib.hid (below_end k6.out (below_end (alloc_below w6 (.cells #[.int .i64 2, .int .i64 6, .int .i64 7] 3)) hb7)))
    | (go_at_call 17; (with_reducible refine (S4.out _ k7.out).mono ?_); rintro e w8 ⟨rfl, hb8⟩; have k8 := Lib.hid (below_end k7.out (below_end (alloc_below w7 (.cells #[.int .i64 6] 3)) hb8)); obtain ⟨t0, t1, t2⟩ := three_cells (keep_heap k8.out N.out)))
  exact bodyPost_ret (v := .bool true) (by simp [results, Try.f12, go_sem]) rfl ⟨rfl, below_end B.out k8.out⟩
def farB (n : Nat) : Bool := decide ((200 < n ∧ n ≤ 1601) ∨ 1610 < n)
theorem far11 (A : Option Addr) (n c : Nat) (w : World) : Calls Try.prog 11 #[.slice A n c] w fun e w' => e = .returned (.bool (farB n)) ∧ w = w' := by
  by_cases h1 : 200 < n
  · have q1 : decide ((200 : Int) < (n : Int)) = true := decide_eq_true (by omega)
    by_cases h2 : n ≤ 1601
    · have q2 : decide ((n : Int) ≤ 1601) = true := decide_eq_true (by omega)
      rw [show farB n = true from decide_eq_true (.inl ⟨h1, h2⟩)]
      go_enter Try.func11, Try.ntmps11
      go_wp2
      go_ret
      exact ⟨rfl, rfl⟩
    · have q2 : decide ((n : Int) ≤ 1601) = false := decide_eq_false (by omega)
      by_cases h3 : 1610 < n
      · have q3 : decide ((1610 : Int) < (n : Int)) = true := decide_eq_true (by omega)
        rw [show farB n = true from decide_eq_true (.inr h3)]
        go_enter Try.func11, Try.ntmps11
        go_wp2
        go_ret
        exact ⟨rfl, rfl⟩
      · have q3 : decide ((1610 : Int) < (n : Int)) = false := decide_eq_false (by omega)
        rw [show farB n = false from decide_eq_false (by omega)]
        go_enter Try.func11, Try.ntmps11
        go_wp2
        go_ret
        exact ⟨rfl, rfl⟩
  · have q1 : decide ((200 : Int) < (n : Int)) = false := decide_eq_false (by omega)
    have q3 : decide ((1610 : Int) < (n : Int)) = false := decide_eq_false (by omega)
    rw [show farB n = false from decide_eq_false (by omega)]
    go_enter Try.func11, Try.ntmps11
    go_wp2
    go_ret
    exact ⟨rfl, rfl⟩
end Yteeghjhkfaeflaa
end Go.Proofs
