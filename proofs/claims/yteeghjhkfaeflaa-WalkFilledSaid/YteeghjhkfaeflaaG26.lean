/- What collect does with one object: references. -/
import Derived.Test.YteeghjhkfaeflaaG22
namespace Go.Proofs
namespace Yteeghjhkfaeflaa
open Go.RowKit

attribute [local go_sem ↓] fold_append
set_option maxRecDepth 100000 in
set_option maxHeartbeats 1000000 in
theorem clo66 (gf : Nat) (eg : ∀ args w, (callFunc gf args).run Try.prog w = .ok (.enter gf args) w) (v : Value) (f t x : Int) (bf bs bl bw C : Nat) (l : Value) (er fe : Int) (acc found : List (Int × Int)) (W : World)
    (hf : W.heap[bf]? = some (.cells #[.func (.func gf) #[] #[]] 76 (0, 0))) (hs : W.heap[bs]? = some (.cells #[v, .int .i64 f, .int .i64 t] 65 (0, 0)))
    (hl : W.heap[bl]? = some (.cells #[l] 39 (0, 0))) (hw : W.heap[bw]? = some (.cells #[.int .i64 er] 26 (0, 0))) (hown : W.ownsRow C 57 2 l acc.length (pc acc)) (hC : C ≤ W.heap.size)
    (hbl : bl < C) (hbw : bw < C) (hne : bl ≠ bw) (hlen : acc.length + found.length ≤ 1000000)
    (hfind : Calls Try.prog gf #[v, .int .i64 x] W fun e W' => ∃ u, e = .returned (.tuple #[u, .int .i64 fe]) ∧ XAt W' u found.length (pc found) ∧ Below W.heap.size W W') :
    Calls Try.prog 66 #[.int .i64 x, .pointer (some ⟨bf, 0, none⟩), .pointer (some ⟨bs, 0, none⟩), .pointer (some ⟨bl, 0, none⟩), .pointer (some ⟨bw, 0, none⟩)] W fun e W' =>
      e = .returned (.tuple #[]) ∧ Got W bl bw C 39 57 2 (acc.length + found.length) (pc acc ++ pc found) (firE er fe) W' := by
  obtain ⟨Al, cl0, rfl⟩ := own_form hown
  obtain ⟨c1, -⟩ := one_cell hf
  obtain ⟨c2, -, -⟩ := three_cells hs
  have F := Lib.hid hfind
  have HL := Lib.hid hl
  have HW := Lib.hid hw
  have HO := Lib.hid hown
  obtain ⟨ev, hev⟩ : ∃ ev, firE er fe = ev := ⟨_, rfl⟩
  rw [hev]
  have HEV := Lib.hid hev
  clear hfind hf hs hl hw hown hev
  go_enter Try.func66, Try.ntmps66
  go_wp2
  refine F.out.mono ?_
  rintro e W1 ⟨u, rfl, hx, hb⟩
  have hl1 := keep_heap hb HL.out
  have hw1 := keep_heap hb HW.out
  have ho1 := own_below HO.out hb
  have hs1 := hb.size
  have fact : ∀ Y : World, Below W1.heap.size W1 Y → ∃ l' Y', (appF #[39, 39] 39 #[.slice Al acc.length cl0, u]).run Try.prog Y = .ok l' Y' ∧ Y'.ownsRow C 57 2 l' (acc.length + found.length) (pc acc ++ pc found) ∧ Y.grownBy Y' (Value.slice Al acc.length cl0).ownBlock ∧
      Y'.cell? ⟨bl, 0, none⟩ = some (.slice Al acc.length cl0) ∧ Y'.frozen? ⟨bl, 0, none⟩ = false ∧ Y'.cell? ⟨bw, 0, none⟩ = some (.int .i64 er) ∧ Y'.frozen? ⟨bw, 0, none⟩ = false := by
    intro Y hY
    have hsY := hY.size
    obtain ⟨l', Y', h1, h2, h3⟩ := app_any Try.underlying39 info57 rfl (own_below ho1 hY) (hx.below hY) (pc_length found) (pc_one found) hlen (by decide) (by decide) (by omega)
    have k1 := keep_row h3 (own_below ho1 hY) hbl (keep_heap hY hl1)
    have k2 := keep_row h3 (own_below ho1 hY) hbw (keep_heap hY hw1)
    exact ⟨l', Y', h1, h2, h3, (one_cell k1).1, (one_cell k1).2, (one_cell k2).1, (one_cell k2).2⟩
  obtain ⟨cl, fl⟩ := one_cell hl1
  obtain ⟨cw, fw⟩ := one_cell hw1
  obtain ⟨lA, WA, rA, oA, gA, a1, a2, a3, a4⟩ := fact W1.drew (below_drewN (Below.refl _ _) 1)
  obtain ⟨lB, WB, rB, oB, gB, b1, b2, b3, b4⟩ := fact (W1.alloc (.cells #[.int .i64 er, .int .i64 fe] 26)).drew (below_drewN (alloc_below _ _) 1)
  obtain ⟨AA, cA, rfl⟩ := own_form oA
  obtain ⟨AB, cB, rfl⟩ := own_form oB
  have orA := Lib.hid (or40_any WA.heap.size er fe (WA.alloc (.cells #[.int .i64 er, .int .i64 fe] 26)) (heap_alloc_new _ _))
  have orB := Lib.hid (or40_any W1.heap.size er fe WB ((gB.block W1.heap.size (by simp) (fun e => by have := (ho1.lt _ e.symm).2; omega)).trans (heap_alloc_new W1 _)))
  have ltl : bl < WA.heap.size := cell_lt a1
  have ltw : bw < WA.heap.size := cell_lt a3
  have hnl : ¬ WA.heap.size = bl := by omega
  have hnw : ¬ WA.heap.size = bw := by omega
  have d1 : (WA.alloc (.cells #[.int .i64 er, .int .i64 fe] 26)).cell? ⟨bl, 0, none⟩ = some (.slice Al acc.length cl0) := (World.cell?_of_block (Below.heap_alloc _ _ _ ltl)).trans a1
  have d2 : (WA.alloc (.cells #[.int .i64 er, .int .i64 fe] 26)).frozen? ⟨bl, 0, none⟩ = false := (World.frozen?_of_block (Below.heap_alloc _ _ _ ltl)).trans a2
  have d3 : (WA.alloc (.cells #[.int .i64 er, .int .i64 fe] 26)).cell? ⟨bw, 0, none⟩ = some (.int .i64 er) := (World.cell?_of_block (Below.heap_alloc _ _ _ ltw)).trans a3
  have d4 : (WA.alloc (.cells #[.int .i64 er, .int .i64 fe] 26)).frozen? ⟨bw, 0, none⟩ = false := (World.frozen?_of_block (Below.heap_alloc _ _ _ ltw)).trans a4
  have z1 : (W1.alloc (.cells #[.int .i64 er, .int .i64 fe] 26)).cell? ⟨bl, 0, none⟩ = some (.slice Al acc.length cl0) := (World.cell?_of_block (Below.heap_alloc _ _ _ (cell_lt cl))).trans cl
  have z2 : (W1.alloc (.cells #[.int .i64 er, .int .i64 fe] 26)).frozen? ⟨bl, 0, none⟩ = false := (World.frozen?_of_block (Below.heap_alloc _ _ _ (cell_lt cl))).trans fl
  have z3 : (W1.alloc (.cells #[.int .i64 er, .int .i64 fe] 26)).cell? ⟨bw, 0, none⟩ = some (.int .i64 er) := (World.cell?_of_block (Below.heap_alloc _ _ _ (cell_lt cw))).trans cw
  have z4 : (W1.alloc (.cells #[.int .i64 er, .int .i64 fe] 26)).frozen? ⟨bw, 0, none⟩ = false := (World.frozen?_of_block (Below.heap_alloc _ _ _ (cell_lt cw))).trans fw
  have hrl : ∀ k, (Value.slice Al acc.length cl0).ownBlock = some k → C ≤ k := fun k hk => (HO.out.lt k hk).1
  have fA := (clo_end (ev := ev) (hb.drew) hC gA hrl HL.out HW.out hbl hbw hne oA).alloc (by rw [size_set, size_set]; have := gA.size; simp at this; omega) (.cells #[.int .i64 er, .int .i64 fe] 26)
  have fB := clo_end (ev := ev) ((below_end hb (alloc_below _ _)).drew) hC gB hrl HL.out HW.out hbl hbw hne oB
  rw [show (if er = 0 then fe else er) = ev from HEV.out] at orA orB
  have FA := Lib.hid fA
  have FB := Lib.hid fB
  have HB := Lib.hid hb
  have HL1 := Lib.hid hl1
  have HW1 := Lib.hid hw1
  clear fact hx hb hl1 hw1 ho1 oA oB gA gB fA fB hrl
  go_wp2
  go_region_with (first | (go_at_call 61; (with_reducible refine orA.out.mono ?_); rintro e w' ⟨rfl, rfl⟩) | (go_at_call 61; (with_reducible refine orB.out.mono ?_); rintro e w' ⟨rfl, rfl⟩))
  all_goals (first
    | exact ⟨rfl, _, results_none rfl _ _ _, rfl, FA.out⟩
    | exact ⟨rfl, _, results_none rfl _ _ _, rfl, FB.out⟩)
end Yteeghjhkfaeflaa
end Go.Proofs
/- collect: references. -/
namespace Go.Proofs
namespace Yteeghjhkfaeflaa
open Go.RowKit

/-- what holds between two rounds of collect -/
structure CI3 (wc : World) (v : Value) (f t : Int) (gf : Nat) (fl : Int → List (Int × Int)) (fe : Int → Int) (C : Nat) (pre : List Int) (W : World) : Prop where
  bs : W.heap[wc.heap.size]? = some (.cells #[v, .int .i64 f, .int .i64 t] 65 (0, 0))
  bf : W.heap[wc.heap.size + 1]? = some (.cells #[.func (.func gf) #[] #[]] 76 (0, 0))
  bl : ∃ l', W.heap[wc.heap.size + 2]? = some (.cells #[l'] 39 (0, 0)) ∧ W.ownsRow C 57 2 l' (pre.flatMap fl).length (pc (pre.flatMap fl))
  bw : W.heap[wc.heap.size + 3]? = some (.cells #[.int .i64 (errsF fe pre)] 26 (0, 0))
  below : Below wc.heap.size wc W
  lo : wc.heap.size + 4 ≤ C
  hi : C ≤ W.heap.size
theorem CI3.turn {wc : World} {v : Value} {f t : Int} {gf : Nat} {fl : Int → List (Int × Int)} {fe : Int → Int} {C : Nat} {pre : List Int} {W W' : World} {r : Nat} (h : CI3 wc v f t gf fl fe C pre W) (h1 : wc.heap.size + 4 ≤ r) (h2 : r < C) (hg : W.grownBy W' (some r)) : CI3 wc v f t gf fl fe C pre W' := by
  obtain ⟨a1, a2, ⟨l', a3, a4⟩, a5, a6, a7, a8⟩ := h
  have lt : ∀ {k : Nat} {o : Obj}, W.heap[k]? = some o → k < wc.heap.size + 4 → W'.heap[k]? = some o := fun h hk => (hg.block _ (Array.getElem?_eq_some_iff.1 h).1 (fun e => by injection e with e; omega)).trans h
  refine ⟨lt a1 (by omega), lt a2 (by omega), ⟨l', lt a3 (by omega), World.ownsRow.kept a4 hg ?_⟩, lt a5 (by omega), a6.grown hg a6.size (fun k e => by injection e with e; omega), a7, Nat.le_trans a8 hg.size⟩
  cases ho : l'.ownBlock with
  | none => exact .inl rfl
  | some g => right; intro e; have := (a4.lt g ho).1; injection e with e; omega

set_option maxRecDepth 100000 in
set_option maxHeartbeats 1000000 in
theorem col46 (v : Value) (ws : List Int) (f t : Int) (gf : Nat) (eg : ∀ args w, (callFunc gf args).run Try.prog w = .ok (.enter gf args) w) (fl : Int → List (Int × Int)) (fe : Int → Int) (hfl : ∀ x, (fl x).length ≤ 64) (w : World) (hA : Ar w v ws)
    (hfind : ∀ x W, Below w.heap.size w W → Calls Try.prog gf #[v, .int .i64 x] W fun e W' => ∃ u, e = .returned (.tuple #[u, .int .i64 (fe x)]) ∧ XAt W' u (fl x).length (pc (fl x)) ∧ Below W.heap.size W W') :
    Calls Try.prog 46 #[.agg #[v, .int .i64 f, .int .i64 t], .func (.func gf) #[] #[]] w fun e w' => ∃ u, e = .returned (.tuple #[u, .int .i64 (colF fl fe ws f t).2]) ∧ w'.ownsRow w.heap.size 57 2 u (colF fl fe ws f t).1.length (pc (colF fl fe ws f t).1) ∧ Below w.heap.size w w' := by
  obtain ⟨-, k0, k1, k2, k3, k4, k5⟩ := four_boxes w (.cells #[v, .int .i64 f, .int .i64 t] 65) (.cells #[.func (.func gf) #[] #[]] 76) (.cells #[.slice none 0 0] 39) (.cells #[.int .i64 0] 26)
  have E := fun X (hX : (((w.alloc (.cells #[v, .int .i64 f, .int .i64 t] 65)).alloc (.cells #[.func (.func gf) #[] #[]] 76)).alloc (.cells #[.slice none 0 0] 39)).alloc (.cells #[.int .i64 0] 26) = X) =>
    each36 v ws f t 66 #[.pointer (some ⟨w.heap.size + 1, 0, none⟩), .pointer (some ⟨w.heap.size, 0, none⟩), .pointer (some ⟨w.heap.size + 1 + 1, 0, none⟩), .pointer (some ⟨w.heap.size + 1 + 1 + 1, 0, none⟩)] (CI3 w v f t gf fl fe) X (hA.below (hX ▸ k5)) (enters_of Try.func66 (by kernel_rfl) rfl)
      ⟨fun C W hb h1 h2 => by
        subst hX
        rw [k4] at h1
        exact ⟨keep_heap hb k0, keep_heap hb k1, ⟨_, keep_heap hb k2, World.ownsRow_nil _ _ _ _⟩, keep_heap hb k3, below_end k5 hb, h1, h2⟩,
      fun C s W W' r h1 h2 h3 h4 => h3.turn (by subst hX; rw [k4] at h1; exact h1) h2 h4,
      fun C pre W h => hA.below h.below,
      fun C pre x W h hpx h1 h2 => by
        have hX4 : X.heap.size = w.heap.size + 4 := by subst hX; exact k4
        have hlen : (pre.flatMap fl).length + (fl x).length ≤ 1000000 := by
          have h3 := flat_len fl hfl pre
          have h4 := hfl x
          have h5 := hpx.length_le
          have h6 := vis_len ws f t
          simp only [List.length_append, List.length_singleton] at h5
          omega
        obtain ⟨l', b1, b2⟩ := h.bl
        refine (clo66 gf eg v f t x (w.heap.size + 1) w.heap.size (w.heap.size + 2) (w.heap.size + 3) C l' (errsF fe pre) (fe x) (pre.flatMap fl) (fl x) W h.bf h.bs b1 h.bw b2 h.hi (by omega) (by omega) (by omega) hlen (hfind x W h.below)).mono ?_
        rintro e W' ⟨rfl, g⟩
        obtain ⟨⟨l2, g1, g2⟩, g3, g4, g5, g6, g7, g8⟩ := g
        have hlo := h.lo
        refine ⟨rfl, ⟨(g4 _ (by omega) (by omega) (by omega)).trans h.bs, (g4 _ (by omega) (by omega) (by omega)).trans h.bf, ⟨l2, g1, ?_⟩, ?_, ⟨g5.trans h.below.os, g6.trans h.below.tape, g7.trans h.below.output, Nat.le_trans h.below.size g8, fun k hk => (g4 k (by omega) (by omega) (by omega)).trans (h.below.block k hk)⟩, hlo, Nat.le_trans h.hi g8⟩, ⟨g8, fun k hk1 hk2 _ => g4 k hk2 (by omega) (by omega)⟩⟩
        · rw [flat_snoc, List.length_append, pc_append]; exact g2
        · rw [errs_snoc]; exact g3⟩
  have K0 := Lib.hid k0
  have EX := Lib.hid E
  obtain ⟨c0, c1, c2⟩ := three_cells k0
  have hR : colF fl fe ws f t = if firE (wcF ws f t).2 (errsF fe (visL ws f t)) = 0 then ((visL ws f t).flatMap fl, 0) else ([], firE (wcF ws f t).2 (errsF fe (visL ws f t))) := rfl
  obtain ⟨ev, hev⟩ : ∃ ev, firE (wcF ws f t).2 (errsF fe (visL ws f t)) = ev := ⟨_, rfl⟩
  rw [hev] at hR
  have HEV := Lib.hid hev
  have K5 := Lib.hid k5
  clear hev k0 k1 k2 k3 k4 k5 E hA hfind
  rw [hR]
  clear hR
  generalize wcF ws f t = wcv at *
  obtain ⟨g1, g2⟩ := wcv
  generalize visL ws f t = xs at *
  dsimp only at *
  by_cases h0 : ev = 0
  · subst h0
    rw [if_pos rfl]
    go_enter Try.func46, Try.ntmps46
    go_wp2_with (first
      | (go_at_call 36; refine (EX.out _ rfl).mono ?_; rintro e w1 ⟨rfl, C, hI⟩; obtain ⟨l', b1, b2⟩ := hI.bl; obtain ⟨Al, cl, rfl⟩ := own_form b2; obtain ⟨d1, -⟩ := one_cell b1; obtain ⟨d2, -⟩ := one_cell hI.bw; have HI := Lib.hid hI; have B2 := Lib.hid b2; have B1 := Lib.hid b1; have orC := Lib.hid (or40_any w1.heap.size g2 (errsF fe xs) (w1.alloc (.cells #[.int .i64 g2, .int .i64 (errsF fe xs)] 26)) (heap_alloc_new _ _)); rw [show (if g2 = 0 then errsF fe xs else g2) = 0 from HEV.out] at orC; clear hI b2 b1; have d3 : (w1.alloc (.cells #[.int .i64 g2, .int .i64 (errsF fe xs)] 26)).cell? ⟨w.heap.size + 1 + 1, 0, none⟩ = some (.slice Al (xs.flatMap fl).length cl) := (World.cell?_of_block (Below.heap_alloc _ _ _ (cell_lt d1))).trans d1)
      | (go_at_call 61; refine orC.out.mono ?_; rintro e w2 ⟨rfl, rfl⟩))
    have hb := alloc_below w1 (.cells #[.int .i64 g2, .int .i64 (errsF fe xs)] 26)
    exact bodyPost_ret (v := .tuple #[.slice Al (xs.flatMap fl).length cl, .int .i64 0]) (by simp [results, Try.f46, go_sem]) rfl ⟨_, rfl, own_mono (own_below B2.out hb) (by have := HI.out.lo; omega), below_end HI.out.below hb⟩
  · rw [if_neg h0]
    have q : (ev != 0) = true := by simpa using h0
    clear h0
    go_enter Try.func46, Try.ntmps46
    go_wp2_with (first
      | (go_at_call 36; refine (EX.out _ rfl).mono ?_; rintro e w1 ⟨rfl, C, hI⟩; obtain ⟨d2, -⟩ := one_cell hI.bw; have HI := Lib.hid hI; have orC := Lib.hid (or40_any w1.heap.size g2 (errsF fe xs) (w1.alloc (.cells #[.int .i64 g2, .int .i64 (errsF fe xs)] 26)) (heap_alloc_new _ _)); rw [show (if g2 = 0 then errsF fe xs else g2) = ev from HEV.out] at orC; clear hI)
      | (go_at_call 61; refine orC.out.mono ?_; rintro e w2 ⟨rfl, rfl⟩))
    exact bodyPost_ret (v := .tuple #[.slice none 0 0, .int .i64 ev]) (by simp [results, Try.f46, go_sem]) rfl ⟨_, rfl, World.ownsRow_nil _ _ _ _, below_end HI.out.below (alloc_below w1 _)⟩
end Yteeghjhkfaeflaa
end Go.Proofs
