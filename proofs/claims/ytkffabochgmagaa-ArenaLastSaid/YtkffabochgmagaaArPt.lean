/- The law ArenaParts answers true where the operations have an address. -/
import Derived.Test.YtkffabochgmagaaArPs
import Derived.Test.YtkffabochgmagaaArX
import Derived.Test.YtkffabochgmagaaArR
import Derived.Laws.AppendOwnNone
namespace Go.Proofs
namespace Ytkffabochgmagaa
open Go.RowKit

theorem step_got (s : ASt) (o : AOp) (h : (s.got.length : Int) ≤ s.r) : ((stepF s o).2.got.length : Int) ≤ (stepF s o).2.r := by
  have P := fun (a n : Int) (h : partB s.ws.length a n = true) => partB_spec.1 h
  unfold stepF
  split
  · split
    · simp only [List.length_append, List.length_singleton]; omega
    · exact h
  · split
    · split <;> exact h
    · split
      · split
        · rename_i h2
          have := P _ _ h2.1
          dsimp only
          omega
        · exact h
      · split
        · split <;> exact h
        · exact h
theorem go_got (ops : List AOp) : ∀ (i : Nat) (s : ASt), (s.got.length : Int) ≤ s.r → ((goF i s ops).got.length : Int) ≤ (goF i s ops).r ∧ (goF i s ops).ws.length ≤ s.ws.length := by
  induction ops with
  | nil => intro i s h; exact ⟨h, Nat.le_refl _⟩
  | cons o t ih =>
    intro i s h
    by_cases h1 : (stepF s o).1 = 0
    · rw [goF_step h1]
      have := ih (i + 1) (stepF s o).2 (step_got s o h)
      rw [step_length] at this
      exact this
    · rw [goF_err h1]
      simp [AAns.err]
theorem play_got (ws : List Int) (ops : List AOp) : ((playF ws ops).got.length : Int) ≤ (playF ws ops).r ∧ (playF ws ops).ws.length ≤ ws.length := by
  unfold playF
  split
  · simp [AAns.err]
  · split
    · simp [AAns.err]
    · exact go_got ops 0 ⟨ws, [], 0, 0⟩ (by simp)
/-- append of a row of the call's own to another one -/
theorem push_row {ops : Array Oper} {rest : List Oper} {o : Oper} {a : Act} {Q : Exit → Act → World → Prop} {W w : World} {v vg : Value} {xs ys : List Int} {B2 : Nat} (hown : W.ownsRow w.heap.size 25 1 v xs.length (wc xs)) (hB : Below w.heap.size w W) (hg : w.ownsRow B2 25 1 vg ys.length (wc ys)) (hgd : o.guard = none) (s x : Operand)
    (ho : o.op = .call { callee := .builtin .append, args := #[s, x], argTypes := #[24, 24] }) (hs : a.eval s = v) (hx : a.eval x = vg) (hl : xs.length + ys.length ≤ 1000000)
    (h : ∀ v' W', W'.ownsRow w.heap.size 25 1 v' (xs ++ ys).length (wc (xs ++ ys)) → Below w.heap.size w W' → wpList Try.prog ops Q rest (a.put o.dst v') W') : wpList Try.prog ops Q (o :: rest) a W := by
  obtain ⟨i0, hi, hz0, hz1, hz2⟩ := info_parts info25
  have hgW := own_below hg hB
  rcases hg.2 with ⟨rfl, h0⟩ | ⟨gg, cap, cur, rfl, _⟩
  · obtain rfl : ys = [] := List.eq_nil_of_length_eq_zero h0
    refine wpList_append_own_none hgd s x 24 ho w.heap.size 25 i0 1 Try.underlying24 hi v xs.length (wc xs) hs hown hx ?_
    exact h v W (by rw [List.append_nil]; exact hown) hB
  · refine wpList_append_own _ hgd s x 24 ho w.heap.size 25 i0 _ 1 8 Try.underlying24 hi hz0 hz1 hz2 rfl (by decide) v xs.length (wc xs) hs hown ⟨gg, 0, none⟩ ys.length cap (wc ys) hx (by rw [wc_length, Nat.mul_one]) ?_ (wc_one ys) ?_ ?_ hB.size ?_
    · intro j u hj
      exact hgW.cells (g := gg) rfl j u hj
    · unfold maxLen; omega
    · omega
    · intro v' W' h1 h2 _
      refine h v' W' ?_ (hB.grown h2 hB.size (fun k hk => (hown.lt k hk).1))
      rw [wc_append, List.length_append]
      exact h1
theorem cnt_cells {W : World} {g : Nat} {r c : Int} (h : W.heap[g]? = some (.cells #[.int .i64 r, .int .i64 c] 50 (0, 0))) : W.cell? ⟨g, 0, none⟩ = some (.int .i64 r) ∧ W.cell? ⟨g, 1, none⟩ = some (.int .i64 c) := by
  refine ⟨?_, ?_⟩ <;> rw [cell_of_row _ _ _ _ _ _ h] <;> rfl
theorem parts7_long (v1 v2 : Value) (ws : List Int) (ops : List AOp) (z : Int) (w : World) (h1 : WAt w v1 ws) (h2 : OAt w v2 ops) (hl : 200 < ws.length ∨ 60 < ops.length) :
    Calls Try.prog 7 #[v1, v2, .int .u8 z] w fun e w' => e = .returned (.bool true) ∧ Below w.heap.size w w' := by
  obtain ⟨A1, p1, rfl, -⟩ := h1
  obtain ⟨A2, p2, rfl, -⟩ := h2
  by_cases hx : 200 < ws.length
  · have q : decide ((200 : Int) < (ws.length : Int)) = true := decide_eq_true (by omega)
    go_enter Try.func7, Try.ntmps7
    go_wp2_with (go_at_call 10; refine (awake10 _).mono ?_; rintro e u3 ⟨rfl, hu3⟩)
    exact bodyPost_ret (v := .bool true) (by simp [results, Try.f7, go_sem]) rfl ⟨rfl, hu3⟩
  · have q : decide ((200 : Int) < (ws.length : Int)) = false := decide_eq_false (by omega)
    have q2 : decide ((60 : Int) < (ops.length : Int)) = true := decide_eq_true (by omega)
    go_enter Try.func7, Try.ntmps7
    go_wp2_with (go_at_call 10; refine (awake10 _).mono ?_; rintro e u3 ⟨rfl, hu3⟩)
    exact bodyPost_ret (v := .bool true) (by simp [results, Try.f7, go_sem]) rfl ⟨rfl, hu3⟩
set_option maxRecDepth 100000 in
set_option maxHeartbeats 4000000 in
theorem parts7_some (A1 : Option Addr) (p1 : Nat) (a : Addr) (cap : Nat) (ws : List Int) (ops : List AOp) (z : Int) (w : World) (h1 : WAt w (.slice A1 ws.length p1) ws) (h2 : OAt w (.slice (some a) ops.length cap) ops) (hcap : ops.length ≤ cap) (hw : ws.length ≤ 200) (ho : ops.length ≤ 60) (z0 : 0 ≤ z) (z1 : z ≤ 255) :
    Calls Try.prog 7 #[.slice A1 ws.length p1, .slice (some a) ops.length cap, .int .u8 z] w fun e w' => e = .returned (.bool true) ∧ Below w.heap.size w w' := by
  have q1 : decide ((200 : Int) < (ws.length : Int)) = false := decide_eq_false (by omega)
  have q2 : decide ((60 : Int) < (ops.length : Int)) = false := decide_eq_false (by omega)
  have q3 : (ops.length : Int) + 1 ≠ 0 := by omega
  have q4 : ((ops.length : Int) + 1 == 0) = false := by simp; omega
  obtain ⟨k, hk⟩ : ∃ k : Nat, z % ((ops.length : Int) + 1) = (k : Int) := ⟨(z % ((ops.length : Int) + 1)).toNat, by have := Int.emod_nonneg z q3; omega⟩
  have hkm : k ≤ ops.length := by have := Int.emod_lt_of_pos z (show (0 : Int) < (ops.length : Int) + 1 by omega); omega
  have F29 := Lib.hid (show ∀ W, Below w.heap.size w W → Calls Try.prog 29 #[.slice A1 ws.length p1, .slice (some a) ops.length cap] W fun e w' => PAns W (playF ws ops) e w' from fun W hb => play29 _ _ ws ops W (h1.below hb) (h2.below hb) (by omega) (by omega))
  have F29k := Lib.hid (show ∀ W, Below w.heap.size w W → Calls Try.prog 29 #[.slice A1 ws.length p1, .slice (some a) k cap] W fun e w' => PAns W (playF ws (ops.take k)) e w' from fun W hb => play29 _ _ ws (ops.take k) W (h1.below hb) ((h2.below hb).take hkm cap) (by omega) (by rw [List.length_take]; omega))
  have L1 := (play_got ws (ops.take k)).2
  have F29d := Lib.hid (show ∀ W va lv, Below w.heap.size w W → WAt W va (playF ws (ops.take k)).ws → OAt w lv (ops.drop k) → Calls Try.prog 29 #[va, lv] W fun e w' => PAns W (playF (playF ws (ops.take k)).ws (ops.drop k)) e w' from fun W va lv hb hva hlv => play29 _ _ _ _ W hva (hlv.below hb) (by omega) (by rw [List.length_drop]; omega))
  have HD1 := Lib.hid (show k = cap → OAt w (.slice (some a) 0 0) (ops.drop k) from fun h => by
    rw [List.drop_of_length_le (by omega)]; exact OAt.empty _ _)
  have HD2 := Lib.hid (show k < cap → OAt w (.slice (some (a.add (k * 5))) (ops.length - k) (cap - k)) (ops.drop k) from fun h => by
    by_cases hlt : k < ops.length
    · obtain ⟨A', c', e, hc⟩ := id h2
      obtain ⟨b, off, hA, _⟩ := hc (by omega)
      simp only [Value.slice.injEq] at e
      rw [← e.1] at hA
      obtain rfl : a = ⟨b, off, none⟩ := Option.some.inj hA
      have := h2.drop hkm (cap - k)
      have e2 : (⟨b, off, none⟩ : Addr).add (k * 5) = ⟨b, off + k * 5, none⟩ := by unfold Addr.add; split <;> simp_all
      rw [e2]
      exact this
    · rw [List.drop_of_length_le (by omega), show ops.length - k = 0 by omega]
      exact OAt.empty _ _)
  have G0 := (play_room ws ops hw ho)
  have G1 := (play_room ws (ops.take k) hw (by rw [List.length_take]; omega))
  have G2 := (play_room (playF ws (ops.take k)).ws (ops.drop k) (by omega) (by rw [List.length_drop]; omega))
  have N0 := play_got ws ops
  have N1 := play_got ws (ops.take k)
  have N2 := play_got (playF ws (ops.take k)).ws (ops.drop k)
  have PB := Lib.hid (parts_bad ws ops k (by omega))
  have PF := Lib.hid (parts_fine ws ops k hkm (by omega))
  have HK := Lib.hid hk
  clear h1 h2 hk
  generalize playF (playF ws (ops.take k)).ws (ops.drop k) = R2 at *
  generalize playF ws ops = R0 at *
  generalize playF ws (ops.take k) = R1 at *
  obtain ⟨ws2, got2, r2, w2, i2, e2⟩ := R2
  obtain ⟨ws1, got1, r1, w1, i1, e1⟩ := R1
  obtain ⟨ws0, got0, r0, w0, i0, e0⟩ := R0
  dsimp only at G0 G1 G2 N0 N1 N2 PB PF F29d L1
  obtain ⟨ga0, ga1, ga2, ga3, ga4, ga5⟩ := G0
  obtain ⟨gb0, gb1, gb2, gb3, gb4, gb5⟩ := G1
  obtain ⟨gc0, gc1, gc2, gc3, gc4, gc5⟩ := G2
  have M0 := Lib.hid (show ws0.length ≤ 1000000 ∧ got0.length ≤ 1000000 ∧ got1.length + got2.length ≤ 1000000 by omega)
  clear N0 N1 N2 L1
  go_enter Try.func7, Try.ntmps7
  generalize ops.length = m at *
  generalize ws.length = n at *
  have c1 : (0 : Int) ≤ (k : Int) := by omega
  have c2 : (k : Int) ≤ (cap : Int) := by omega
  have c3 : (k : Int) ≤ (m : Int) := by omega
  have c4 : (m : Int) ≤ (cap : Int) := by omega
  go_upto_region 4 with (fail)
  rw [HK.out]
  go_upto_region 5 with (go_at_call 29; refine (F29.out _ (Below.refl _ _)).mono ?_; rintro e W1 ⟨va, ga, rfl, hV1, hG1, hb1⟩)
  have K1 := Lib.hid (below_end hb1 (alloc_below W1 (.cells #[.int .i64 r0, .int .i64 w0] 50)))
  have V1 := Lib.hid ((WAt.of_own hV1).below (alloc_below W1 (.cells #[.int .i64 r0, .int .i64 w0] 50)))
  have U1 := Lib.hid ((WAt.of_own hG1).below (alloc_below W1 (.cells #[.int .i64 r0, .int .i64 w0] 50)))
  have C1 := Lib.hid (heap_alloc_new W1 (.cells #[.int .i64 r0, .int .i64 w0] 50))
  generalize W1.alloc (.cells #[.int .i64 r0, .int .i64 w0] 50) = X1 at *
  clear hb1 hV1 hG1
  go_upto_region 6 with (go_at_call 29; refine (F29k.out _ K1.out).mono ?_; rintro e W2 ⟨vb, gb, rfl, hV2, hG2, hb2⟩)
  have b12 := below_end hb2 (alloc_below W2 (.cells #[.int .i64 r1, .int .i64 w1] 50))
  have K2 := Lib.hid (below_end K1.out b12)
  have V12 := Lib.hid (V1.out.below b12)
  have U12 := Lib.hid (U1.out.below b12)
  have C12 := Lib.hid (keep_heap b12 C1.out)
  have V2 := Lib.hid ((WAt.of_own hV2).below (alloc_below W2 (.cells #[.int .i64 r1, .int .i64 w1] 50)))
  have U2 := Lib.hid (own_below hG2 (alloc_below W2 (.cells #[.int .i64 r1, .int .i64 w1] 50)))
  have C2 := Lib.hid (heap_alloc_new W2 (.cells #[.int .i64 r1, .int .i64 w1] 50))
  generalize W2.alloc (.cells #[.int .i64 r1, .int .i64 w1] 50) = X2 at *
  clear hb2 hV2 hG2 b12 V1 U1 C1 K1
  by_cases he1 : e1 = 0
  rotate_left
  · have q5 : (e1 != 0) = true := by simpa using he1
    obtain ⟨hx1, hx2⟩ := PB.out he1
    subst hx1 hx2
    have q6 : (e0 == e0) = true := by simp
    have q7 : (i0 == i0) = true := by simp
    clear he1
    go_wp2_with (go_at_call 10; refine (awake10 _).mono ?_; rintro e u3 ⟨rfl, hu3⟩)
    exact bodyPost_ret (v := .bool true) (by simp [results, Try.f7, go_sem]) rfl ⟨rfl, below_end K2.out hu3⟩
  subst he1
  by_cases he2 : e2 = 0
  rotate_left
  · have q5 : (e2 != 0) = true := by simpa using he2
    have hx := PF.out rfl
    rw [if_neg he2] at hx
    simp only [AAns.err, AAns.mk.injEq] at hx
    obtain ⟨rfl, rfl, rfl, rfl, rfl, rfl⟩ := hx
    have q6 : (e0 == e0) = true := by simp
    have q7 : ((k : Int) + i2 == (k : Int) + i2) = true := by simp
    clear he2
    have hkc : k = cap ∨ (k : Int) < (cap : Int) := by omega
    rcases hkc with hkc | hkc
    · have HD := Lib.hid (HD1.out hkc)
      subst hkc
      go_upto_region 9 with (go_at_call 29; refine (F29d.out _ _ _ K2.out V2.out HD.out).mono ?_; rintro e W3 ⟨vc, gc, rfl, hV3, hG3, hb3⟩)
      have b23 := below_end hb3 (alloc_below W3 (.cells #[.int .i64 r2, .int .i64 w2] 50))
      have K3 := Lib.hid (below_end K2.out b23)
      have V13 := Lib.hid (V12.out.below b23)
      have U13 := Lib.hid (U12.out.below b23)
      have C13 := Lib.hid (keep_heap b23 C12.out)
      have U23 := Lib.hid (own_below U2.out b23)
      have C23 := Lib.hid (keep_heap b23 C2.out)
      have V3 := Lib.hid ((WAt.of_own hV3).below (alloc_below W3 (.cells #[.int .i64 r2, .int .i64 w2] 50)))
      have U3 := Lib.hid (own_below hG3 (alloc_below W3 (.cells #[.int .i64 r2, .int .i64 w2] 50)))
      have C3 := Lib.hid (heap_alloc_new W3 (.cells #[.int .i64 r2, .int .i64 w2] 50))
      generalize W3.alloc (.cells #[.int .i64 r2, .int .i64 w2] 50) = X3 at *
      clear hb3 hV3 hG3 b23 V12 U12 C12 U2 C2 V2 K2
      go_wp2_with (go_at_call 10; refine (awake10 _).mono ?_; rintro e u3 ⟨rfl, hu3⟩)
      exact bodyPost_ret (v := .bool true) (by simp [results, Try.f7, go_sem]) rfl ⟨rfl, below_end K3.out hu3⟩
    · have HD := Lib.hid (HD2.out (by omega))
      go_upto_region 9 with (go_at_call 29; refine (F29d.out _ _ _ K2.out V2.out HD.out).mono ?_; rintro e W3 ⟨vc, gc, rfl, hV3, hG3, hb3⟩)
      have b23 := below_end hb3 (alloc_below W3 (.cells #[.int .i64 r2, .int .i64 w2] 50))
      have K3 := Lib.hid (below_end K2.out b23)
      have V13 := Lib.hid (V12.out.below b23)
      have U13 := Lib.hid (U12.out.below b23)
      have C13 := Lib.hid (keep_heap b23 C12.out)
      have U23 := Lib.hid (own_below U2.out b23)
      have C23 := Lib.hid (keep_heap b23 C2.out)
      have V3 := Lib.hid ((WAt.of_own hV3).below (alloc_below W3 (.cells #[.int .i64 r2, .int .i64 w2] 50)))
      have U3 := Lib.hid (own_below hG3 (alloc_below W3 (.cells #[.int .i64 r2, .int .i64 w2] 50)))
      have C3 := Lib.hid (heap_alloc_new W3 (.cells #[.int .i64 r2, .int .i64 w2] 50))
      generalize W3.alloc (.cells #[.int .i64 r2, .int .i64 w2] 50) = X3 at *
      clear hb3 hV3 hG3 b23 V12 U12 C12 U2 C2 V2 K2
      go_wp2_with (go_at_call 10; refine (awake10 _).mono ?_; rintro e u3 ⟨rfl, hu3⟩)
      exact bodyPost_ret (v := .bool true) (by simp [results, Try.f7, go_sem]) rfl ⟨rfl, below_end K3.out hu3⟩
  · subst he2
    have hx := PF.out rfl
    rw [if_pos rfl] at hx
    simp only [AAns.mk.injEq] at hx
    obtain ⟨rfl, rfl, rfl, rfl, rfl, rfl⟩ := hx
    have hkc : k = cap ∨ (k : Int) < (cap : Int) := by omega
    rcases hkc with hkc | hkc
    · have HD := Lib.hid (HD1.out hkc)
      subst hkc
      go_upto_region 9 with (go_at_call 29; refine (F29d.out _ _ _ K2.out V2.out HD.out).mono ?_; rintro e W3 ⟨vc, gc, rfl, hV3, hG3, hb3⟩)
      have b23 := below_end hb3 (alloc_below W3 (.cells #[.int .i64 r2, .int .i64 w2] 50))
      have K3 := Lib.hid (below_end K2.out b23)
      have V13 := Lib.hid (V12.out.below b23)
      have U13 := Lib.hid (U12.out.below b23)
      have C13 := Lib.hid (keep_heap b23 C12.out)
      have U23 := Lib.hid (own_below U2.out b23)
      have C23 := Lib.hid (keep_heap b23 C2.out)
      have V3 := Lib.hid ((WAt.of_own hV3).below (alloc_below W3 (.cells #[.int .i64 r2, .int .i64 w2] 50)))
      have U3 := Lib.hid (own_below hG3 (alloc_below W3 (.cells #[.int .i64 r2, .int .i64 w2] 50)))
      have C3 := Lib.hid (heap_alloc_new W3 (.cells #[.int .i64 r2, .int .i64 w2] 50))
      generalize W3.alloc (.cells #[.int .i64 r2, .int .i64 w2] 50) = X3 at *
      clear hb3 hV3 hG3 b23 V12 U12 C12 U2 C2 V2 K2
      go_upto_region 12 with (first
        | (at_builtin; refine push_row (xs := []) (ys := got1) (empty_words (Below.refl X3.heap.size X3)) (alloc_below X3 (.cells #[] 25)) U23.out rfl _ _ rfl rfl rfl (by have := M0.out.2.2; simp; omega) ?_; intro p1' Y1 ho1 hb1; have HO1 := Lib.hid ho1; have HB1 := Lib.hid hb1; clear ho1 hb1)
        | (at_builtin; refine push_row HO1.out HB1.out U3.out rfl _ _ rfl rfl rfl (by have := M0.out.2.2; simp; omega) ?_; intro p2' Y2 ho2 hb2; have HO2 := Lib.hid ho2; have HB2 := Lib.hid hb2; clear ho2 hb2))
      have VA := Lib.hid (V13.out.below HB2.out)
      have VB := Lib.hid (V3.out.below HB2.out)
      have VC := Lib.hid (show WAt Y2 p2' (got1 ++ got2) by simpa using WAt.of_own HO2.out)
      have VD := Lib.hid (U13.out.below HB2.out)
      have D1 := Lib.hid (keep_heap HB2.out C13.out)
      have D2 := Lib.hid (keep_heap HB2.out C23.out)
      have D3 := Lib.hid (keep_heap HB2.out C3.out)
      have K4 := Lib.hid (below_end K3.out HB2.out)
      clear HO1 HB1 HO2 HB2 V13 V3 U13 C13 C23 C3 U23 U3 K3
      go_wp2_with (first
        | (go_at_call 13; first
            | (refine (S13 _ _ _ _ M0.out.2.1 (VC.out.below J1.out) (VD.out.below J1.out)).mono ?_; rintro e u2 ⟨rfl, hu2⟩; have J2 := below_end J1.out hu2; obtain ⟨x0, x1⟩ := cnt_cells (keep_heap J2 D1.out); obtain ⟨x2, x3⟩ := cnt_cells (keep_heap J2 D2.out); obtain ⟨x4, x5⟩ := cnt_cells (keep_heap J2 D3.out); have K5 := Lib.hid (below_end K4.out J2); clear hu2 J2)
            | (refine (S13 _ _ _ _ M0.out.1 VB.out VA.out).mono ?_; rintro e u1 ⟨rfl, hu1⟩; have J1 := Lib.hid hu1; clear hu1))
        | (go_at_call 10; refine (awake10 _).mono ?_; rintro e u3 ⟨rfl, hu3⟩))
      exact bodyPost_ret (v := .bool true) (by simp [results, Try.f7, go_sem]) rfl ⟨rfl, below_end K5.out hu3⟩
    · have HD := Lib.hid (HD2.out (by omega))
      go_upto_region 9 with (go_at_call 29; refine (F29d.out _ _ _ K2.out V2.out HD.out).mono ?_; rintro e W3 ⟨vc, gc, rfl, hV3, hG3, hb3⟩)
      have b23 := below_end hb3 (alloc_below W3 (.cells #[.int .i64 r2, .int .i64 w2] 50))
      have K3 := Lib.hid (below_end K2.out b23)
      have V13 := Lib.hid (V12.out.below b23)
      have U13 := Lib.hid (U12.out.below b23)
      have C13 := Lib.hid (keep_heap b23 C12.out)
      have U23 := Lib.hid (own_below U2.out b23)
      have C23 := Lib.hid (keep_heap b23 C2.out)
      have V3 := Lib.hid ((WAt.of_own hV3).below (alloc_below W3 (.cells #[.int .i64 r2, .int .i64 w2] 50)))
      have U3 := Lib.hid (own_below hG3 (alloc_below W3 (.cells #[.int .i64 r2, .int .i64 w2] 50)))
      have C3 := Lib.hid (heap_alloc_new W3 (.cells #[.int .i64 r2, .int .i64 w2] 50))
      generalize W3.alloc (.cells #[.int .i64 r2, .int .i64 w2] 50) = X3 at *
      clear hb3 hV3 hG3 b23 V12 U12 C12 U2 C2 V2 K2
      go_upto_region 12 with (first
        | (at_builtin; refine push_row (xs := []) (ys := got1) (empty_words (Below.refl X3.heap.size X3)) (alloc_below X3 (.cells #[] 25)) U23.out rfl _ _ rfl rfl rfl (by have := M0.out.2.2; simp; omega) ?_; intro p1' Y1 ho1 hb1; have HO1 := Lib.hid ho1; have HB1 := Lib.hid hb1; clear ho1 hb1)
        | (at_builtin; refine push_row HO1.out HB1.out U3.out rfl _ _ rfl rfl rfl (by have := M0.out.2.2; simp; omega) ?_; intro p2' Y2 ho2 hb2; have HO2 := Lib.hid ho2; have HB2 := Lib.hid hb2; clear ho2 hb2))
      have VA := Lib.hid (V13.out.below HB2.out)
      have VB := Lib.hid (V3.out.below HB2.out)
      have VC := Lib.hid (show WAt Y2 p2' (got1 ++ got2) by simpa using WAt.of_own HO2.out)
      have VD := Lib.hid (U13.out.below HB2.out)
      have D1 := Lib.hid (keep_heap HB2.out C13.out)
      have D2 := Lib.hid (keep_heap HB2.out C23.out)
      have D3 := Lib.hid (keep_heap HB2.out C3.out)
      have K4 := Lib.hid (below_end K3.out HB2.out)
      clear HO1 HB1 HO2 HB2 V13 V3 U13 C13 C23 C3 U23 U3 K3
      go_wp2_with (first
        | (go_at_call 13; first
            | (refine (S13 _ _ _ _ M0.out.2.1 (VC.out.below J1.out) (VD.out.below J1.out)).mono ?_; rintro e u2 ⟨rfl, hu2⟩; have J2 := below_end J1.out hu2; obtain ⟨x0, x1⟩ := cnt_cells (keep_heap J2 D1.out); obtain ⟨x2, x3⟩ := cnt_cells (keep_heap J2 D2.out); obtain ⟨x4, x5⟩ := cnt_cells (keep_heap J2 D3.out); have K5 := Lib.hid (below_end K4.out J2); clear hu2 J2)
            | (refine (S13 _ _ _ _ M0.out.1 VB.out VA.out).mono ?_; rintro e u1 ⟨rfl, hu1⟩; have J1 := Lib.hid hu1; clear hu1))
        | (go_at_call 10; refine (awake10 _).mono ?_; rintro e u3 ⟨rfl, hu3⟩))
      exact bodyPost_ret (v := .bool true) (by simp [results, Try.f7, go_sem]) rfl ⟨rfl, below_end K5.out hu3⟩
end Ytkffabochgmagaa
end Go.Proofs
