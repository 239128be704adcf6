/- own, place and asked, the reference's. -/
import Derived.Test.YtjkphacidpongaaGreatQRmX
import Derived.Test.YtjkphacidpongaaGreatQRmU
import Derived.Test.YtjkphacidpongaaGreatQRmK
namespace Go.Proofs
namespace YtjkphacidpongaaGreat
open Go.RowKit
open Cf (good plC plE chkE)

theorem push_whole {ops : Array Oper} {rest : List Oper} {o : Oper} {a : Act} {Q : Exit → Act → World → Prop} {W w : World} {h0 : Nat} {vg : Value} {ys : List Int} (hown : W.ownsRow w.heap.size 3 1 (.slice (some ⟨h0, 0, none⟩) 0 0) 0 (ic [])) (hB : Below w.heap.size w W) (hg : IAt W vg ys) (hgd : o.guard = none) (s x : Operand)
    (ho : o.op = .call { callee := .builtin .append, args := #[s, x], argTypes := #[25, 25] }) (hs : a.eval s = .slice (some ⟨h0, 0, none⟩) 0 0) (hx : a.eval x = vg) (hl : ys.length ≤ 1000000)
    (h : ∀ g cap W', W'.ownsRow w.heap.size 3 1 (.slice (some ⟨g, 0, none⟩) ys.length cap) ys.length (ic ys) → Below w.heap.size w W' → W.grownBy W' (some h0) → wpList Tryz.prog ops Q rest (a.put o.dst (.slice (some ⟨g, 0, none⟩) ys.length cap)) W') : wpList Tryz.prog ops Q (o :: rest) a W := by
  obtain ⟨i0, hi, hz0, hz1, hz2⟩ := info_parts info3
  obtain ⟨A, cap, rfl, hA⟩ := hg
  have hb0 := hown.lt h0 rfl
  by_cases hne : 0 < ys.length
  · obtain ⟨b, off, rfl, hc⟩ := hA hne
    refine wpList_append_lies _ hgd s x 25 ho w.heap.size 3 i0 _ 1 8 Tryz.underlying25 hi hz0 hz1 hz2 rfl (by decide) _ 0 (ic []) hs hown ⟨b, off, none⟩ ys.length cap (ic ys) hx (by rw [ic_length, Nat.mul_one]) ?_ (ic_one ys) hne ?_ ?_ ?_ _ rfl ?_
    · intro j u hj
      have hjl : j < ys.length := by have := (List.getElem?_eq_some_iff.1 hj).1; rwa [ic_length] at this
      rw [ic_get ys j hjl] at hj
      cases hj
      have e : (⟨b, off, none⟩ : Addr).add j = ⟨b, off + j, none⟩ := by simp [Addr.add]
      rw [e]
      exact hc j hjl
    · unfold maxLen; omega
    · omega
    · exact hB.size
    · intro g cap2 W' h1 h2 h3 h4
      rw [Nat.zero_add] at h1 ⊢
      exact h g cap2 W' (by simpa [ic] using h1) (hB.grown h2 hB.size (fun q e => by simp only [Value.ownBlock, Option.some.injEq] at e; omega)) h2
  · obtain rfl : ys = [] := List.eq_nil_of_length_eq_zero (by omega)
    have hrun := run_append_nought 25 o.type 3 i0 1 Tryz.underlying25 hi A cap _ 0 _ hown
    refine wpList_plain hgd fun K hK => ?_
    unfold Oper.wp
    simp [execOp, ho, resolve, invoke, builtin, hs, hx, hrun, Result.andThen]
    exact hK _ _ (h _ _ _ hown hB ⟨rfl, rfl, rfl, Nat.le_refl _, fun b _ _ => rfl⟩)
set_option maxRecDepth 100000 in
set_option maxHeartbeats 1000000 in
theorem own89 (v : Value) (cs : List Int) (w : World) (h : IAt w v cs) (hl : cs.length ≤ 1000000) :
    Calls Tryz.prog 89 #[.agg #[v]] w fun e w' => ∃ g cap, e = .returned (.agg #[.slice (some ⟨g, 0, none⟩) cs.length cap]) ∧ w'.ownsRow w.heap.size 3 1 (.slice (some ⟨g, 0, none⟩) cs.length cap) cs.length (ic cs) ∧ Below w.heap.size w w' := by
  obtain ⟨k0, k1, ks, hb⟩ := two_boxes w (.cells #[v] 27) (.cells #[nilV] 27)
  have c0 := (one_cell k0).1
  have B := Lib.hid hb
  have K1 := Lib.hid k1
  have I0 := Lib.hid (h.below (below_end hb (alloc_below _ (.cells #[] 3))))
  have HL := Lib.hid hl
  obtain ⟨A, c, rfl, -⟩ := h
  obtain ⟨n, hn⟩ : ∃ n, cs.length = n := ⟨_, rfl⟩
  have HN := Lib.hid hn
  unfold nilV at *
  rw [hn] at K1 I0 B c0 ⊢
  clear hb k0 k1 ks hl hn
  go_enter Tryz.func89, Tryz.ntmps89
  go_upto_region 1 with fail
  generalize (w.alloc (.cells #[.slice A n c] 27)).alloc (.cells #[.slice none 0 0] 27) = W0 at *
  have c1 := (one_cell (keep_heap (alloc_below W0 (.cells #[] 3)) K1.out)).1
  have c2 := keep_cell (alloc_below W0 (.cells #[] 3)) c0
  have KX := Lib.hid (keep_heap (alloc_below W0 (.cells #[] 3)) K1.out)
  have BX := Lib.hid (below_end B.out (alloc_below W0 (.cells #[] 3)))
  have LT := Lib.hid (Array.getElem?_eq_some_iff.1 K1.out).1
  go_wp2_with (at_builtin; refine push_whole (w := w) (ys := cs) (empty_row B.out) BX.out I0.out rfl _ _ rfl rfl rfl HL.out ?_; intro g cap W3 ho hb3 hg3; rw [HN.out] at ho ⊢; have k3 := heap_own (v := .slice (some ⟨W0.heap.size, 0, none⟩) 0 0) KX.out hg3 (by have := LT.out; simp [Value.ownBlock]; omega); obtain ⟨e1, e2⟩ := one_cell k3; have K3 := Lib.hid k3; have O3 := Lib.hid ho; have B3 := Lib.hid hb3; clear ho hb3 hg3 k3)
  have hne : (Value.slice (some ⟨g, 0, none⟩) n cap).ownBlock ≠ some (w.heap.size + 1) := fun e => by
    simp only [Value.ownBlock, Option.some.injEq] at e
    rcases O3.out.2 with ⟨e1, -⟩ | ⟨g', cap', cur, e1, -, hg, -⟩
    · cases e1
    · cases e1
      rw [e, K3.out] at hg
      simp at hg
  have c4 := (one_cell (set_row K3.out 0 (.slice (some ⟨g, 0, none⟩) n cap))).1
  refine bodyPost_ret (v := .agg #[.slice (some ⟨g, 0, none⟩) n cap]) (by simp [results, Tryz.f89, go_sem, c4]) rfl ⟨g, cap, rfl, O3.out.kept (grown_set _ _ _ _) (.inr hne), B3.out.setCell (p := ⟨w.heap.size + 1, 0, none⟩) (show w.heap.size ≤ w.heap.size + 1 by omega) _⟩
/-- into which set a slot belongs -/
def plcF (C N S K Q slot target : Int) : Int := if target = 0 then -2 else if plC C N S K Q slot < 0 ∨ plC C N S K Q slot = plC C N S K Q target then -2 else plC C N S K Q target
set_option maxRecDepth 100000 in
set_option maxHeartbeats 1000000 in
theorem place86 (C N S K Q slot target : Int) (w : World) :
    Calls Tryz.prog 86 #[.agg #[.int .i64 C, .int .i64 N, .int .i64 S, .int .i64 K, .int .i64 Q], .int .i64 slot, .int .i64 target] w fun e w' => e = .returned (.int .i64 (plcF C N S K Q slot target)) ∧ Below w.heap.size w w' := by
  have h0 := heap_alloc_new w (.cells #[.int .i64 C, .int .i64 N, .int .i64 S, .int .i64 K, .int .i64 Q] 23)
  have hb := alloc_below w (.cells #[.int .i64 C, .int .i64 N, .int .i64 S, .int .i64 K, .int .i64 Q] 23)
  have B := Lib.hid hb
  have H0 := Lib.hid h0
  obtain ⟨c0, c1, c2, c3, c4⟩ := five_cells h0
  have C1 := Lib.hid (car27 C N S K Q slot)
  have C2 := Lib.hid (car27 C N S K Q target)
  unfold plcF
  generalize plC C N S K Q slot = p1 at *
  generalize plE C N S K Q slot = e1 at *
  generalize plC C N S K Q target = p2 at *
  generalize plE C N S K Q target = e2 at *
  clear hb h0
  by_cases h2 : target = 0
  · subst h2
    rw [if_pos rfl]
    clear C1 C2
    go_enter Tryz.func86, Tryz.ntmps86
    go_wp2
    refine bodyPost_ret (v := .int .i64 (-2)) (by simp [results, Tryz.f86, go_sem]) rfl ⟨rfl, B.out⟩
  have q2 : (target == 0) = false := by simpa using h2
  rw [if_neg h2]
  have key : ∀ r : Bool, (decide (p1 < 0) || (p1 == p2)) = r → Calls Tryz.prog 86 #[.agg #[.int .i64 C, .int .i64 N, .int .i64 S, .int .i64 K, .int .i64 Q], .int .i64 slot, .int .i64 target] w fun e w' => e = .returned (.int .i64 (if r = true then -2 else p2)) ∧ Below w.heap.size w w' := by
    intro r hr
    clear h2
    go_enter Tryz.func86, Tryz.ntmps86
    go_upto_region 5 with (first
      | (have hB1 := B1.out; go_at_call 35; refine (C2.out _).mono ?_; rintro e w2 ⟨rfl, hb2⟩; have B2 := Lib.hid (below_end hB1 hb2); clear hb2 hB1)
      | (go_at_call 35; refine (C1.out _).mono ?_; rintro e w1 ⟨rfl, hb1⟩; have B1 := Lib.hid (below_end B.out hb1); have K1 := Lib.hid (keep_heap hb1 H0.out); obtain ⟨d0, d1, d2, d3, d4⟩ := five_cells K1.out; clear hb1 C1 c0 c1 c2 c3 c4))
    by_cases h3 : p1 < 0
    · have q3 : decide (p1 < 0) = true := decide_eq_true h3
      rw [q3] at hr
      simp at hr
      subst hr
      go_wp2
      refine bodyPost_ret (v := .int .i64 (-2)) (by simp [results, Tryz.f86, go_sem]) rfl ⟨rfl, B2.out⟩
    · have q3 : decide (p1 < 0) = false := decide_eq_false h3
      rw [q3] at hr
      cases r with
      | true =>
        have q4 : (p1 == p2) = true := by simpa using hr
        clear hr
        go_wp2
        refine bodyPost_ret (v := .int .i64 (-2)) (by simp [results, Tryz.f86, go_sem]) rfl ⟨rfl, B2.out⟩
      | false =>
        have q4 : (p1 == p2) = false := by simpa using hr
        clear hr
        go_wp2
        refine bodyPost_ret (v := .int .i64 p2) (by simp [results, Tryz.f86, go_sem]) rfl ⟨rfl, B2.out⟩
  by_cases h4 : p1 < 0 ∨ p1 = p2
  · rw [if_pos h4]
    have := key true (by simpa using h4)
    simpa using this
  · rw [if_neg h4]
    have := key false (by simp only [not_or] at h4; simp [h4.1, h4.2])
    simpa using this
end YtjkphacidpongaaGreat
end Go.Proofs
/- copied, the reference's. -/
namespace Go.Proofs
namespace YtjkphacidpongaaGreat
open Go.RowKit
attribute [local go_sem ↓] fold_append

theorem own89b (v : Value) (cs : List Int) (w : World) (h : IAt w v cs) (hl : cs.length ≤ 1000000) :
    Calls Tryz.prog 89 #[.agg #[v]] w fun e w' => ∃ g cap, e = .returned (.agg #[.slice (some ⟨g, 0, none⟩) cs.length cap]) ∧ w.heap.size ≤ g ∧ IAt w' (.slice (some ⟨g, 0, none⟩) cs.length cap) cs ∧ Below w.heap.size w w' := by
  refine (own89 v cs w h hl).mono ?_
  rintro e w' ⟨g, cap, rfl, ho, hb⟩
  exact ⟨g, cap, rfl, (ho.lt g rfl).1, IAt.of_own ho, hb⟩
/-- sets of the call's own, whose tables lie apart from their row -/
def CpAns (w : World) (n : Nat) (T : Nat → List Int) (e : Ending) (w' : World) : Prop := ∃ (A : Option Addr) (cp : Nat) (us : List Value) (g cq : Nat), e = .returned (.agg #[.slice A n cp, .slice (some ⟨g, 0, none⟩) (T n).length cq]) ∧ us.length = n ∧ GT w.heap.size w' (.slice A n cp) us T ∧ IAt w' (.slice (some ⟨g, 0, none⟩) (T n).length cq) (T n) ∧ (∀ r, (Value.slice A n cp).ownBlock = some r → Apart (.slice (some ⟨g, 0, none⟩) (T n).length cq) r) ∧ Below w.heap.size w w'
set_option maxRecDepth 100000 in
set_option maxHeartbeats 2000000 in
theorem copied56 (A nv : Value) (n : Nat) (U : Nat → Value) (T : Nat → List Int) (w : World) (hR : RS w A nv n U T) (hm : ∀ j, j ≤ n → (T j).length ≤ 100000) (hn : n ≤ 100000) :
    Calls Tryz.prog 56 #[.agg #[A, nv]] w fun e w' => CpAns w n T e w' := by
  obtain ⟨a, cap, rfl, hcar⟩ := hR.form
  have hat := hR.at_ n (Nat.le_refl _)
  have hnur := hR.nur
  rw [hnur] at hat
  obtain ⟨An, cn, rfl, -⟩ := hat
  have HNV : IAt w (.slice An (T n).length cn) (T n) := hnur ▸ hR.at_ n (Nat.le_refl _)
  obtain ⟨k0, k1, k2, k3⟩ := two_boxes w (.cells #[.slice a n cap, .slice An (T n).length cn] 29) (.cells #[nilV, nilV] 29)
  have OW := Lib.hid (own89b (.slice An (T n).length cn) (T n) _ (HNV.below k3) (by have := hm n (Nat.le_refl _); omega))
  have CE := Lib.hid (fun W (hW : Below w.heap.size w W) j (hj : j < n) => (show ∃ b off Aj cj, a = some ⟨b, off, none⟩ ∧ W.cell? ⟨b, off + j, none⟩ = some (.slice Aj (T j).length cj) ∧ IAt W (.slice Aj (T j).length cj) (T j) by
    obtain ⟨b, off, e, hc⟩ := hcar (by omega)
    have h5 := (hR.at_ j (by omega)).below hW
    have h5' := h5
    obtain ⟨Aj, cj, e2, -⟩ := h5'
    rw [e2] at h5
    have h6 := keep_cell hW (hc j hj)
    rw [e2] at h6
    exact ⟨b, off, Aj, cj, e, h6, h5⟩))
  have HMM := Lib.hid hm
  obtain ⟨c0, c1, -, -⟩ := two_cells k0
  have B := Lib.hid k3
  have K0 := Lib.hid k0
  have K1 := Lib.hid k1
  have K2 := Lib.hid k2
  obtain ⟨ln, hln⟩ : ∃ ln, (T n).length = ln := ⟨_, rfl⟩
  unfold CpAns
  rw [hln] at OW K0 K1 K2 B c0 c1 ⊢
  unfold nilV at *
  clear k0 k1 k2 k3 hR hcar hnur HNV hm hln
  go_enter Tryz.func56, Tryz.ntmps56
  go_upto_region 2 with (go_at_call 89; refine OW.out.mono ?_; rintro e w2 ⟨g, cq, rfl, hgl, ho, hb2⟩; have B2 := Lib.hid (below_end B.out hb2); have P0 := Lib.hid (keep_heap hb2 K0.out); have P1 := Lib.hid (keep_heap hb2 K1.out); have S2 := Lib.hid (show w.heap.size + 2 ≤ w2.heap.size by have := hb2.size; have := K2.out; omega); have T2 := Lib.hid ho; clear ho hb2 hgl)
  have hq := heap_alloc_new w2 (.cells #[.slice none 0 0, .slice (some ⟨g, 0, none⟩) ln cq] 29)
  have ba := alloc_below w2 (.cells #[.slice none 0 0, .slice (some ⟨g, 0, none⟩) ln cq] 29)
  obtain ⟨q, hqe⟩ : ∃ q, w2.heap.size = q := ⟨_, rfl⟩
  have GQ := Lib.hid (show w.heap.size + 2 ≤ q by rw [← hqe]; exact S2.out)
  rw [hqe] at hq ⊢
  have B3 := Lib.hid (below_end B2.out ba)
  have P0 := Lib.hid (keep_heap ba P0.out)
  have P1 := Lib.hid (keep_heap ba P1.out)
  have TN := Lib.hid (T2.out.below ba)
  have HQ := Lib.hid hq
  generalize w2.alloc (.cells #[.slice none 0 0, .slice (some ⟨g, 0, none⟩) ln cq] 29) = W0 at *
  clear hq ba hqe S2 B2 T2 c0 c1 B K0 K1 K2 OW
  go_wp2
  go_loopw [4] (fun i wr => ∃ k : Nat, k ≤ n ∧ i = .int .i64 k ∧ Hid (∃ v us, us.length = k ∧ GT (w.heap.size + 2) wr v us T ∧ v.ownBlock ≠ some q ∧ (∀ r, v.ownBlock = some r → Apart (.slice (some ⟨g, 0, none⟩) ln cq) r) ∧ wr.heap[q]? = some (.cells #[v, .slice (some ⟨g, 0, none⟩) ln cq] 29 (0, 0))) ∧
      Hid (wr.heap[w.heap.size]? = some (.cells #[.slice a n cap, .slice An ln cn] 29 (0, 0))) ∧ Hid (wr.heap[w.heap.size + 1]? = some (.cells #[.slice none 0 0, .slice none 0 0] 29 (0, 0))) ∧ Hid (IAt wr (.slice (some ⟨g, 0, none⟩) ln cq) (T n)) ∧ Hid (Below w.heap.size w wr)) (fun i _ => n - (intOf i).toNat)
  case atStart => exact ⟨0, by omega, rfl, Lib.hid ⟨nilV, [], rfl, GT.nil _ _ _, by simp [nilV, Value.ownBlock], fun r hr => by simp [nilV, Value.ownBlock] at hr, HQ.out⟩, P0, P1, TN, B3⟩
  case round =>
    obtain ⟨k, hk, rfl, HX, H0, H1, HT, HB⟩ := hrel
    obtain ⟨v, us, hul, hgt, hvq, hav, hqv⟩ := HX.out
    obtain ⟨d0, d1, -, -⟩ := two_cells H0.out
    by_cases hlt : k < n
    · have hlt' : (k : Int) < (n : Int) := by omega
      have q0 : decide ((k : Int) < (n : Int)) = true := decide_eq_true hlt'
      have hD : Below wr.heap.size wr wr.drew := below_drewN (Below.refl _ _) 1
      have hqv2 := hqv
      obtain ⟨b, off, Aj, cj, rfl, cc, hij⟩ := CE.out _ HB.out k hlt
      have ad : (⟨b, off, none⟩ : Addr).add k = ⟨b, off + k, none⟩ := by unfold Addr.add; split <;> simp_all
      have OK := Lib.hid (own89b _ _ wr.drew (hij.below hD) (by have := HMM.out k (by omega); omega))
      subst hul
      obtain ⟨lk, hlk⟩ : ∃ lk, (T us.length).length = lk := ⟨_, rfl⟩
      rw [hlk] at OK cc
      have PUSH := Lib.hid (fun w3 gt cp (hb : Below wr.drew.heap.size wr.drew w3) (hgt2 : wr.drew.heap.size ≤ gt) (ht : IAt w3 (.slice (some ⟨gt, 0, none⟩) lk cp) (T us.length)) => (show ∃ g' cap' w4, (appF #[24, 24] 24 #[v, .slice (some ⟨w3.heap.size, 0, none⟩) 1 1]).run Tryz.prog (w3.alloc (.cells #[.slice (some ⟨gt, 0, none⟩) lk cp] 27)) = .ok (.slice (some ⟨g', 0, none⟩) (us.length + 1) cap') w4 ∧
          (w4.cell? ⟨q, 0, none⟩ = some v ∧ w4.frozen? ⟨q, 0, none⟩ = false ∧ w3.cell? ⟨q, 0, none⟩ = some v ∧ (w3.alloc (.cells #[.slice (some ⟨gt, 0, none⟩) lk cp] 27)).cell? ⟨q, 0, none⟩ = some v) ∧
          ∃ us2, us2.length = us.length + 1 ∧ GT (w.heap.size + 2) (w4.setCell ⟨q, 0, none⟩ (.slice (some ⟨g', 0, none⟩) (us.length + 1) cap')) (.slice (some ⟨g', 0, none⟩) (us.length + 1) cap') us2 T ∧ (Value.slice (some ⟨g', 0, none⟩) (us.length + 1) cap').ownBlock ≠ some q ∧
            (∀ r, (Value.slice (some ⟨g', 0, none⟩) (us.length + 1) cap').ownBlock = some r → Apart (.slice (some ⟨g, 0, none⟩) ln cq) r) ∧ (w4.setCell ⟨q, 0, none⟩ (.slice (some ⟨g', 0, none⟩) (us.length + 1) cap')).heap[q]? = some (.cells #[.slice (some ⟨g', 0, none⟩) (us.length + 1) cap', .slice (some ⟨g, 0, none⟩) ln cq] 29 (0, 0)) ∧
            (w4.setCell ⟨q, 0, none⟩ (.slice (some ⟨g', 0, none⟩) (us.length + 1) cap')).heap[w.heap.size]? = some (.cells #[.slice (some ⟨b, off, none⟩) n cap, .slice An ln cn] 29 (0, 0)) ∧ (w4.setCell ⟨q, 0, none⟩ (.slice (some ⟨g', 0, none⟩) (us.length + 1) cap')).heap[w.heap.size + 1]? = some (.cells #[.slice none 0 0, .slice none 0 0] 29 (0, 0)) ∧
            IAt (w4.setCell ⟨q, 0, none⟩ (.slice (some ⟨g', 0, none⟩) (us.length + 1) cap')) (.slice (some ⟨g, 0, none⟩) ln cq) (T n) ∧ Below w.heap.size w (w4.setCell ⟨q, 0, none⟩ (.slice (some ⟨g', 0, none⟩) (us.length + 1) cap')) by
        have hbw : Below wr.heap.size wr w3 := below_end hD hb
        have hsz := hbw.size
        have hlo := fun r hr => (hgt.own.lt r hr).1
        have hup := fun r hr => (hgt.own.lt r hr).2
        have hB0 := HB.out.size
        have hgq := GQ.out
        have hql : q < wr.heap.size := (Array.getElem?_eq_some_iff.1 hqv).1
        obtain ⟨g', cap', w4, hr, hg4, hgr, hs4, hv4⟩ := (hgt.below hbw).push (x := .slice (some ⟨gt, 0, none⟩) lk cp) (by omega) ht (fun r hr => by
          intro A n c b off e1 _ e2
          cases e1; cases e2
          have := hup r hr
          have : wr.heap.size ≤ gt := hgt2
          omega) (by omega)
        have ba := alloc_below w3 (.cells #[.slice (some ⟨gt, 0, none⟩) lk cp] 27)
        have hbx := below_end hbw ba
        have q4 := heap_own (keep_heap hbx hqv) hgr hvq
        have a4 := heap_own (keep_heap hbx H0.out) hgr (fun e => by have := hlo _ e; omega)
        have b4 := heap_own (keep_heap hbx H1.out) hgr (fun e => by have := hlo _ e; omega)
        have t4 := (HT.out.below hbx).own hgr hav
        have hsl : ∀ u, u ∈ (#[v, .slice (some ⟨g, 0, none⟩) ln cq] : Array Value).toList → isSl u := fun u hu => by
          simp only [List.mem_cons, List.not_mem_nil, or_false] at hu
          rcases hu with rfl | rfl
          · obtain ⟨A, cp, e⟩ := hgt.form; exact ⟨_, _, _, e⟩
          · exact ⟨_, _, _, rfl⟩
        have hne : (Value.slice (some ⟨g', 0, none⟩) (us.length + 1) cap').ownBlock ≠ some q := fun e => by
          simp only [Value.ownBlock, Option.some.injEq] at e
          subst e
          rcases hv4 with h | h
          · exact hvq h
          · omega
        refine ⟨g', cap', w4, hr, ⟨(two_cells q4).1, (two_cells q4).2.2.1, (two_cells (keep_heap hbw hqv)).1, (two_cells (keep_heap hbx hqv)).1⟩, us ++ [.slice (some ⟨gt, 0, none⟩) lk cp], by simp, hg4.set q4 hsl hne _, hne, fun r hr2 => ?_, set_row q4 0 _, set_far _ (by omega) a4, set_far _ (by omega) b4, t4.set q4 hsl _, ?_⟩
        · simp only [Value.ownBlock, Option.some.injEq] at hr2
          subst hr2
          rcases hv4 with h | h
          · exact hav _ h
          · exact (HT.out.below hbw).far (by omega)
        · refine ((below_end HB.out hbx).grown hgr (by have := hbx.size; omega) (fun r hr => by have := hlo r hr; omega)).setCell (p := ⟨q, 0, none⟩) (by dsimp only; omega) _))
      obtain ⟨e0, -, -, -⟩ := two_cells hqv
      obtain ⟨A, cp, hv⟩ := hgt.form
      subst hv
      clear hgt hvq hav hqv hqv2 HX H0 H1 HT HB hk hij
      go_upto_region 5 with fail
      go_region_with (go_at_call 89; refine OK.out.mono ?_; rintro e w3 ⟨gt, cpt, rfl, hgs, ht, hb3⟩; obtain ⟨g', cap', w4, hrun, ⟨k1, k2, k3, k4⟩, hrest⟩ := PUSH.out w3 gt cpt hb3 hgs ht; have HREST := Lib.hid hrest; clear hrest hgs ht hb3)
      all_goals
        go_wp2
        obtain ⟨us2, hl2, x1, x2, x3, x4, x5, x6, x7, x8⟩ := HREST.out
        refine ⟨⟨us.length + 1, by omega, by simp, Lib.hid ⟨_, us2, hl2, x1, x2, x3, x4⟩, Lib.hid x5, Lib.hid x6, Lib.hid x7, Lib.hid x8⟩, ?_⟩
        show n - ((us.length : Int) + 1).toNat < n - ((us.length : Int)).toNat
        omega
    · have hlt' : ¬ (k : Int) < (n : Int) := by omega
      have q0 : decide ((k : Int) < (n : Int)) = false := decide_eq_false hlt'
      obtain rfl : k = n := by omega
      obtain ⟨A, cp, hv⟩ := hgt.form
      have hlo := fun r hr => (hgt.own.lt r hr).1
      rw [hul] at hv
      subst hv
      obtain ⟨e0, e1, -, -⟩ := two_cells hqv
      obtain ⟨r0, r1, g0, g1⟩ := two_cells H1.out
      have hne : (Value.slice A k cp).ownBlock ≠ some (w.heap.size + 1) := fun e => by have := hlo _ e; omega
      have s1 := two_nil
      have s2 : ∀ u, u ∈ (#[.slice A k cp, nilV] : Array Value).toList → isSl u := fun u hu => by
        simp only [List.mem_cons, List.not_mem_nil, or_false] at hu
        rcases hu with rfl | rfl
        · exact ⟨_, _, _, rfl⟩
        · exact nil_sl
      have GG := Lib.hid ((hgt.set H1.out s1 hne (i := 0) (.slice A k cp)).set (set_row H1.out 0 _) s2 hne (i := 1) (.slice (some ⟨g, 0, none⟩) ln cq))
      have TT := Lib.hid ((HT.out.set H1.out s1 (k := 0) (.slice A k cp)).set (set_row H1.out 0 _) s2 (k := 1) (.slice (some ⟨g, 0, none⟩) ln cq))
      have x1 : ((wr.setCell ⟨w.heap.size + 1, 0, none⟩ (.slice A k cp)).setCell ⟨w.heap.size + 1, 1, none⟩ (.slice (some ⟨g, 0, none⟩) ln cq)).heap[w.heap.size + 1]? = some (.cells #[.slice A k cp, .slice (some ⟨g, 0, none⟩) ln cq] 29 (0, 0)) := set_row (set_row H1.out 0 _) 1 _
      obtain ⟨y0, y1, -, -⟩ := two_cells x1
      have HAV := Lib.hid hav
      have HUL := Lib.hid hul
      clear hgt hvq hav hqv HX hne s1 s2 x1 hlo hk hul
      go_wp2
      refine bodyPost_ret (v := .agg #[.slice A k cp, .slice (some ⟨g, 0, none⟩) ln cq]) (by simp [results, Tryz.f56, go_sem, y0, y1]) rfl ⟨A, cp, us, g, cq, rfl, HUL.out, ⟨own_mono GG.out.own (by omega), GG.out.tab, GG.out.off⟩, TT.out, HAV.out, (HB.out.setCell (p := ⟨w.heap.size + 1, 0, none⟩) (show w.heap.size ≤ w.heap.size + 1 by omega) _).setCell (p := ⟨w.heap.size + 1, 1, none⟩) (show w.heap.size ≤ w.heap.size + 1 by omega) _⟩
end YtjkphacidpongaaGreat
end Go.Proofs
