/- The reference's Of. -/
import Derived.Test.YtjanicngedkhnaaSlBj
namespace Go.Proofs
namespace Ytjanicngedkhnaa
open Go.RowKit

theorem field_of (A : Option Addr) (n c : Nat) (W : World) : (Instr.field 24 (.agg #[.slice A n c]) 0).run Try.prog W = .ok (.slice A n c) W := by
  simp [Instr.field, go_sem, asAgg]
theorem add_found {cs : List Int} {a : Int} (h : hasB cs a = true) : addF cs a = cs := by unfold addF; rw [h]; rfl
theorem SAns.row {w w' : World} {zs : List Int} {v : Value} (h : SAns w zs v w') (hl : zs.length ≤ 100000) : ∃ u, v = sv u ∧ Row w w' u zs ∧ Below w.heap.size w w' := by
  obtain ⟨g, rfl, hg, ht, hb⟩ := h
  exact ⟨_, rfl, ht.row hg hl, hb⟩
set_option maxRecDepth 100000 in
set_option maxHeartbeats 400000 in
theorem rof32 (v : Value) (l : List Int) (w : World) (h : IAt w v l) (hm : l.length ≤ 100000) :
    Calls Try.prog 32 #[v] w fun e w' => SeAns w (ofA l) e w' := by
  have h0 := heap_alloc_new w (.cells #[.slice none 0 0] 24)
  have hb := alloc_below w (.cells #[.slice none 0 0] 24)
  have hs : (w.alloc (.cells #[.slice none 0 0] 24)).heap.size = w.heap.size + 1 := by simp
  have hIA := h.below hb
  by_cases h4 : 4000 < l.length
  · rw [of_long h4]
    obtain ⟨A, cap, rfl, -⟩ := h
    obtain ⟨c0, f0⟩ := one_cell h0
    have B := Lib.hid hb
    have H0 := Lib.hid h0
    have q : decide ((4000 : Int) < (l.length : Int)) = true := decide_eq_true (by omega)
    have q' : (4000 : Int) < (l.length : Int) := by omega
    unfold SeAns sv at *
    dsimp only
    generalize l.length = n at *
    clear h0 hb hs hIA h4
    go_enter Try.func32, Try.ntmps32
    go_upto_region 1 with fail
    generalize w.alloc (.cells #[.slice none 0 0] 24) = W0 at *
    go_wp2
    have c4 := (one_cell (set_row H0.out 0 (.slice none 0 0))).1
    refine bodyPost_ret (v := .tuple #[.agg #[.slice none 0 0], .int .i64 3]) (by simp [results, Try.f32, go_sem, c4]) rfl ⟨_, rfl, row_nil _ _, B.out.setCell (p := ⟨w.heap.size, 0, none⟩) (Nat.le_refl _) _⟩
  have OB := Lib.hid (fun h2 => of_bad h4 h2)
  have OK := Lib.hid (fun h2 => of_ok h4 h2)
  have NA := Lib.hid (fun k (hk : k < l.length) (h : isA (l.getD k 0) = false) => not_all hk h)
  have UA := Lib.hid (fun h => all_upto (l := l) h)
  have GD := Lib.hid (fun (hl : l.all isA = true) k => adds_upto new_good (all_isA.1 hl) k)
  have IA := Lib.hid (fun (hl : l.all isA = true) k (hk : k < l.length) => all_isA.1 hl _ (getD_mem hk))
  have SN := Lib.hid (fun k (hk : k < l.length) => foldl_take_snoc addF l newF hk)
  have TL := Lib.hid (List.take_length (l := l))
  have q4 : decide ((4000 : Int) < (l.length : Int)) = false := decide_eq_false (by omega)
  have q4' : ¬ (4000 : Int) < (l.length : Int) := by omega
  obtain ⟨A, cap, rfl, -⟩ := h
  have HIA := Lib.hid hIA
  obtain ⟨A', cap', e, hA⟩ := hIA
  cases e
  have HA := Lib.hid hA
  have B := Lib.hid hb
  have H0 := Lib.hid h0
  have HS := Lib.hid hs
  obtain ⟨R, hR⟩ : ∃ R, ofA l = R := ⟨_, rfl⟩
  rw [hR] at OB OK ⊢
  unfold SeAns
  obtain ⟨m, hm2⟩ : ∃ m, l.length = m := ⟨_, rfl⟩
  have HM := Lib.hid hm2
  rw [hm2] at hm HA HIA NA UA IA SN TL q4 q4' h4 ⊢
  clear h0 hb hs hA hm2 hR
  go_enter Try.func32, Try.ntmps32
  go_upto_region 1 with fail
  generalize w.alloc (.cells #[.slice none 0 0] 24) = W0 at *
  go_wp2
  go_loopw [4] (fun i wr => ∃ k : Nat, k ≤ m ∧ i = .int .i64 k ∧ Hid (∀ j, j < k → isA (l.getD j 0) = true) ∧ Hid (W0 = wr)) (fun i _ => m - (intOf i).toNat)
  case atStart => exact ⟨0, by omega, rfl, Lib.hid (fun j hj => by omega), Lib.hid rfl⟩
  case round =>
    obtain ⟨k, hk, rfl, HN, hw⟩ := hrel
    obtain rfl := hw.out
    by_cases hlt : k < m
    · have hlt' : (k : Int) < (m : Int) := by omega
      obtain ⟨b1, o1, rfl, ca⟩ := HA.out (by omega)
      have ca' := ca k hlt
      have ad1 : (⟨b1, o1, none⟩ : Addr).add k = ⟨b1, o1 + k, none⟩ := by unfold Addr.add; split <;> simp_all
      have AD := Lib.hid (raddr53 (l.getD k 0) W0)
      have NK := Lib.hid (NA.out k hlt)
      have NX := Lib.hid (show isA (l.getD k 0) = true → ∀ j, j < k + 1 → isA (l.getD j 0) = true from fun h j hj => by
        rcases Nat.lt_or_ge j k with h1 | h1
        · exact HN.out j h1
        · obtain rfl : j = k := by omega
          exact h)
      generalize l.getD k 0 = x at *
      clear ca
      cases hi : isA x with
      | true =>
        have N := Lib.hid (NX.out hi)
        rw [hi] at AD
        clear hi NX NK
        go_wp2_with (go_at_call 53; refine AD.out.mono ?_; rintro e w1 ⟨rfl, rfl⟩)
        refine ⟨⟨k + 1, by omega, by simp, N, Lib.hid trivial⟩, ?_⟩
        show m - ((k : Int) + 1).toNat < m - ((k : Int)).toNat
        omega
      | false =>
        have T := OB.out (NK.out hi)
        subst T
        obtain ⟨c0, f0⟩ := one_cell H0.out
        rw [hi] at AD
        clear hi NX NK
        go_wp2_with (go_at_call 53; refine AD.out.mono ?_; rintro e w1 ⟨rfl, rfl⟩)
        have c4 := (one_cell (set_row H0.out 0 (.slice none 0 0))).1
        refine bodyPost_ret (v := .tuple #[.agg #[.slice none 0 0], .int .i64 7]) (by simp [results, Try.f32, go_sem, c4]) rfl ⟨_, rfl, row_nil _ _, B.out.setCell (p := ⟨w.heap.size, 0, none⟩) (Nat.le_refl _) _⟩
    · have hlt' : ¬ (k : Int) < (m : Int) := by omega
      obtain rfl : k = m := by omega
      have hall := UA.out HN.out
      have T := OK.out hall
      subst T
      have NW := Lib.hid ((rnew19 W0).mono fun e w' ⟨v, h1, h2⟩ => (show ∃ u, e = Ending.returned (.agg #[u]) ∧ Row W0 w' u newF ∧ Below W0.heap.size W0 w' from by
        obtain ⟨u, rfl, h3, h4⟩ := h2.row (by decide)
        exact ⟨u, h1, h3, h4⟩))
      have GD := GD.out hall
      have IA := Lib.hid (IA.out hall)
      have hfield := field_of
      obtain ⟨G, hG⟩ : ∃ G : Nat → List Int, ∀ j, (l.take j).foldl addF newF = G j := ⟨_, fun _ => rfl⟩
      have SG := Lib.hid (fun j (hj : j < k) => (show G (j + 1) = addF (G j) (l.getD j 0) by rw [← hG, ← hG]; exact SN.out j hj))
      have G0 := Lib.hid (show newF = G 0 by rw [← hG]; simp)
      have GM := Lib.hid (show l.foldl addF newF = G k by rw [← hG, TL.out])
      have GG := Lib.hid (fun j => (show Good (G j) by rw [← hG]; exact GD j))
      clear hall HN OB OK NA UA GD SN hG
      go_wp2_with (go_at_call 19; refine NW.out.mono ?_; rintro e w1 ⟨u, rfl, hr, hb1⟩; have B1 := Lib.hid hb1; rw [G0.out] at hr; have R1 := Lib.hid hr; obtain ⟨A1, c1, rfl⟩ := own_form hr; clear hr hb1)
      go_loopw [5, 6] (fun o i wr => ∃ j : Nat, j ≤ k ∧ i = .int .i64 j ∧ Hid (Row W0 wr o (G j)) ∧ Hid (Below W0.heap.size W0 wr)) (fun _ i _ => k - (intOf i).toNat)
      case atStart => exact ⟨0, by omega, rfl, R1, B1⟩
      case round =>
        obtain ⟨j, hj, rfl, HR, HB⟩ := hrel
        by_cases hlt : j < k
        · have hlt' : (j : Int) < (k : Int) := by omega
          obtain ⟨b1, o1, rfl, ca⟩ := HA.out (by omega)
          have ca' := (HB.out.cell (cell_lt (ca j hlt))).trans (ca j hlt)
          have ad1 : (⟨b1, o1, none⟩ : Addr).add j = ⟨b1, o1 + j, none⟩ := by unfold Addr.add; split <;> simp_all
          have hx := IA.out j hlt
          have hG := GG.out j
          have SK := Lib.hid (SG.out j hlt)
          clear ca
          generalize l.getD j 0 = x at *
          generalize G j = d at *
          have F1 := Lib.hid (rfind40 _ d x wr HR.out.iat hG.zero (by have := hG.tab.hi; omega) hx)
          have AA := Lib.hid (fun (hh : hasB d x = false) => radd49 _ d x wr HR.out.iat hG hx ((hG.tab.hasF hG.zero (by omega)).1 hh))
          obtain ⟨A2, c2, e5⟩ := own_form HR.out
          subst e5
          have q5 := atF_neg (cs := d) (a := x)
          generalize atF d x = y at *
          cases hh : hasB d x with
          | true =>
            rw [hh] at q5
            have q5 : decide (y < 0) = false := q5
            have R2 := Lib.hid (show Row W0 wr (.slice A2 d.length c2) (G (j + 1)) by rw [SK.out, add_found hh]; exact HR.out)
            generalize d.length = dn at *
            clear hh hG AA
            go_wp2_with (go_at_call 40; refine F1.out.mono ?_; rintro e w3 ⟨rfl, rfl⟩)
            refine ⟨⟨j + 1, by omega, by simp, R2, HB⟩, ?_⟩
            show k - ((j : Int) + 1).toNat < k - ((j : Int)).toNat
            omega
          | false =>
            rw [hh] at q5
            have q5 : decide (y < 0) = true := q5
            have AA := Lib.hid ((AA.out hh).mono fun e w' ⟨u, h1, h2, h3⟩ => (show ∃ u, e = Ending.returned u ∧ Row wr w' u (G (j + 1)) ∧ Below wr.heap.size wr w' from ⟨u, h1, by rw [SK.out]; exact h2, h3⟩))
            obtain ⟨d2, hd2⟩ : ∃ d2, G (j + 1) = d2 := ⟨_, rfl⟩
            have HD2 := Lib.hid hd2
            rw [hd2] at AA
            clear hd2
            generalize d.length = dn at *
            clear hh hG
            go_wp2_with (first
              | (go_at_call 40; refine F1.out.mono ?_; rintro e w3 ⟨rfl, rfl⟩)
              | (go_at_call 49; refine AA.out.mono ?_; rintro e w4 ⟨x4, rfl, hr, hb4⟩; have R4 := Lib.hid (row_mono hr HB.out.size); have B4 := Lib.hid (below_end HB.out hb4); obtain ⟨A4, c4, rfl⟩ := own_form hr; clear hr hb4))
            refine ⟨⟨j + 1, by omega, by simp, Lib.hid (by rw [HD2.out]; exact R4.out), B4⟩, ?_⟩
            show k - ((j : Int) + 1).toNat < k - ((j : Int)).toNat
            omega
        · have hlt' : ¬ (j : Int) < (k : Int) := by omega
          obtain rfl : j = k := by omega
          have K5 := Lib.hid (keep_heap HB.out H0.out)
          have B5 := Lib.hid (below_end B.out HB.out)
          obtain ⟨c0, f0⟩ := one_cell K5.out
          obtain ⟨A5, c5, rfl⟩ := own_form HR.out
          generalize hz : (G j).length = z at *
          clear SG GG IA hz
          go_wp2
          have c4 := (one_cell (set_row K5.out 0 (.slice A5 z c5))).1
          refine bodyPost_ret (v := .tuple #[.agg #[.slice A5 z c5], .int .i64 0]) (by simp [results, Try.f32, go_sem, c4]) rfl ⟨_, rfl, show Row w _ _ (l.foldl addF newF) by rw [GM.out]; exact row_set HR.out (by rw [HS.out]; omega) _ _ _ (by rw [HS.out]; omega), B5.out.setCell (p := ⟨w.heap.size, 0, none⟩) (Nat.le_refl _) _⟩
end Ytjanicngedkhnaa
end Go.Proofs
