/- What is found in an object: itself, its shape, its references. -/
import Derived.Test.YteeghjhkfaeflaaG22
namespace Go.Proofs
namespace Yteeghjhkfaeflaa
open Go.RowKit

theorem itself41 (v : Value) (x : Int) (w : World) :
    Calls Try.prog 41 #[v, .int .i64 x] w fun e w' => ∃ u, e = .returned (.tuple #[u, .int .i64 0]) ∧ XAt w' u 1 (ic [x]) ∧ Below w.heap.size w w' := by
  go_enter Try.func41, Try.ntmps41
  go_wp2
  refine bodyPost_ret (v := .tuple #[.slice (some ⟨w.heap.size, 0, none⟩) 1 1, .int .i64 0]) (by simp [results, Try.f41, go_sem]) rfl ⟨_, rfl, ⟨_, _, rfl, fun _ => ⟨w.heap.size, 0, rfl, fun j u hj => ?_⟩⟩, alloc_below w _⟩
  rw [cell_of_row _ _ _ _ _ _ (heap_alloc_new w _), Nat.zero_add]
  simpa [ic] using hj
/-- the shape of an object, as a pair -/
def shpL (ws : List Int) (x : Int) : List (Int × Int) := [((objF ws x).1, (objF ws x).2.1)]
theorem shape43 (v : Value) (ws : List Int) (x : Int) (w : World) (h : Ar w v ws) :
    Calls Try.prog 43 #[v, .int .i64 x] w fun e w' => ∃ u, e = .returned (.tuple #[u, .int .i64 (objF ws x).2.2]) ∧ XAt w' u (shpL ws x).length (pc (shpL ws x)) ∧ Below w.heap.size w w' := by
  have S := Lib.hid (shape15 v ws x w h)
  unfold shpL
  generalize objF ws x = o at *
  obtain ⟨P, R, E⟩ := o
  dsimp only at *
  go_enter Try.func43, Try.ntmps43
  go_wp2_with (go_at_call 63; refine S.out.mono ?_; rintro e w1 ⟨rfl, hb1⟩; have HB := Lib.hid hb1; clear hb1)
  have hb2 := alloc_below w1 (.cells #[.int .i64 P, .int .i64 R] 51)
  have hz2 : (w1.alloc (.cells #[.int .i64 P, .int .i64 R] 51)).heap.size = w1.heap.size + 1 := by simp
  generalize w1.alloc (.cells #[.int .i64 P, .int .i64 R] 51) = w2 at *
  refine bodyPost_ret (v := .tuple #[.slice (some ⟨w2.heap.size, 0, none⟩) 1 1, .int .i64 E]) (by simp [results, Try.f43, go_sem, hz2]) rfl ⟨_, rfl, ⟨_, _, rfl, fun _ => ⟨w2.heap.size, 0, rfl, fun j u hj => ?_⟩⟩, below_end (below_end HB.out hb2) (alloc_below w2 _)⟩
  rw [cell_of_row _ _ _ _ _ _ (heap_alloc_new w2 _), Nat.zero_add]
  simpa [pc] using hj
theorem IAns.xat {W : World} {R : List Int × Int} {e : Ending} {w' : World} (h : IAns W R e w') : ∃ u, e = .returned (.tuple #[u, .int .i64 R.2]) ∧ XAt w' u R.1.length (ic R.1) ∧ Below W.heap.size W w' := by
  obtain ⟨u, h1, h2, h3⟩ := h
  exact ⟨u, h1, XAt.of_own h2, h3⟩
theorem IAns.own2 {W : World} {R : List Int × Int} {e : Ending} {w' : World} (h : IAns W R e w') : ∃ v, e = .returned (.tuple #[v, .int .i64 R.2]) ∧ Hid (IAt w' v R.1) ∧ Below W.heap.size W w' := by
  obtain ⟨v, h1, h2, h3⟩ := h
  exact ⟨v, h1, Lib.hid (IAt.of_own h2), h3⟩
/-- the references of an object -/
def refF (ws : List Int) (a : Int) : List (Int × Int) × Int :=
  if firE (sltF ws a).2 (ptrsF ws a).2 = 0 then ((sltF ws a).1.zip (ptrsF ws a).1, 0) else ([], firE (sltF ws a).2 (ptrsF ws a).2)
theorem push_pair {ops : Array Oper} {rest : List Oper} {o : Oper} {a : Act} {Q : Exit → Act → World → Prop} {W W0 : World} {C : Nat} {w : World} {v : Value} {zs : List (Int × Int)} (hown : W.ownsRow C 57 2 v zs.length (pc zs)) (hC : C ≤ W.heap.size) (hB : Below w.heap.size w W) (hwC : w.heap.size ≤ C) (z : Int × Int) (hgd : o.guard = none) (s x : Operand)
    (ho : o.op = .call { callee := .builtin .append, args := #[s, x], argTypes := #[39, 39] }) (hs : a.eval s = v) (H : Nat) (hx : a.eval x = .slice (some ⟨H, 0, none⟩) 1 1) (hH : H = W.heap.size)
    (hW : W0 = W.alloc (.cells #[.int .i64 z.1, .int .i64 z.2] 57)) (hl : zs.length + 1 ≤ 1000000)
    (h : ∀ v' W', W'.ownsRow C 57 2 v' (zs ++ [z]).length (pc (zs ++ [z])) → Below w.heap.size w W' → W.heap.size ≤ W'.heap.size → wpList Try.prog ops Q rest (a.put o.dst v') W') : wpList Try.prog ops Q (o :: rest) a W0 := by
  subst hW
  subst hH
  obtain ⟨i0, hi, hz0, hz1, hz2⟩ := info_parts info57
  refine wpList_append_own _ hgd s x 39 ho C 57 i0 _ 2 16 Try.underlying39 hi hz0 hz1 hz2 rfl (by decide) v zs.length (pc zs) hs (hown.alloc _) ⟨W.heap.size, 0, none⟩ 1 1 [.int .i64 z.1, .int .i64 z.2] hx rfl ?_ (by simp [Value.oneCell']) ?_ ?_ ?_ ?_
  · intro j u hj
    have e : (⟨W.heap.size, 0, none⟩ : Addr).add j = ⟨W.heap.size, j, none⟩ := by unfold Addr.add; split <;> simp_all
    rw [e, cell_of_row _ _ _ _ _ _ (heap_alloc_new W _)]
    simpa using hj
  · unfold maxLen; omega
  · omega
  · simp; omega
  · intro v' W' h1 h2 _
    refine h v' W' ?_ ((hB.alloc hB.size _).grown h2 (by have := hB.size; simp; omega) (fun k hk => Nat.le_trans hwC (hown.lt k hk).1)) (by have := h2.size; simp at this; omega)
    rw [pc_append, List.length_append, List.length_singleton]
    exact h1
theorem slt_ptrs (ws : List Int) (a : Int) (h : firE (sltF ws a).2 (ptrsF ws a).2 = 0) : (sltF ws a).2 = 0 ∧ (ptrsF ws a).2 = 0 ∧ (sltF ws a).1.length = (ptrsF ws a).1.length ∧ (sltF ws a).1.length ≤ 63 := by
  have h1 : (sltF ws a).2 = 0 := by
    unfold firE at h; split at h
    · assumption
    · exact h
  have h2 : (ptrsF ws a).2 = 0 := by unfold firE at h; rw [if_pos h1] at h; exact h
  refine ⟨h1, h2, ?_, slt_len ws a⟩
  rcases obj_cases ws a with ⟨E, hE, e⟩ | ⟨k, P, R, rfl, ho⟩
  · unfold sltF at h1; rw [e, if_neg hE] at h1; exact absurd h1 hE
  · have hp : (part ws (k + 1) P).length = P := part_length (by have := ho.fit; omega)
    unfold sltF ptrsF at *
    rw [ho.is] at *
    simp only [↓reduceIte, Int.toNat_natCast] at *
    unfold adrsF at *
    dsimp only at *
    rw [upL_length]
    split
    · exact hp.symm
    · rename_i hh; rw [if_neg hh] at h2; cases h2
set_option maxRecDepth 100000 in
set_option maxHeartbeats 1000000 in
theorem refs47 (v : Value) (ws : List Int) (a : Int) (w : World) (h : Ar w v ws) :
    Calls Try.prog 47 #[v, .int .i64 a] w fun e w' => ∃ u, e = .returned (.tuple #[u, .int .i64 (refF ws a).2]) ∧ XAt w' u (refF ws a).1.length (pc (refF ws a).1) ∧ Below w.heap.size w w' := by
  have S := Lib.hid ((slots19 v ws a w h).mono fun e w' h => h.own2)
  have P := Lib.hid (fun W (hb : Below w.heap.size w W) => (pointers26 v ws a W (h.below hb)).mono fun e w' h => h.own2)
  have hz := slt_ptrs ws a
  unfold refF
  generalize sltF ws a = s at *
  generalize ptrsF ws a = p at *
  obtain ⟨sl, se⟩ := s
  obtain ⟨pl, pe⟩ := p
  dsimp only at *
  obtain ⟨ev, hev⟩ : ∃ ev, firE se pe = ev := ⟨_, rfl⟩
  rw [hev] at hz ⊢
  have HEV := Lib.hid hev
  clear hev h
  by_cases h0 : ev = 0
  rotate_left
  · rw [if_neg h0]
    have q : (ev != 0) = true := by simpa using h0
    clear h0 hz
    go_enter Try.func47, Try.ntmps47
    go_wp2_with (first
      | (go_at_call 44; refine S.out.mono ?_; rintro e w1 ⟨u1, rfl, x1, hb1⟩; have HB1 := Lib.hid hb1; clear hb1 x1)
      | (go_at_call 67; refine (P.out _ HB1.out).mono ?_; rintro e w2 ⟨u2, rfl, x2, hb2⟩; have HB2 := Lib.hid (below_end HB1.out hb2); clear hb2 x2; have orC := Lib.hid (or40_any w2.heap.size se pe (w2.alloc (.cells #[.int .i64 se, .int .i64 pe] 26)) (heap_alloc_new _ _)); rw [show (if se = 0 then pe else se) = ev from HEV.out] at orC)
      | (go_at_call 61; refine orC.out.mono ?_; rintro e w3 ⟨rfl, rfl⟩))
    exact bodyPost_ret (v := .tuple #[.slice none 0 0, .int .i64 ev]) (by simp [results, Try.f47, go_sem]) rfl ⟨_, rfl, ⟨none, 0, rfl, fun h => by simp at h⟩, below_end HB2.out (alloc_below _ _)⟩
  · subst h0
    rw [if_pos rfl]
    obtain ⟨-, -, hle, hl63⟩ := hz rfl
    have HLE := Lib.hid hle
    clear hz hle
    go_enter Try.func47, Try.ntmps47
    go_upto_region 6 with (first
      | (go_at_call 44; refine S.out.mono ?_; rintro e w1 ⟨u1, rfl, x1, hb1⟩; have HB1 := Lib.hid hb1; have X1 := Lib.hid x1.out; clear hb1 x1)
      | (go_at_call 67; refine (P.out _ HB1.out).mono ?_; rintro e w2 ⟨u2, rfl, x2, hb2⟩; have X2 := Lib.hid x2.out; have X1b := Lib.hid (X1.out.below hb2); have HB2 := Lib.hid (below_end HB1.out hb2); clear hb2 x2; have orC := Lib.hid (or40_any w2.heap.size se pe (w2.alloc (.cells #[.int .i64 se, .int .i64 pe] 26)) (heap_alloc_new _ _)); rw [show (if se = 0 then pe else se) = 0 from HEV.out] at orC)
      | (go_at_call 61; refine orC.out.mono ?_; rintro e w3 ⟨rfl, rfl⟩))
    have hb3 := alloc_below w2 (.cells #[.int .i64 se, .int .i64 pe] 26)
    have Y1 := Lib.hid (X1b.out.below hb3)
    have Y2 := Lib.hid (X2.out.below hb3)
    have HB3 := Lib.hid (below_end HB2.out hb3)
    clear hb3 X1 X2 X1b HB1 HB2 orC
    generalize w2.alloc (.cells #[.int .i64 se, .int .i64 pe] 26) = W2 at *
    obtain ⟨A1, c1, rfl, ha1⟩ := Y1.out
    obtain ⟨A2, c2, rfl, ha2⟩ := Y2.out
    have HA1 := Lib.hid ha1
    have HA2 := Lib.hid ha2
    clear ha1 ha2 Y1 Y2
    obtain ⟨m, hm⟩ : ∃ m, sl.length = m := ⟨_, rfl⟩
    have hm2 : pl.length = m := by rw [← hm]; exact HLE.out.symm
    rw [hm, hm2]
    have HM := Lib.hid (And.intro hm hm2)
    rw [hm] at HA1 hl63
    rw [hm2] at HA2
    clear hm hm2
    go_wp2
    go_loopw [11, 35] (fun v i wr => ∃ j : Nat, j ≤ m ∧ i = .int .i64 j ∧ Hid (wr.ownsRow W2.heap.size 57 2 v ((sl.zip pl).take j).length (pc ((sl.zip pl).take j))) ∧ Hid (Below W2.heap.size W2 wr)) (fun _ i _ => m - (intOf i).toNat)
    case atStart => exact ⟨0, by omega, rfl, Lib.hid (World.ownsRow_nil _ _ _ _), Lib.hid (Below.refl _ _)⟩
    case round =>
      obtain ⟨j, hj, rfl, hown, hB⟩ := hrel
      obtain ⟨hm, hm2⟩ := HM.out
      have hL : ((sl.zip pl).take j).length = j := by rw [List.length_take, List.length_zip]; omega
      by_cases hlt : j < m
      · have hlt' : (j : Int) < (m : Int) := by omega
        obtain ⟨b1, o1, rfl, ca⟩ := HA1.out (by omega)
        obtain ⟨b2, o2, rfl, cb⟩ := HA2.out (by omega)
        have ca' := keep_cell hB.out (ca j _ (ic_get sl j (by omega)))
        have cb' := keep_cell hB.out (cb j _ (ic_get pl j (by omega)))
        have ad1 : (⟨b1, o1, none⟩ : Addr).add j = ⟨b1, o1 + j, none⟩ := by unfold Addr.add; split <;> simp_all
        have ad2 : (⟨b2, o2, none⟩ : Addr).add j = ⟨b2, o2 + j, none⟩ := by unfold Addr.add; split <;> simp_all
        have E := Lib.hid (show (sl.zip pl).take (j + 1) = (sl.zip pl).take j ++ [(sl.getD j 0, pl.getD j 0)] by
          rw [List.take_add_one, List.getElem?_eq_getElem (by rw [List.length_zip]; omega)]
          simp [List.getD_eq_getElem?_getD, List.getElem?_eq_getElem (show j < sl.length by omega), List.getElem?_eq_getElem (show j < pl.length by omega)])
        generalize sl.getD j 0 = y at *
        generalize pl.getD j 0 = z at *
        clear hm hm2
        go_wp2_with (at_builtin; refine push_pair hown.out hB.out.size hB.out (Nat.le_refl _) (y, z) rfl _ _ rfl rfl wr.heap.size rfl rfl rfl (by omega) ?_; intro v5 W5 ho5 hb5 hs5)
        rw [← E.out] at ho5
        refine ⟨⟨j + 1, by omega, by simp, Lib.hid ho5, Lib.hid hb5⟩, ?_⟩
        show m - ((j : Int) + 1).toNat < m - ((j : Int)).toNat
        omega
      · have ek : j = m := by omega
        have ht : (sl.zip pl).take j = sl.zip pl := List.take_of_length_le (by rw [List.length_zip]; omega)
        rw [ht] at hown
        have hlt' : ¬ (j : Int) < (m : Int) := by omega
        clear ht hL ek hm hm2
        obtain ⟨A', c', rfl⟩ := own_form hown.out
        go_wp2
        exact bodyPost_ret (v := .tuple #[.slice A' (sl.zip pl).length c', .int .i64 0]) (by simp [results, Try.f47, go_sem]) rfl ⟨_, rfl, by have := XAt.of_own hown.out; simpa only [List.length_zip] using this, below_end HB3.out hB.out⟩
end Yteeghjhkfaeflaa
end Go.Proofs
