/- Parse, the reference's: the parts. -/
import Derived.Test.YtoebnjciioiccaaDoorStr
import Derived.Test.YtoebnjciioiccaaDoorSums
import Derived.Test.YtoebnjciioiccaaDoorCtV
import Derived.Test.YtoebnjciioiccaaDoorCtT
namespace Go.Proofs
namespace YtoebnjciioiccaaDoor
namespace Ct
open Go.RowKit Go.Great

theorem push_str {ops : Array Oper} {rest : List Oper} {o : Oper} {a : Act} {Q : Exit → Act → World → Prop} {W W0 w : World} {B : Nat} {v : Value} {l : List (List UInt8)} (hown : SRow B W v l) (hB : Below B w W) (t : ByteArray) (hgd : o.guard = none) (s x : Operand)
    (ho : o.op = .call { callee := .builtin .append, args := #[s, x], argTypes := #[49, 49] }) (hs : a.eval s = v) (H : Nat) (hx : a.eval x = .slice (some ⟨H, 0, none⟩) 1 1) (hH : H = W.heap.size)
    (hW : W0 = W.alloc (.cells #[.string t] 9)) (hBs : B ≤ w.heap.size) (hl : l.length + 1 ≤ 1000000)
    (h : ∀ v' W', SRow B W' v' (l ++ [t.data.toList]) → Below B w W' → wpList Tryd.prog ops Q rest (a.put o.dst v') W') : wpList Tryd.prog ops Q (o :: rest) a W0 := by
  subst hW
  subst hH
  obtain ⟨i0, hi, hz0, hz1, hz2⟩ := info_parts info9
  have hBW : B ≤ W.heap.size := Nat.le_trans hBs hB.size
  refine wpList_append_own _ hgd s x 49 ho B 9 i0 (.string ⟨#[]⟩) 1 16 Tryd.underlying49 hi hz0 hz1 hz2 rfl (by decide) v l.length (sc l) hs (hown.alloc _) ⟨W.heap.size, 0, none⟩ 1 1 [.string t] hx rfl ?_ ?_ ?_ ?_ ?_ ?_
  · intro j u hj
    have e : (⟨W.heap.size, 0, none⟩ : Addr).add j = ⟨W.heap.size, j, none⟩ := by unfold Addr.add; split <;> simp_all
    rw [e, cell_of_row _ _ _ _ _ _ (heap_alloc_new W _)]
    simpa using hj
  · simp [Value.oneCell']
  · unfold maxLen; omega
  · omega
  · simp; omega
  · intro v' W' h1 h2 _
    refine h v' W' ?_ ?_
    · unfold SRow; rw [sc_append, List.length_append, List.length_singleton]
      have e : sc [t.data.toList] = [.string t] := by simp [sc]
      rw [e]; exact h1
    · exact (hB.alloc hBW _).grown h2 (by simp; omega) (fun k hk => (hown.lt k hk).1)
theorem own_form9 {W : World} {B : Nat} {v : Value} {l : List (List UInt8)} (h : SRow B W v l) : ∃ A cap, v = .slice A l.length cap := by
  rcases h.2 with ⟨rfl, h0⟩ | ⟨gg, cap, cur, rfl, _⟩
  · rw [h0]; exact ⟨none, 0, rfl⟩
  · exact ⟨_, cap, rfl⟩
/-- what the loop over the bytes keeps -/
structure Cut (L : List UInt8) (i f : Nat) (ps : List (List UInt8)) : Prop where
  le : f ≤ i
  parts : spl L = ps ++ spl (L.drop f)
  clean : (32 : UInt8) ∉ (L.drop f).take (i - f)
theorem Cut.init (L : List UInt8) : Cut L 0 0 [] := ⟨Nat.le_refl _, by simp, by simp⟩
theorem Cut.len {L : List UInt8} {i f : Nat} {ps : List (List UInt8)} (h : Cut L i f ps) : ps.length ≤ L.length := by
  have h1 := spl_le L
  have h2 := spl_ne (L.drop f)
  have h3 := congrArg List.length h.parts
  rw [List.length_append] at h3
  have h4 : 0 < (spl (L.drop f)).length := List.length_pos_iff.2 h2
  omega
theorem drop_split (L : List UInt8) (i f : Nat) (hf : f ≤ i) (hi : i < L.length) : L.drop f = (L.drop f).take (i - f) ++ L[i] :: L.drop (i + 1) := by
  have e : (L.drop f).drop (i - f) = L[i] :: L.drop (i + 1) := by
    rw [List.drop_drop, show f + (i - f) = i by omega, List.drop_eq_getElem_cons hi]
  rw [← e, List.take_append_drop]
theorem Cut.step {L : List UInt8} {i f : Nat} {ps : List (List UInt8)} (h : Cut L i f ps) (hi : i < L.length) (hc : L[i] ≠ 32) : Cut L (i + 1) f ps := by
  refine ⟨by have := h.le; omega, h.parts, ?_⟩
  have hl := h.le
  rw [drop_split L i f hl hi, show i + 1 - f = (i - f) + 1 by omega]
  have hlen : ((L.drop f).take (i - f)).length = i - f := by simp; omega
  rw [List.take_append, hlen, show i - f + 1 - (i - f) = 1 by omega, List.take_of_length_le (by omega)]
  simp only [List.take_succ_cons, List.take_zero, List.mem_append, List.mem_singleton]
  rintro (h1 | h1)
  · exact h.clean h1
  · exact hc h1.symm
theorem Cut.cut {L : List UInt8} {i f : Nat} {ps : List (List UInt8)} (h : Cut L i f ps) (hi : i < L.length) (hc : L[i] = 32) : Cut L (i + 1) (i + 1) (ps ++ [(L.drop f).take (i - f)]) := by
  refine ⟨Nat.le_refl _, ?_, by simp⟩
  have e := drop_split L i f h.le hi
  rw [hc] at e
  rw [h.parts]
  conv => lhs; rw [e]
  rw [spl_more _ _ h.clean, List.append_assoc]
  rfl
theorem Cut.last {L : List UInt8} {f : Nat} {ps : List (List UInt8)} (h : Cut L L.length f ps) : spl L = ps ++ [(L.drop f).take (L.length - f)] := by
  have e : (L.drop f).take (L.length - f) = L.drop f := List.take_of_length_le (by simp)
  have hc := h.clean
  rw [e] at hc ⊢
  rw [h.parts, spl_word _ hc]
theorem ext_list (s : ByteArray) (f i : Nat) : (s.extract f i).data.toList = (s.data.toList.drop f).take (i - f) := by
  simp [ByteArray.data_extract, List.extract_eq_take_drop]
def seqL (x : Nat → Int) : Nat → List Int
  | 0 => [0, 0, 0, 0, 0]
  | k + 1 => (seqL x k).set k (x k)
theorem seqL_zero (x : Nat → Int) (k : Nat) (hk : k < 5) : (cfgA (seqL x k))[k]? = some (.int .i64 0) := by
  match k, hk with
  | 0, _ | 1, _ | 2, _ | 3, _ | 4, _ => rfl
/-- the reference's answer where there are ten parts -/
def rparseE (wd : Nat → Bool) (er : Nat → Int) (x : Nat → Int) (r : Value) : Prop :=
  (¬ formOk wd er 5 ∧ r = ansV [0, 0, 0, 0, 0] 6) ∨ (formOk wd er 5 ∧ ((∀ j, j < 5 → er j = 0) ∧ good (x 1) (x 0) (x 2) (x 3) (x 4)) ∧ r = ansV (valL x 5) 0) ∨ (formOk wd er 5 ∧ ¬ ((∀ j, j < 5 → er j = 0) ∧ good (x 1) (x 0) (x 2) (x 3) (x 4)) ∧ r = ansV [0, 0, 0, 0, 0] 7)
structure RSt (w W : World) (g A : Nat) (cs : Array Value) (vals : List Int) : Prop where
  lt : w.heap.size < g ∧ g < A ∧ A < W.heap.size
  res : W.heap[w.heap.size]? = some (.cells #[.int .i64 0, .int .i64 0, .int .i64 0, .int .i64 0, .int .i64 0] 23 (0, 0))
  parts : W.heap[g]? = some (.cells cs 9 (0, 0))
  arr : W.heap[A]? = some (.cells (cfgA vals) 59 (0, 0))
  below : Below w.heap.size w W
theorem RSt.next {w W W' : World} {g A : Nat} {cs : Array Value} {vals : List Int} (h : RSt w W g A cs vals) (hb : Below W.heap.size W W') : RSt w W' g A cs vals := by
  have h1 := h.lt
  have h2 := hb.size
  exact ⟨⟨h1.1, h1.2.1, by omega⟩, (hb.block _ (by omega)).trans h.res, (hb.block _ (by omega)).trans h.parts, (hb.block _ (by omega)).trans h.arr, h.below.trans (hb.mono h.below.size)⟩
theorem RSt.put {w W : World} {g A i : Nat} {cs : Array Value} {vals : List Int} {z : Int} (h : RSt w W g A cs vals) : RSt w (W.setCell ⟨A, i, none⟩ (.int .i64 z)) g A cs (vals.set i z) := by
  have h1 := h.lt
  have hB : Below A W (W.setCell ⟨A, i, none⟩ (.int .i64 z)) := (Below.refl A W).setCell (Nat.le_refl _) _
  have hs : (W.setCell ⟨A, i, none⟩ (.int .i64 z)).heap.size = W.heap.size := by simp
  refine ⟨⟨h1.1, h1.2.1, by omega⟩, (hB.block _ (by omega)).trans h.res, (hB.block _ (by omega)).trans h.parts, ?_, h.below.trans (hB.mono (by omega))⟩
  rw [heap_setCell_same W A i _ 59 _ h.arr]
  simp [cfgA, List.map_set]
theorem rpart_cell {w W : World} {g A : Nat} {cs : Array Value} {vals : List Int} {q : Nat → ByteArray} (h : RSt w W g A cs vals) (hcs : ∀ j, j < 10 → cs[j]? = some (.string (q j))) (j : Nat) (hj : j < 10) : W.cell? ⟨g, j, none⟩ = some (.string (q j)) := by
  have := cell_of_row _ _ j _ _ _ h.parts
  rw [this]; exact hcs j hj
theorem oall_false {er : Nat → Int} {k : Nat} (h : ∀ j, j < k → er j = 0) : (!(er k == 0)) = false ↔ ∀ j, j < k + 1 → er j = 0 := by
  rw [← allz_true h]; simp
theorem oall_true {er : Nat → Int} {k : Nat} (h : ¬ ∀ j, j < k → er j = 0) : true = false ↔ ∀ j, j < k + 1 → er j = 0 :=
  ⟨fun e => (by cases e), fun e => absurd (fun j hj => e j (by omega)) h⟩
set_option maxRecDepth 100000 in
set_option maxHeartbeats 4000000 in
theorem rparse35 (s : ByteArray) (w : World) (hs : s.size ≤ 1000) (q : Nat → ByteArray) (hq : ∀ j, (q j).data.toList = (spl s.data.toList).getD j []) (x er : Nat → Int) (wd : Nat → Bool)
    (X : Hid (∀ k : Nat, k < 5 → ∀ W : World, Calls Tryd.prog 48 #[.string (q (2 * k + 1)), .int .i64 0, .int .i64 1000000] W fun e w' => e = .returned (.tuple #[.int .i64 (x k), .int .i64 (er k)]) ∧ W = w'))
    (WD : Hid (∀ k : Nat, k < 5 → ((q (2 * k)).toList == (wName k).toList) = wd k)) :
    Calls Tryd.prog 35 #[.string s] w fun e w' => ∃ r, e = .returned r ∧ (((spl s.data.toList).length ≠ 10 ∧ r = ansV [0, 0, 0, 0, 0] 6) ∨ ((spl s.data.toList).length = 10 ∧ rparseE wd er x r)) ∧ Below w.heap.size w w' := by
  have HQ := Lib.hid hq
  clear hq
  have hz : s.data.toList.length = s.size := by simp
  have HZ := Lib.hid hz
  clear hz
  go_enter Tryd.func35, Tryd.ntmps35
  go_wp2
  have B0 := Lib.hid (Below.refl (w.heap.size + 1) (w.alloc (.cells #[.int .i64 0, .int .i64 0, .int .i64 0, .int .i64 0, .int .i64 0] 23)))
  go_loopw [4, 5, 6] (fun v fv iv wr => ∃ (i f : Nat) (ps : List (List UInt8)), i ≤ s.size + 1 ∧ f ≤ i ∧ iv = .int .i64 i ∧ fv = .int .i64 f ∧ Hid (i ≤ s.size → Cut s.data.toList i f ps) ∧ Hid (s.size < i → ps = spl s.data.toList) ∧ Hid (SRow (w.heap.size + 1) wr v ps) ∧ Hid (Below (w.heap.size + 1) (w.alloc (.cells #[.int .i64 0, .int .i64 0, .int .i64 0, .int .i64 0, .int .i64 0] 23)) wr)) (fun _ _ i _ => s.size + 1 - (intOf i).toNat)
  case atStart => exact ⟨0, 0, [], by omega, by omega, rfl, rfl, Lib.hid fun _ => Cut.init _, Lib.hid fun h => absurd h (by omega), Lib.hid (SRow.nil _ _), B0⟩
  case round =>
    obtain ⟨i, f, ps, hi, hf, rfl, rfl, HC, HE, HR, HB⟩ := hrel
    have wz : IntKind.i64.wrap ((i : Int) + 1) = ((i + 1 : Nat) : Int) := by rw [IntWalk.i64_in _ (by omega)]; omega
    have nf : ((i + 1 : Nat) : Int) = (i : Int) + 1 := by omega
    rw [nf] at wz
    clear nf
    by_cases h1 : i < s.size
    · have hl := (HC.out (by omega)).len
      rw [HZ.out] at hl
      have C0 := Lib.hid (HC.out (by omega))
      clear HC HE
      by_cases h32 : (s[i].toNat : Int) = 32
      · have e32 : s.data.toList[i]'(by rw [HZ.out]; exact h1) = 32 := by
          apply UInt8.toNat_inj.1
          show s[i].toNat = 32
          omega
        have q32 : ((s[i].toNat : Int) == 32) = true := beq_iff_eq.2 h32
        have C1 := Lib.hid (C0.out.cut (by rw [HZ.out]; exact h1) e32)
        rw [← ext_list] at C1
        clear h32 e32
        go_wp2_with (at_builtin; refine push_str HR.out HB.out (s.extract f i) rfl (.tmp 29) (.tmp 34) rfl rfl _ rfl rfl rfl (by simp) (by omega) ?_; intro v1 W1 hr1 hB1)
        go_roundw
        case rel => exact ⟨i + 1, i + 1, _, by omega, by omega, by go_num, by go_num, Lib.hid fun _ => C1.out, Lib.hid fun h => absurd h (by omega), Lib.hid hr1, Lib.hid hB1⟩
        case measure => simp [intOf] <;> omega
      · have e32 : s.data.toList[i]'(by rw [HZ.out]; exact h1) ≠ 32 := fun e => h32 (by
          have e2 : s[i] = 32 := e
          rw [e2]; rfl)
        have q32 : ((s[i].toNat : Int) == 32) = false := beq_eq_false_iff_ne.2 h32
        have C1 := Lib.hid (C0.out.step (by rw [HZ.out]; exact h1) e32)
        clear h32 e32
        go_wp2
        go_roundw
        case rel => exact ⟨i + 1, f, ps, by omega, by omega, by go_num, rfl, Lib.hid fun _ => C1.out, Lib.hid fun h => absurd h (by omega), HR, HB⟩
        case measure => simp [intOf] <;> omega
    · by_cases h2 : i = s.size
      · subst h2
        have hl := (HC.out (by omega)).len
        rw [HZ.out] at hl
        have C1 := Lib.hid (show spl s.data.toList = ps ++ [(s.extract f s.size).data.toList] by
          have := HC.out (Nat.le_refl _)
          rw [← HZ.out] at this
          rw [this.last, ext_list, HZ.out])
        clear HC HE
        go_wp2_with (at_builtin; refine push_str HR.out HB.out (s.extract f s.size) rfl (.tmp 29) (.tmp 34) rfl rfl _ rfl rfl rfl (by simp) (by omega) ?_; intro v1 W1 hr1 hB1)
        go_roundw
        case rel => exact ⟨s.size + 1, s.size + 1, _, by omega, by omega, by go_num, by go_num, Lib.hid fun h => absurd h (by omega), Lib.hid fun _ => C1.out.symm, Lib.hid hr1, Lib.hid hB1⟩
        case measure => simp [intOf] <;> omega
      · obtain rfl : i = s.size + 1 := by omega
        obtain rfl := HE.out (by omega)
        have HB' := Lib.hid (((Below.refl w.heap.size w).alloc (Nat.le_refl _) (.cells #[.int .i64 0, .int .i64 0, .int .i64 0, .int .i64 0, .int .i64 0] 23)).trans (HB.out.mono (by simp)))
        have RS := Lib.hid ((HB.out.block w.heap.size (by omega)).trans (heap_alloc_new w _))
        clear HC HE HB
        by_cases hlen : (spl s.data.toList).length = 10
        · rcases HR.out.2 with ⟨_, h0⟩ | ⟨g, cap, cs, rfl, hg, hcur, _, _, _, htake⟩
          · omega
          · have hcs : ∀ j, j < 10 → cs[j]? = some (.string (q j)) := fun j hj => by
              have e1 : (sc (spl s.data.toList))[j]? = some (.string (q j)) := by
                have hj' : j < (spl s.data.toList).length := by omega
                have e2 := HQ.out j
                rw [List.getD_eq_getElem?_getD, List.getElem?_eq_getElem hj'] at e2
                simp only [Option.getD_some] at e2
                simp [sc, List.getElem?_eq_getElem hj', ← e2]
              rw [← htake, List.getElem?_take, if_pos (by omega)] at e1
              simpa using e1
            have HL := Lib.hid hlen
            have hc10 : ((spl s.data.toList).length : Int) = 10 := by omega
            have hlg := heap_lt hcur
            have S0 := Lib.hid (show RSt w (wr.alloc (.cells #[.int .i64 0, .int .i64 0, .int .i64 0, .int .i64 0, .int .i64 0] 59)) g wr.heap.size cs [0, 0, 0, 0, 0] from
              ⟨⟨by omega, hlg, by simp⟩, (heap_alloc_old _ _ (by have := HB'.out.size; have := heap_lt RS.out; omega)).trans RS.out, (heap_alloc_old _ _ hlg).trans hcur, heap_alloc_new _ _, HB'.out.alloc HB'.out.size _⟩)
            rw [hlen]
            clear hlen hc10 HR htake RS HB' hcur hf hi
            go_wp2
            revert S0
            generalize wr.heap.size = A
            generalize wr.alloc (.cells #[.int .i64 0, .int .i64 0, .int .i64 0, .int .i64 0, .int .i64 0] 59) = w5
            intro S0
            go_loopw [8, 9] (fun b i wl => ∃ (k : Nat) (o : Bool), k ≤ 5 ∧ i = .int .i64 k ∧ b = .bool o ∧ Hid (RSt w wl g A cs (seqL x k)) ∧ Hid (formOk wd er k) ∧ Hid (o = false ↔ ∀ j, j < k → er j = 0)) (fun _ i _ => 5 - (intOf i).toNat)
            case atStart => exact ⟨0, false, by omega, rfl, rfl, S0, Lib.hid (fun j hj => absurd hj (Nat.not_lt_zero j)), Lib.hid ⟨fun _ j hj => absurd hj (Nat.not_lt_zero j), fun _ => rfl⟩⟩
            case round =>
              clear S0
              obtain ⟨k, o, hk, hi, hb, S, HF, HC⟩ := hrel
              subst hb hi
              by_cases h5 : k < 5
              · have hx : ∀ w, (Instr.index 60 wordsV (.int .i64 (k : Int))).run Tryd.prog w = .ok (.string (wName k)) w := fun w => wordsV_index k h5 w
                have hk5 : (k : Int) < 5 := by omega
                have XK := Lib.hid (X.out k h5)
                have WK := WD.out k h5
                have p0 := rpart_cell S.out hcs (2 * k) (by omega)
                have p1 := rpart_cell S.out hcs (2 * k + 1) (by omega)
                have wz0 : IntKind.i64.wrap (2 * (k : Int)) = ((2 * k : Nat) : Int) := by rw [IntWalk.i64_in _ (by omega)]; omega
                have wz1 : IntKind.i64.wrap (((2 * k : Nat) : Int) + 1) = ((2 * k + 1 : Nat) : Int) := by rw [IntWalk.i64_in _ (by omega)]; omega
                have wz2 : IntKind.i64.wrap ((k : Int) + 1) = ((k + 1 : Nat) : Int) := by rw [IntWalk.i64_in _ (by omega)]; omega
                have hm1 : ((2 * k : Nat) : Int) < 10 := by omega
                have hj1 : ((2 * k + 1 : Nat) : Int) < 10 := by omega
                revert p0 p1 XK WK wz0 wz1 hm1 hj1
                generalize 2 * k + 1 = j
                generalize 2 * k = m
                intro XK WK p0 p1 wz0 wz1 hm1 hj1
                go_upto_region 17 with (go_at_call 48; refine (XK.out _).mono ?_; rintro e w6 ⟨rfl, rfl⟩)
                have sd := Lib.hid (show wr.drew.cell? ⟨g, m, none⟩ = some (.string (q m)) ∧ Below wr.heap.size wr wr.drew from ⟨p0, (Below.refl _ _).drew⟩)
                cases hw : wd k with
                | false =>
                  rw [hw] at WK
                  have s0 := Lib.hid (show wr.cell? ⟨g, m, none⟩ = some (.string (q m)) ∧ Below wr.heap.size wr wr from ⟨p0, Below.refl _ _⟩)
                  first
                    | go_region_with (go_at_call 44; refine (words44 _).mono ?_; rintro e wa ⟨rfl, hba⟩; have sa := Lib.hid (by first | exact held1 sd.out hba | exact held1 s0.out hba); have pa := sa.out.1)
                    | skip
                  all_goals
                    have S6 := Lib.hid (S.out.next sa.out.2)
                    have S7 := Lib.hid (S6.out.next (Below.refl wa.heap.size wa).drew)
                    have S8 := Lib.hid (S7.out.next (Below.refl wa.drew.heap.size wa.drew).drew)
                    go_upto_region 18 with (fail)
                    refine wp_region_lit ?_
                    refine wpList_built _ rfl 23 [] rfl bld23 ?_
                    refine wpList_store_row rfl 23 (.tmp 2) (.tmp 69) rfl w.heap.size #[.int .i64 0, .int .i64 0, .int .i64 0, .int .i64 0, .int .i64 0] rfl rfl 23 _ (by first | exact S6.out.res | exact S7.out.res | exact S8.out.res) info23 rfl (by simp [Value.oneCell']) ?_
                    refine wpList_readTo rfl (some 3) rfl (.int .i64 6) (by simp [go_sem]; done) ?_
                    refine wpList_nil ?_
                    go_wp2
                    first
                      | exact bodyPost_ret (v := ansV [0, 0, 0, 0, 0] 6) (results_row2 rfl _ _ w.heap.size #[.int .i64 0, .int .i64 0, .int .i64 0, .int .i64 0, .int .i64 0] _ rfl rfl (run_loadVar_row _ _ _ _ _ _ _ (setRow_heap _ _ _ _ _ _ S6.out.res) Tryd.underlying23 rfl info23)) rfl ⟨_, rfl, .inr ⟨HL.out, .inl ⟨fun hf => absurd (hf k h5).1 (by rw [hw]; simp), rfl⟩⟩, below_setRow S6.out.below (Nat.le_refl _) _⟩
                      | exact bodyPost_ret (v := ansV [0, 0, 0, 0, 0] 6) (results_row2 rfl _ _ w.heap.size #[.int .i64 0, .int .i64 0, .int .i64 0, .int .i64 0, .int .i64 0] _ rfl rfl (run_loadVar_row _ _ _ _ _ _ _ (setRow_heap _ _ _ _ _ _ S7.out.res) Tryd.underlying23 rfl info23)) rfl ⟨_, rfl, .inr ⟨HL.out, .inl ⟨fun hf => absurd (hf k h5).1 (by rw [hw]; simp), rfl⟩⟩, below_setRow S7.out.below (Nat.le_refl _) _⟩
                      | exact bodyPost_ret (v := ansV [0, 0, 0, 0, 0] 6) (results_row2 rfl _ _ w.heap.size #[.int .i64 0, .int .i64 0, .int .i64 0, .int .i64 0, .int .i64 0] _ rfl rfl (run_loadVar_row _ _ _ _ _ _ _ (setRow_heap _ _ _ _ _ _ S8.out.res) Tryd.underlying23 rfl info23)) rfl ⟨_, rfl, .inr ⟨HL.out, .inl ⟨fun hf => absurd (hf k h5).1 (by rw [hw]; simp), rfl⟩⟩, below_setRow S8.out.below (Nat.le_refl _) _⟩
                | true =>
                  rw [hw] at WK
                  by_cases he : er k = 6
                  · have e6 : (er k == 6) = true := by simpa using he
                    have HE := Lib.hid he
                    clear he
                    go_region_held3 (fun W => W.cell? ⟨g, m, none⟩ = some (.string (q m)) ∧ Below wr.heap.size wr W) (first | exact sd.out | exact sa.out)
                      (first | (go_at_call 44; refine (words44 _).mono ?_; rintro e wa ⟨rfl, hba⟩; have sa := Lib.hid (held1 sd.out hba); clear hba))
                    have S6 := Lib.hid (S.out.next sa.out.2)
                    go_upto_region 18 with (fail)
                    refine wp_region_lit ?_
                    refine wpList_built _ rfl 23 [] rfl bld23 ?_
                    refine wpList_store_row rfl 23 (.tmp 2) (.tmp 69) rfl w.heap.size #[.int .i64 0, .int .i64 0, .int .i64 0, .int .i64 0, .int .i64 0] rfl rfl 23 _ S6.out.res info23 rfl (by simp [Value.oneCell']) ?_
                    refine wpList_readTo rfl (some 3) rfl (.int .i64 6) (by simp [go_sem]; done) ?_
                    refine wpList_nil ?_
                    go_wp2
                    exact bodyPost_ret (v := ansV [0, 0, 0, 0, 0] 6) (results_row2 rfl _ _ w.heap.size #[.int .i64 0, .int .i64 0, .int .i64 0, .int .i64 0, .int .i64 0] _ rfl rfl (run_loadVar_row _ _ _ _ _ _ _ (setRow_heap _ _ _ _ _ _ S6.out.res) Tryd.underlying23 rfl info23)) rfl ⟨_, rfl, .inr ⟨HL.out, .inl ⟨fun hf => (hf k h5).2 HE.out, rfl⟩⟩, below_setRow S6.out.below (Nat.le_refl _) _⟩
                  · have e6 : (er k == 6) = false := by simpa using he
                    have HE := Lib.hid he
                    clear he
                    cases o with
                    | false =>
                      go_region_held3 (fun W => W.cell? ⟨g, m, none⟩ = some (.string (q m)) ∧ Below wr.heap.size wr W) (first | exact sd.out | exact sa.out)
                        (first | (go_at_call 44; refine (words44 _).mono ?_; rintro e wa ⟨rfl, hba⟩; have sa := Lib.hid (held1 sd.out hba); clear hba))
                      have S6 := Lib.hid (S.out.next sa.out.2)
                      have c1 : wa.cell? ⟨A, k, none⟩ = some (.int .i64 0) := by rw [cell_of_row _ _ k _ _ _ S6.out.arr]; exact seqL_zero x k h5
                      have f1 := frozen_of_row _ _ k _ _ S6.out.arr
                      have hlt7 := block_lt_of_cell c1
                      clear hx XK p0 p1 sd sa
                      go_wp2
                      go_roundw
                      case rel =>
                        by_cases hz : er k = 0
                        · exact ⟨_, .bool false, .int .i64 ((k + 1 : Nat) : Int), ⟨k + 1, by omega, rfl, .inl ⟨rfl, Lib.hid S6.out.put, Lib.hid (formOk_succ HF.out hw HE.out), Lib.hid ((oall_false (HC.out.1 (by first | trivial | rfl))).1 (by simp [hz]))⟩⟩, rfl, by simp [hz], by go_num⟩
                        · exact ⟨_, .bool true, .int .i64 ((k + 1 : Nat) : Int), ⟨k + 1, by omega, rfl, .inr ⟨rfl, Lib.hid S6.out.put, Lib.hid (formOk_succ HF.out hw HE.out), Lib.hid ⟨k, by omega, hz⟩⟩⟩, rfl, by simp [hz], by go_num⟩
                      case measure => simp [intOf] <;> omega
                    | true =>
                      go_region_held3 (fun W => W.cell? ⟨g, m, none⟩ = some (.string (q m)) ∧ Below wr.heap.size wr W) (first | exact sd.out | exact sa.out)
                        (first | (go_at_call 44; refine (words44 _).mono ?_; rintro e wa ⟨rfl, hba⟩; have sa := Lib.hid (held1 sd.out hba); clear hba))
                      have S6 := Lib.hid (S.out.next sa.out.2)
                      have c1 : wa.cell? ⟨A, k, none⟩ = some (.int .i64 0) := by rw [cell_of_row _ _ k _ _ _ S6.out.arr]; exact seqL_zero x k h5
                      have f1 := frozen_of_row _ _ k _ _ S6.out.arr
                      have hlt7 := block_lt_of_cell c1
                      clear hx XK p0 p1 sd sa
                      go_wp2
                      go_roundw
                      case rel =>
                        obtain ⟨y, hy, hne⟩ : ∃ y, y < k ∧ ¬ er y = 0 := Classical.byContradiction fun h => by
                          have := HC.out.2 (fun j hj => Classical.byContradiction fun h2 => h ⟨j, hj, h2⟩)
                          cases this
                        exact ⟨_, .bool true, .int .i64 ((k + 1 : Nat) : Int), ⟨k + 1, by omega, rfl, .inr ⟨rfl, Lib.hid S6.out.put, Lib.hid (formOk_succ HF.out hw HE.out), Lib.hid ⟨y, by omega, hne⟩⟩⟩, rfl, rfl, by go_num⟩
                      case measure => simp [intOf] <;> omega
              · obtain rfl : k = 5 := by omega
                clear hk h5
                have R5 := Lib.hid (show wr.heap[A]? = some (.cells #[.int .i64 (x 0), .int .i64 (x 1), .int .i64 (x 2), .int .i64 (x 3), .int .i64 (x 4)] 59 (0, 0)) from S.out.arr)
                have d0 : wr.cell? ⟨A, 0, none⟩ = some (.int .i64 (x 0)) := cell_of_row _ _ 0 _ _ _ R5.out
                have d1 : wr.cell? ⟨A, 1, none⟩ = some (.int .i64 (x 1)) := cell_of_row _ _ 1 _ _ _ R5.out
                have d2 : wr.cell? ⟨A, 2, none⟩ = some (.int .i64 (x 2)) := cell_of_row _ _ 2 _ _ _ R5.out
                have d3 : wr.cell? ⟨A, 3, none⟩ = some (.int .i64 (x 3)) := cell_of_row _ _ 3 _ _ _ R5.out
                have d4 : wr.cell? ⟨A, 4, none⟩ = some (.int .i64 (x 4)) := cell_of_row _ _ 4 _ _ _ R5.out
                have S6 := Lib.hid (S.out.next ((Below.refl wr.heap.size wr).alloc (Nat.le_refl _) (.cells #[.int .i64 (x 1), .int .i64 (x 0), .int .i64 (x 2), .int .i64 (x 3), .int .i64 (x 4)] 23)))
                cases o with
                | true =>
                  have HC' := Lib.hid (show ¬ ∀ j, j < 5 → er j = 0 from fun h => by have := HC.out.2 h; cases this)
                  clear HC
                  go_upto_region 23 with (fail)
                  refine wp_region_lit ?_
                  refine wpList_built _ rfl 23 [] rfl bld23 ?_
                  refine wpList_store_row rfl 23 (.tmp 2) (.tmp 95) rfl w.heap.size #[.int .i64 0, .int .i64 0, .int .i64 0, .int .i64 0, .int .i64 0] rfl rfl 23 _ S6.out.res info23 rfl (by simp [Value.oneCell']) ?_
                  refine wpList_readTo rfl (some 3) rfl (.int .i64 7) (by simp [go_sem]; done) ?_
                  refine wpList_nil ?_
                  go_wp2
                  exact bodyPost_ret (v := ansV [0, 0, 0, 0, 0] 7) (results_row2 rfl _ _ w.heap.size #[.int .i64 0, .int .i64 0, .int .i64 0, .int .i64 0, .int .i64 0] _ rfl rfl (run_loadVar_row _ _ _ _ _ _ _ (setRow_heap _ _ _ _ _ _ S6.out.res) Tryd.underlying23 rfl info23)) rfl ⟨_, rfl, .inr ⟨HL.out, .inr (.inr ⟨HF.out, fun h => HC'.out h.1, rfl⟩)⟩, below_setRow S6.out.below (Nat.le_refl _) _⟩
                | false =>
                  have HC' := Lib.hid (HC.out.1 rfl)
                  clear HC
                  by_cases hgd : good (x 1) (x 0) (x 2) (x 3) (x 4)
                  · have H14 := Lib.hid (chk14_yes _ _ _ _ _ hgd)
                    have HG := Lib.hid hgd
                    clear hgd
                    have ra := Lib.hid (heap_alloc_new wr (.cells #[.int .i64 (x 1), .int .i64 (x 0), .int .i64 (x 2), .int .i64 (x 3), .int .i64 (x 4)] 23))
                    go_upto_region 24 with (go_at_call 14; refine (H14.out _).mono ?_; rintro e w9 ⟨rfl, hb9⟩; have S9 := Lib.hid (S6.out.next hb9); have r9 := Lib.hid ((hb9.block wr.heap.size (by simp)).trans ra.out); clear hb9)
                    refine wp_region_lit ?_
                    refine wpList_load_row rfl 23 (.tmp 12) rfl wr.heap.size rfl 23 _ (0, 0) _ r9.out Tryd.underlying23 rfl info23 ?_
                    refine wpList_store_row rfl 23 (.tmp 2) (.tmp 96) rfl w.heap.size #[.int .i64 (x 1), .int .i64 (x 0), .int .i64 (x 2), .int .i64 (x 3), .int .i64 (x 4)] rfl rfl 23 _ S9.out.res info23 rfl (by simp [Value.oneCell']) ?_
                    refine wpList_readTo rfl (some 3) rfl (.int .i64 0) (by simp [go_sem]; done) ?_
                    refine wpList_nil ?_
                    go_wp2
                    exact bodyPost_ret (v := ansV (valL x 5) 0) (results_row2 rfl _ _ w.heap.size #[.int .i64 (x 1), .int .i64 (x 0), .int .i64 (x 2), .int .i64 (x 3), .int .i64 (x 4)] _ rfl rfl (run_loadVar_row _ _ _ _ _ _ _ (setRow_heap _ _ _ _ _ _ S9.out.res) Tryd.underlying23 rfl info23)) rfl ⟨_, rfl, .inr ⟨HL.out, .inr (.inl ⟨HF.out, ⟨HC'.out, HG.out⟩, rfl⟩)⟩, below_setRow S9.out.below (Nat.le_refl _) _⟩
                  · have H14 := Lib.hid (chk14_no _ _ _ _ _ hgd)
                    have HG := Lib.hid hgd
                    clear hgd
                    go_upto_region 23 with (go_at_call 14; refine (H14.out _).mono ?_; rintro e w9 ⟨rfl, hb9⟩; have S9 := Lib.hid (S6.out.next hb9); clear hb9)
                    refine wp_region_lit ?_
                    refine wpList_built _ rfl 23 [] rfl bld23 ?_
                    refine wpList_store_row rfl 23 (.tmp 2) (.tmp 95) rfl w.heap.size #[.int .i64 0, .int .i64 0, .int .i64 0, .int .i64 0, .int .i64 0] rfl rfl 23 _ S9.out.res info23 rfl (by simp [Value.oneCell']) ?_
                    refine wpList_readTo rfl (some 3) rfl (.int .i64 7) (by simp [go_sem]; done) ?_
                    refine wpList_nil ?_
                    go_wp2
                    exact bodyPost_ret (v := ansV [0, 0, 0, 0, 0] 7) (results_row2 rfl _ _ w.heap.size #[.int .i64 0, .int .i64 0, .int .i64 0, .int .i64 0, .int .i64 0] _ rfl rfl (run_loadVar_row _ _ _ _ _ _ _ (setRow_heap _ _ _ _ _ _ S9.out.res) Tryd.underlying23 rfl info23)) rfl ⟨_, rfl, .inr ⟨HL.out, .inr (.inr ⟨HF.out, fun h => HG.out h.2, rfl⟩)⟩, below_setRow S9.out.below (Nat.le_refl _) _⟩
        · obtain ⟨A, c, rfl⟩ := own_form9 HR.out
          have HL := Lib.hid hlen
          have q10 : (((spl s.data.toList).length : Int) != 10) = true := by simp; omega
          clear hlen
          go_upto_region 10 with (fail)
          refine wp_region_lit ?_
          refine wpList_built _ rfl 23 [] rfl bld23 ?_
          refine wpList_store_row rfl 23 (.tmp 2) (.tmp 41) rfl w.heap.size #[.int .i64 0, .int .i64 0, .int .i64 0, .int .i64 0, .int .i64 0] rfl rfl 23 _ RS.out info23 rfl (by simp [Value.oneCell']) ?_
          refine wpList_readTo rfl (some 3) rfl (.int .i64 6) (by simp [go_sem]; done) ?_
          refine wpList_nil ?_
          go_wp2
          exact bodyPost_ret (v := ansV [0, 0, 0, 0, 0] 6) (results_row2 rfl _ _ w.heap.size #[.int .i64 0, .int .i64 0, .int .i64 0, .int .i64 0, .int .i64 0] _ rfl rfl (run_loadVar_row _ _ _ _ _ _ _ (setRow_heap _ _ _ _ _ _ RS.out) Tryd.underlying23 rfl info23)) rfl ⟨_, rfl, .inl ⟨HL.out, rfl⟩, below_setRow HB'.out (Nat.le_refl _) _⟩
end Ct
end YtoebnjciioiccaaDoor
end Go.Proofs
