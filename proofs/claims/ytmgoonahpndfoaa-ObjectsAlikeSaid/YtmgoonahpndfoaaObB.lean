/- Fields of an object: get, equal, write and set. -/
import Derived.Test.YtmgoonahpndfoaaObA
namespace Go.Proofs
namespace Ytmgoonahpndfoaa
open Go.RowKit

set_option maxRecDepth 100000 in
set_option maxHeartbeats 1000000 in
theorem eq67_loop (A1 : Option Addr) (c1 : Nat) (A2 : Option Addr) (c2 : Nat) (xs ys : List Int) (hlen : xs.length = ys.length) (hmax : xs.length ≤ 1000000) (w : World)
    (h1 : 0 < xs.length → ∃ b off, A1 = some ⟨b, off, none⟩ ∧ ∀ j u, (wc xs)[j]? = some u → w.cell? ⟨b, off + j, none⟩ = some u)
    (h2 : 0 < ys.length → ∃ b off, A2 = some ⟨b, off, none⟩ ∧ ∀ j u, (wc ys)[j]? = some u → w.cell? ⟨b, off + j, none⟩ = some u) :
    Calls Try.prog 67 #[.slice A1 xs.length c1, .slice A2 ys.length c2] w fun e w' => e = .returned (.bool (decide (xs = ys))) ∧ Below w.heap.size w w' := by
  have HA1 := Lib.hid h1
  have HA2 := Lib.hid h2
  clear h1 h2
  have HL := Lib.hid hlen
  have q0 : ((xs.length : Int) != (ys.length : Int)) = false := by simp; omega
  rw [← hlen]
  clear hlen
  have HQ := Lib.hid q0
  clear q0
  go_enter Try.func67, Try.ntmps67
  go_wp2
  go_loopw [13] (fun i wr => ∃ k q : Nat, k ≤ xs.length ∧ i = .int .i64 k ∧ Hid (wr = w.drewN q) ∧ Hid (xs.take k = ys.take k)) (fun i _ => xs.length - (intOf i).toNat)
  case atStart => exact ⟨0, 0, by omega, rfl, Lib.hid rfl, Lib.hid rfl⟩
  case round =>
    obtain ⟨k, q, hk, rfl, hq, H⟩ := hrel
    by_cases hlt : k < xs.length
    · obtain ⟨b1, o1, rfl, h1⟩ := HA1.out (by omega)
      obtain ⟨b2, o2, rfl, h2⟩ := HA2.out (by have := HL.out; omega)
      have hk' : k < ys.length := by rw [← HL.out]; exact hlt
      have d1 : wr.cell? ⟨b1, o1 + k, none⟩ = some (.int .u64 (xs.getD k 0)) := by rw [hq.out]; exact h1 _ _ (wc_get xs k hlt)
      have d2 : wr.cell? ⟨b2, o2 + k, none⟩ = some (.int .u64 (ys.getD k 0)) := by rw [hq.out]; exact h2 _ _ (wc_get ys k hk')
      have G1 := Lib.hid (show xs.getD k 0 = xs[k] by simp [List.getD_eq_getElem?_getD, List.getElem?_eq_getElem hlt])
      have G2 := Lib.hid (show ys.getD k 0 = ys[k] by simp [List.getD_eq_getElem?_getD, List.getElem?_eq_getElem hk'])
      have hlt' : (k : Int) < (xs.length : Int) := by omega
      clear h1 h2
      by_cases hg : xs.getD k 0 = ys.getD k 0
      · have Hn : Hid (xs.take (k + 1) = ys.take (k + 1)) := Lib.hid (by rw [List.take_add_one, List.take_add_one, H.out, List.getElem?_eq_getElem hlt, List.getElem?_eq_getElem hk', ← G1.out, ← G2.out, hg])
        have qn : (xs.getD k 0 != ys.getD k 0) = false := by simpa using hg
        clear hg
        generalize xs.getD k 0 = x at *
        generalize ys.getD k 0 = y at *
        go_wp2_with fail
        go_quiet (fail)
        go_wp2
        refine ⟨⟨k + 1, q + nq, by omega, by simp, Lib.hid (by rw [hq.out]; exact World.drewN_drewN ..), Hn⟩, ?_⟩
        show xs.length - ((k : Int) + 1).toNat < xs.length - ((k : Int)).toNat
        omega
      · have qn : (xs.getD k 0 != ys.getD k 0) = true := by simpa using hg
        have HF : Hid (decide (xs = ys) = false) := Lib.hid (by simp; intro h; subst h; exact hg rfl)
        clear hg
        generalize xs.getD k 0 = x at *
        generalize ys.getD k 0 = y at *
        go_wp2_with fail
        go_quiet (fail)
        go_wp2
        refine bodyPost_ret (v := .bool false) (by simp [results, Try.f67, go_sem]) rfl ⟨by rw [HF.out], ?_⟩
        rw [hq.out]
        exact below_drewN (below_drewN (Below.refl _ _) _) _
    · have HE : Hid (xs = ys) := Lib.hid (by have := H.out; rwa [List.take_of_length_le (by omega), List.take_of_length_le (by have := HL.out; omega)] at this)
      have ek : k = xs.length := by omega
      subst ek
      go_wp2
      refine bodyPost_ret (v := .bool true) (by simp [results, Try.f67, go_sem]) rfl ⟨by rw [HE.out]; simp, ?_⟩
      rw [hq.out]
      exact below_drewN (Below.refl _ _) _
theorem eq67_off (A1 : Option Addr) (n1 c1 : Nat) (A2 : Option Addr) (n2 c2 : Nat) (h : n1 ≠ n2) (w : World) :
    Calls Try.prog 67 #[.slice A1 n1 c1, .slice A2 n2 c2] w fun e w' => e = .returned (.bool false) ∧ Below w.heap.size w w' := by
  have q0 : ((n1 : Int) != (n2 : Int)) = true := by simp; omega
  go_enter Try.func67, Try.ntmps67
  go_wp2
  refine bodyPost_ret (v := .bool false) (by simp [results, Try.f67, go_sem]) rfl ⟨rfl, Below.refl _ _⟩
theorem eq67 (v1 v2 : Value) (xs ys : List Int) (hmax : xs.length ≤ 1000000) (w : World) (h1 : WAt w v1 xs) (h2 : WAt w v2 ys) :
    Calls Try.prog 67 #[v1, v2] w fun e w' => e = .returned (.bool (decide (xs = ys))) ∧ Below w.heap.size w w' := by
  obtain ⟨A1, c1, rfl, h1⟩ := h1
  obtain ⟨A2, c2, rfl, h2⟩ := h2
  by_cases hl : xs.length = ys.length
  · exact eq67_loop A1 c1 A2 c2 xs ys hl hmax w h1 h2
  · have hd : decide (xs = ys) = false := by simp; intro e; exact hl (by rw [e])
    rw [hd]
    exact eq67_off A1 _ c1 A2 _ c2 hl w
set_option maxRecDepth 100000 in
theorem equal55 (A : Option Addr) (n cap : Nat) (k1 k2 : Int) (X1 X2 : Option Addr) (m1 m2 : Nat) (xs ys : List Int) (hmax : xs.length ≤ 1000000) (w : World) (h1 : WAt w (.slice X1 m1 m1) xs) (h2 : WAt w (.slice X2 m2 m2) ys) :
    Calls Try.prog 55 #[fv A n cap k1 X1 m1, fv A n cap k2 X2 m2] w fun e w' => e = .returned (.bool (decide (xs = ys))) ∧ Below w.heap.size w w' := by
  have b0 := alloc_below w (.cells #[.slice A n cap, .int .i64 k1, .slice X1 m1 m1] 76)
  have b1 := below_end b0 (alloc_below _ (.cells #[.slice A n cap, .int .i64 k2, .slice X2 m2 m2] 76))
  have E := Lib.hid (eq67 _ _ xs ys hmax _ (h1.below b1) (h2.below b1))
  have B1 := Lib.hid b1
  generalize decide (xs = ys) = d at *
  clear h1 h2 b0 b1
  unfold fv
  go_enter Try.func55, Try.ntmps55
  go_wp2_with (go_at_call 67; refine E.out.mono ?_; rintro e w1 ⟨rfl, hb1⟩)
  go_ret
  exact ⟨rfl, below_end B1.out hb1⟩
set_option maxRecDepth 100000 in
theorem get52 (A : Option Addr) (n cap : Nat) (k : Int) (X : Option Addr) (zs : List Int) (hu : ∀ z ∈ zs, 0 ≤ z) (f : Int) (w : World) (h : WAt w (.slice X zs.length zs.length) zs) :
    Calls Try.prog 52 #[fv A n cap k X zs.length, .int .i64 f] w fun e w' => e = .returned (.tuple #[.int .i64 (gtF zs f).1, .int .i64 (gtF zs f).2]) ∧ Below w.heap.size w w' := by
  have b0 := alloc_below w (.cells #[.slice A n cap, .int .i64 k, .slice X zs.length zs.length] 75)
  have C := Lib.hid (read53 A n cap k X zs f _ (h.below b0))
  have B0 := Lib.hid b0
  have hz : 0 ≤ (rdF zs f).1 := by
    unfold rdF
    split
    · dsimp only
      rw [List.getD_eq_getElem?_getD]
      cases hh : zs[f.toNat]? with
      | none => exact Int.le_refl _
      | some z => exact hu z (List.mem_of_getElem? hh)
    · exact Int.le_refl _
  have T := Lib.hid (show gtF zs f = if (rdF zs f).2 = 0 then adrF (rdF zs f).1 else (0, (rdF zs f).2) from rfl)
  rw [T.out]
  unfold fv at C ⊢
  clear h b0 T hu
  generalize rdF zs f = R at *
  obtain ⟨z, c⟩ := R
  dsimp only at C hz ⊢
  have AD := Lib.hid (fun W => address65 z hz W)
  by_cases hc : c = 0
  · subst hc
    rw [if_pos rfl]
    generalize adrF z = R at *
    obtain ⟨a, c⟩ := R
    dsimp only at AD ⊢
    go_enter Try.func52, Try.ntmps52
    go_wp2_with (first
      | (go_at_call 53; refine C.out.mono ?_; rintro e w1 ⟨rfl, hb1⟩)
      | (go_at_call 65; refine (AD.out _).mono ?_; rintro e w2 ⟨rfl, rfl⟩))
    exact bodyPost_ret (v := .tuple #[.int .i64 a, .int .i64 c]) (by simp [results, Try.f52, go_sem]) rfl ⟨rfl, below_end B0.out hb1⟩
  · rw [if_neg hc]
    have q : (c != 0) = true := by simpa using hc
    clear hc
    go_enter Try.func52, Try.ntmps52
    go_wp2_with (go_at_call 53; refine C.out.mono ?_; rintro e w1 ⟨rfl, hb1⟩)
    exact bodyPost_ret (v := .tuple #[.int .i64 0, .int .i64 c]) (by simp [results, Try.f52, go_sem]) rfl ⟨rfl, below_end B0.out hb1⟩
/-- cells of a fields box -/
theorem three_cells {W : World} {g : Nat} {x y z : Value} {t : TypeId} (h : W.heap[g]? = some (.cells #[x, y, z] t (0, 0))) :
    W.cell? ⟨g, 0, none⟩ = some x ∧ W.cell? ⟨g, 1, none⟩ = some y ∧ W.cell? ⟨g, 2, none⟩ = some z := by
  refine ⟨?_, ?_, ?_⟩ <;> rw [cell_of_row _ _ _ _ _ _ h] <;> rfl
set_option maxRecDepth 100000 in
set_option maxHeartbeats 1000000 in
theorem write57 (A : Option Addr) (ws : List Int) (cap k : Nat) (X : Option Addr) (m : Nat) (f z : Int) (w : World) (h : WAt w (.slice A ws.length cap) ws) (hc : chkF ws = 0) (h1 : 1 ≤ k) (h2 : k + m ≤ ws.length) :
    Calls Try.prog 57 #[fv A ws.length cap k X m, .int .i64 f, .int .u64 z] w fun e w' => CAns w (wrF ws k m f z) e w' := by
  have hl := chk_len hc
  have b0 := alloc_below w (.cells #[.slice A ws.length cap, .int .i64 k, .slice X m m] 73)
  have n0 := heap_alloc_new w (.cells #[.slice A ws.length cap, .int .i64 k, .slice X m m] 73)
  have C := Lib.hid (fun W => check66 A ws.length cap k X m f W)
  have B0 := Lib.hid b0
  unfold fv at C ⊢
  by_cases hf : 0 ≤ f ∧ f < m
  · have S := Lib.hid (fun W (hb : Below w.heap.size w W) => set68 _ ws ((k : Int) + f) z W (h.below hb) (by omega))
    rw [after_set, wr_set hc h1 h2 z hf] at S
    rw [show fchk m f = 0 from if_pos hf] at C
    have T := Lib.hid (show wrF ws k m f z = (ws.set (k + f.toNat) z, 0) by unfold wrF; rw [if_pos hf])
    rw [T.out]
    have o1 : -9223372036854775808 ≤ (k : Int) + f := by omega
    have o2 : (k : Int) + f ≤ 9223372036854775807 := by omega
    clear T h b0 hf hc h1 h2
    generalize ws.set (k + f.toNat) z = R at *
    obtain ⟨c0, c1, c2⟩ := three_cells n0
    have N0 := Lib.hid n0
    clear n0
    go_enter Try.func57, Try.ntmps57
    go_upto_region 1 with (fail)
    generalize w.alloc (.cells #[.slice A ws.length cap, .int .i64 k, .slice X m m] 73) = W0 at *
    go_upto_region 2 with (go_at_call 66; refine (C.out _).mono ?_; rintro e w1 ⟨rfl, hb1⟩)
    have B1 := Lib.hid (below_end B0.out hb1)
    obtain ⟨d0, d1, d2⟩ := three_cells (keep_heap hb1 N0.out)
    clear c0 c1 c2 hb1
    go_wp2_with (go_at_call 68; refine (S.out _ B1.out).mono ?_; rintro e w2 ⟨v, rfl, ho, hb2⟩)
    exact bodyPost_ret (v := .tuple #[v, .int .i64 0]) (by simp [results, Try.f57, go_sem]) rfl ⟨v, rfl, own_mono ho B1.out.size, below_end B1.out hb2⟩
  · rw [show fchk m f = 10 from if_neg hf] at C
    have T := Lib.hid (show wrF ws k m f z = ([], 10) by unfold wrF; rw [if_neg hf])
    rw [T.out]
    clear hf h b0 n0
    go_enter Try.func57, Try.ntmps57
    go_wp2_with (go_at_call 66; refine (C.out _).mono ?_; rintro e w1 ⟨rfl, hb1⟩)
    exact bodyPost_ret (v := .tuple #[.slice none 0 0, .int .i64 10]) (by simp [results, Try.f57, go_sem]) rfl ⟨.slice none 0 0, rfl, World.ownsRow_nil _ _ _ _, below_end B0.out hb1⟩
set_option maxRecDepth 100000 in
set_option maxHeartbeats 1000000 in
theorem set56 (A : Option Addr) (ws : List Int) (cap k : Nat) (X : Option Addr) (m : Nat) (f z : Int) (w : World) (h : WAt w (.slice A ws.length cap) ws) (hc : chkF ws = 0) (h1 : 1 ≤ k) (h2 : k + m ≤ ws.length) :
    Calls Try.prog 56 #[fv A ws.length cap k X m, .int .i64 f, .int .i64 z] w fun e w' => CAns w (stF ws k m f z) e w' := by
  have hl := chk_len hc
  have b0 := alloc_below w (.cells #[.slice A ws.length cap, .int .i64 k, .slice X m m] 75)
  have n0 := heap_alloc_new w (.cells #[.slice A ws.length cap, .int .i64 k, .slice X m m] 75)
  have C := Lib.hid (fun W => check66 A ws.length cap k X m f W)
  have S := Lib.hid (fun W (hb : Below w.heap.size w W) => write57 A ws cap k X m f z W (h.below hb) hc h1 h2)
  have B0 := Lib.hid b0
  unfold fv at C S ⊢
  obtain ⟨c0, c1, c2⟩ := three_cells n0
  have N0 := Lib.hid n0
  clear n0 b0
  by_cases hf : 0 ≤ f ∧ f < m
  · rw [show fchk m f = 0 from if_pos hf] at C
    by_cases hz : 0 ≤ z ∧ z < ws.length
    · have T := Lib.hid (show stF ws k m f z = wrF ws k m f z by unfold stF wrF; rw [if_pos hf, if_pos hz, if_pos hf])
      rw [T.out]
      have q1 : decide (z < 0) = false := decide_eq_false (by omega)
      have q2 : decide ((ws.length : Int) ≤ z) = false := decide_eq_false (by omega)
      have hz0 : 0 ≤ z := hz.1
      have hz1 : z ≤ 1601 := by omega
      clear T h hc h1 h2 hf hz
      generalize wrF ws k m f z = R at *
      obtain ⟨r, c⟩ := R
      go_enter Try.func56, Try.ntmps56
      go_upto_region 1 with (fail)
      generalize w.alloc (.cells #[.slice A ws.length cap, .int .i64 k, .slice X m m] 75) = W0 at *
      go_upto_region 2 with (go_at_call 66; refine (C.out _).mono ?_; rintro e w1 ⟨rfl, hb1⟩)
      have B1 := Lib.hid (below_end B0.out hb1)
      obtain ⟨d0, d1, d2⟩ := three_cells (keep_heap hb1 N0.out)
      clear c0 c1 c2 hb1
      go_wp2_with (go_at_call 57; refine (S.out _ B1.out).mono ?_; rintro e w2 ⟨v, rfl, ho, hb2⟩)
      exact bodyPost_ret (v := .tuple #[v, .int .i64 c]) (by simp [results, Try.f56, go_sem]) rfl ⟨v, rfl, own_mono ho B1.out.size, below_end B1.out hb2⟩
    · have T := Lib.hid (show stF ws k m f z = ([], 7) by unfold stF; rw [if_pos hf, if_neg hz])
      rw [T.out]
      clear T h hc h1 h2 hf S
      by_cases hz0 : z < 0
      · have q1 : decide (z < 0) = true := decide_eq_true hz0
        clear hz
        go_enter Try.func56, Try.ntmps56
        go_wp2_with (go_at_call 66; refine (C.out _).mono ?_; rintro e w1 ⟨rfl, hb1⟩)
        exact bodyPost_ret (v := .tuple #[.slice none 0 0, .int .i64 7]) (by simp [results, Try.f56, go_sem]) rfl ⟨.slice none 0 0, rfl, World.ownsRow_nil _ _ _ _, below_end B0.out hb1⟩
      · have q1 : decide (z < 0) = false := decide_eq_false hz0
        have q2 : decide ((ws.length : Int) ≤ z) = true := decide_eq_true (by omega)
        clear hz
        go_enter Try.func56, Try.ntmps56
        go_upto_region 1 with (fail)
        generalize w.alloc (.cells #[.slice A ws.length cap, .int .i64 k, .slice X m m] 75) = W0 at *
        go_upto_region 2 with (go_at_call 66; refine (C.out _).mono ?_; rintro e w1 ⟨rfl, hb1⟩)
        have B1 := Lib.hid (below_end B0.out hb1)
        obtain ⟨d0, d1, d2⟩ := three_cells (keep_heap hb1 N0.out)
        clear c0 c1 c2 hb1
        go_wp2
        exact bodyPost_ret (v := .tuple #[.slice none 0 0, .int .i64 7]) (by simp [results, Try.f56, go_sem]) rfl ⟨.slice none 0 0, rfl, World.ownsRow_nil _ _ _ _, B1.out⟩
  · rw [show fchk m f = 10 from if_neg hf] at C
    have T := Lib.hid (show stF ws k m f z = ([], 10) by unfold stF; rw [if_neg hf])
    rw [T.out]
    clear hf h hc h1 h2 T S
    go_enter Try.func56, Try.ntmps56
    go_wp2_with (go_at_call 66; refine (C.out _).mono ?_; rintro e w1 ⟨rfl, hb1⟩)
    exact bodyPost_ret (v := .tuple #[.slice none 0 0, .int .i64 10]) (by simp [results, Try.f56, go_sem]) rfl ⟨.slice none 0 0, rfl, World.ownsRow_nil _ _ _ _, below_end B0.out hb1⟩
end Ytmgoonahpndfoaa
end Go.Proofs
