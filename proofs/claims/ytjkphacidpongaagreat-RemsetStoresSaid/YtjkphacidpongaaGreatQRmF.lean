/- clone, the program's. -/
import Derived.Test.YtjkphacidpongaaGreatQRmE
namespace Go.Proofs
namespace YtjkphacidpongaaGreat
open Go.RowKit
attribute [local go_sem] Oper.semAt_some

theorem info26 : (Tryz.prog.info? 27).map (fun i => (i.zero, i.size, i.bytes)) = some (some (.agg #[.slice none 0 0]), 1, 24) := by kernel_rfl
theorem mk_sets (n : Nat) (hn : n ≤ 1000000) (W : World) : (Instr.makeSlice 24 (.int .i64 n) (.int .i64 n)).run Tryz.prog W = .ok (.slice (some ⟨W.heap.size, 0, none⟩) n n) (W.alloc (.cells (List.replicate n nilV).toArray 27)) := by
  obtain ⟨i0, hi, hz0, hz1, hz2⟩ := info_parts info26
  have h := run_makeSlice (P := Tryz.prog) W 24 27 i0 (.agg #[.slice none 0 0]) Tryz.underlying24 hi hz0 .i64 .i64 n n (by omega) (by omega) (by rw [hz1]; omega) (by rw [hz2]; omega) (by omega)
  rw [hz1] at h
  have e2 : madeCells (Value.agg #[.slice none 0 0]).cells ((n : Int).toNat * 1) = (List.replicate n nilV).toArray := by
    apply Array.toList_inj.1
    rw [show (Value.agg #[.slice none 0 0]).cells = #[.slice none 0 0] from rfl, Int.toNat_natCast, Nat.mul_one, toList_madeCells_one]
    rfl
  rw [e2] at h
  exact h
/-- the tables that are copied before the i-th -/
def upT (T : Nat → List Int) (i : Nat) : Nat → List Int := fun j => if j < i then T j else []
theorem up_step (T : Nat → List Int) (i j : Nat) : updT (upT T i) i (T i) j = upT T (i + 1) j := by
  unfold updT upT
  by_cases h : j = i
  · subst h; rw [if_pos rfl, if_pos (by omega)]
  · rw [if_neg h]
    by_cases h2 : j < i
    · rw [if_pos h2, if_pos (by omega)]
    · rw [if_neg h2, if_neg (by omega)]
theorem up_all (T : Nat → List Int) {n j : Nat} (h : j ≤ n) : upT T (n + 1) j = T j := if_pos (by omega)
/-- the sets that a copy begins with -/
theorem ob_start {B n : Nat} {W : World} {o g : Nat} (T : Nat → List Int) (hg : W.heap[g]? = some (.cells (List.replicate n nilV).toArray 27 (0, 0))) (ho : W.heap[o]? = some (.cells #[.slice (some ⟨g, 0, none⟩) n n, nilV] 29 (0, 0))) (h1 : B ≤ g) (h2 : B ≤ o) (h3 : o ≠ g) : OB B W o g (List.replicate n nilV) nilV n (upT T 0) := by
  refine ⟨hg, ho, by simp, fun u hu => ?_, nil_sl, fun j hj => ?_, IAt.nil W, h1, h2, h3⟩
  · rw [List.eq_of_mem_replicate hu]; exact nil_sl
  · have e : (List.replicate n nilV).getD j nilV = nilV := by
      rw [List.getD_eq_getElem?_getD, List.getElem?_replicate]; split <;> rfl
    rw [e]; exact IAt.nil W
/-- a slice in none of these blocks -/
def Off (B C : Nat) (v : Value) : Prop := ∀ r, B ≤ r → r < C → Apart v r
theorem nil_off (B C : Nat) : Off B C nilV := fun r _ _ A m c b off e1 h0 e2 => by cases e1; cases e2
theorem own_off {W w : World} {B C : Nat} {u : Value} {cs : List Int} (h : Row w W u cs) (hC : C ≤ w.heap.size) : Off B C u := fun r _ hr => own_far h (by omega)
theorem OB.grown {B : Nat} {W W' : World} {o g : Nat} {vs : List Value} {nv : Value} {n : Nat} {T : Nat → List Int} {r : Nat} (h : OB B W o g vs nv n T) (hg : W.grownBy W' (some r)) (h1 : r ≠ o) (h2 : r ≠ g) (hv : ∀ u, u ∈ vs → Apart u r) (hn : Apart nv r) : OB B W' o g vs nv n T := by
  have k : ∀ {q : Nat} {x : Obj}, q ≠ r → W.heap[q]? = some x → W'.heap[q]? = some x := fun hq hx => (hg.block _ (Array.getElem?_eq_some_iff.1 hx).1 (fun e => by injection e with e; exact hq e)).trans hx
  refine ⟨k (Ne.symm h2) h.row, k (Ne.symm h1) h.box, h.len, h.sl, h.nsl, fun j hj => (h.cars j hj).apart hg (hv _ ?_), h.nur.apart hg hn, h.lo, h.loo, h.ne⟩
  rw [List.getD_eq_getElem?_getD, List.getElem?_eq_getElem (by rw [h.len]; exact hj)]
  exact List.getElem_mem _
/-- what holds between two rounds of a copy -/
def ClI (w : World) (b B : Nat) (A nv : Value) (n : Nat) (T : Nat → List Int) (i : Nat) (W : World) : Prop :=
  (∃ vs nv', OB w.heap.size W (w.heap.size + 1 + 1 + 1) (w.heap.size + 1 + 1) vs nv' n (upT T i) ∧ (∀ u, u ∈ vs → Off B (B + 2) u) ∧ Off B (B + 2) nv') ∧
  Kp w [(b, .cells #[A, nv] 29 (0, 0)), (w.heap.size + 1, .cells #[nilV, nilV] 29 (0, 0))] W
theorem ClI.minds (w : World) (b B : Nat) (A nv : Value) (n : Nat) (T : Nat → List Int) (h1 : w.heap.size + 4 ≤ B) (h2 : b < B) : MindsR B (B + 2) (ClI w b B A nv n T) := by
  rintro i W W' r h3 h4 ⟨⟨vs, nv', ho, hv, hn⟩, hk⟩ hg
  refine ⟨⟨vs, nv', ho.grown hg (by omega) (by omega) (fun u hu => hv u hu r h3 h4) (hn r h3 h4), hv, hn⟩, hk.grown hg (by omega) (fun p hp => ?_)⟩
  simp only [List.mem_cons, List.not_mem_nil, or_false] at hp
  rcases hp with rfl | rfl <;> dsimp only <;> omega
set_option maxRecDepth 100000 in
set_option maxHeartbeats 2000000 in
theorem clone55 (A nv : Value) (n : Nat) (U : Nat → Value) (T : Nat → List Int) (w : World) (hR : RS w A nv n U T) (hm : ∀ j, j ≤ n → (T j).length ≤ 100000) (hn : n ≤ 1000000) :
    Calls Tryz.prog 55 #[.agg #[A, nv]] w fun e w' => ∃ o g vs nv', e = .returned (.agg #[.slice (some ⟨g, 0, none⟩) n n, nv']) ∧ OB w.heap.size w' o g vs nv' n T ∧ Below w.heap.size w w' := by
  obtain ⟨a, cap, hA, -⟩ := hR.form
  subst hA
  obtain ⟨k0, k1, k2, k3⟩ := two_boxes w (.cells #[.slice a n cap, nv] 29) (.cells #[.slice none 0 0, .slice none 0 0] 29)
  obtain ⟨c0, c1, -, -⟩ := two_cells k0
  have MK := Lib.hid (mk_sets n hn)
  have HR := Lib.hid hR
  have HM := Lib.hid hm
  have K0 := Lib.hid k0
  have K1 := Lib.hid k1
  have K2 := Lib.hid k2
  have K3 := Lib.hid k3
  clear hR hm k0 k1 k2 k3
  refine callsIn_wide.1 (callsIn_of_wp_marks (n := 9) Tryz.func55 rfl trivial ?_ rfl)
  simp only [Tryz.ntmps55, List.size_toArray, List.length_cons, List.length_nil, Nat.reduceAdd, Nat.reduceSub, Array.replicate_succ, Array.replicate_zero, List.push_toArray, List.append_toArray, List.nil_append, List.cons_append]
  have mk := MK.out ((w.alloc (.cells #[.slice a n cap, nv] 29)).alloc (.cells #[.slice none 0 0, .slice none 0 0] 29))
  gi_wp2_with (refine ⟨trivial, ?_⟩; gi_at_call 44; refine (callsIn_wide.2 (all48 _ _ _)).mono ?_; rintro e w2 ⟨rfl, rfl⟩)
  clear mk c0 c1 K0 K1 K2 K3 MK
  obtain ⟨k0, k1, k2, k3, k4, k5⟩ := four_boxes w (.cells #[.slice a n cap, nv] 29) (.cells #[.slice none 0 0, .slice none 0 0] 29) (.cells (Array.replicate n nilV) 27) (.cells #[.slice (some ⟨w.heap.size + 1 + 1, 0, none⟩) n n, .slice none 0 0] 29)
  generalize (((w.alloc (.cells #[.slice a n cap, nv] 29)).alloc (.cells #[.slice none 0 0, .slice none 0 0] 29)).alloc (.cells (Array.replicate n nilV) 27)).alloc (.cells #[.slice (some ⟨w.heap.size + 1 + 1, 0, none⟩) n n, .slice none 0 0] 29) = X at *
  have hBx := World.alloc_heap_new X (.cells #[.slice a n cap, nv] 29)
  have hB2 := alloc_below X (.cells #[.slice a n cap, nv] 29)
  have hz : (X.alloc (.cells #[.slice a n cap, nv] 29)).heap.size = w.heap.size + 5 := by simp [k4]
  rw [k4] at hBx
  generalize X.alloc (.cells #[.slice a n cap, nv] 29) = W0 at *
  have START := Lib.hid (show ClI w (w.heap.size + 1 + 1 + 1 + 1) W0.heap.size (.slice a n cap) nv n T 0 W0 from ⟨⟨_, _, ob_start T (by simpa using keep_heap hB2 k2) (keep_heap hB2 k3) (by omega) (by omega) (by omega), fun u hu => by rw [List.eq_of_mem_replicate hu]; exact nil_off _ _, nil_off _ _⟩, fun p hp => by
    simp only [List.mem_cons, List.not_mem_nil, or_false] at hp
    rcases hp with rfl | rfl
    · exact hBx
    · exact keep_heap hB2 k1, below_end k5 hB2⟩)
  clear k0 k1 k2 k3 k4 k5 hBx hB2
  have hM := ClI.minds w (w.heap.size + 1 + 1 + 1 + 1) W0.heap.size (.slice a n cap) nv n T (by omega) (by omega)
  refine range_ret (w := W0) (n := 9) (by omega) (gf := 80) (lb := #[.pointer (some ⟨w.heap.size + 1 + 1 + 1 + 1, 0, none⟩)]) rfl (enters_of Tryz.func80 (by kernel_rfl) rfl) (enc := encS n U) (E := fun i => i = n + 1) (S := fun i => i ≤ n) (G := fun W => SetsAt W (w.heap.size + 1 + 1 + 1 + 1) (.slice a n cap) nv n U T)
    (fun W1 hb hsz l J K hG hJ hK hY h0' => callsIn_wide.2 (iter73 8 (by omega) _ nv n U T hn (w.heap.size + 1 + 1 + 1 + 1) l J K W1 hG hJ hY h0')) (fun _ => rfl)
    (ClI w (w.heap.size + 1 + 1 + 1 + 1) W0.heap.size (.slice a n cap) nv n T) (fun _ => False)
    (fun i W h => ⟨h.2.at _ _ (by simp), HR.out.below h.2.2⟩)
    (fun i a' W => ∃ p, W.heap[p]? = some (.cells #[U i] 27 (0, 0)) ∧ W0.heap.size + 2 ≤ p ∧ a' = { tmps := #[.agg #[.slice a n cap, nv], .pointer (some ⟨w.heap.size, 0, none⟩), .pointer (some ⟨w.heap.size + 1, 0, none⟩), .pointer (some ⟨w.heap.size + 1 + 1 + 1, 0, none⟩), .int .i64 (numS n i), .pointer (some ⟨p, 0, none⟩), .pointer (some ⟨w.heap.size, 0, none⟩), .slice a n cap, .int .i64 n, .slice (some ⟨w.heap.size + 1 + 1, 0, none⟩) n n,
      .agg #[.slice (some ⟨w.heap.size + 1 + 1, 0, none⟩) n n, .slice none 0 0], .agg #[.slice a n cap, nv], .func (.func 80) #[] #[.pointer (some ⟨w.heap.size + 1 + 1 + 1 + 1, 0, none⟩)], .int .i64 (numS n i), .agg #[U i], undef, undef, undef, undef, undef, undef, undef, undef], defers := [] })
    (fun i a' W W' h hg => by
      obtain ⟨p, h1, h2, h3⟩ := h
      exact ⟨p, (hg.block _ (Array.getElem?_eq_some_iff.1 h1).1 (fun e => by injection e with e; omega)).trans h1, h2, h3⟩)
    hM (fun _ _ _ _ _ _ h _ => h) (fun W1 hb hsz => hM.below (by omega) START.out (hb.mono (Nat.le_refl _))) ?assign ?body ?done ?stop
  case assign =>
    intro l i W hi hS hsz
    obtain ⟨Ak, ck, hu, -⟩ := HR.out.at_ i hS
    dsimp only [encS]
    rw [hu]
    have hh := heap_alloc_new W (.cells #[.slice Ak (T i).length ck] 27)
    have hb := alloc_below W (.cells #[.slice Ak (T i).length ck] 27)
    generalize (T i).length = nk at *
    clear hi hu
    gi_wp2
    exact ⟨hb, W.heap.size, hh, hsz, rfl⟩
  case body =>
    rintro l i a' W ⟨⟨vs, nv', ho, hv, hnv⟩, hk⟩ ⟨p, hp, hps, rfl⟩ hS hsz
    obtain ⟨Ak, ck, hu, -⟩ := HR.out.at_ i hS
    have hD : Below W.heap.size W W.drew := below_drewN (Below.refl _ _) 1
    have CL := Lib.hid (fun X (hb : Below W.heap.size W X) => clone75 (U i) (T i) X (((HR.out.at_ i hS).below hk.2).below hb) (HM.out i hS))
    rw [hu] at CL hp ⊢
    obtain ⟨cp, -⟩ := one_cell hp
    have HO := Lib.hid ho
    have HV := Lib.hid hv
    have HNV := Lib.hid hnv
    have HK := Lib.hid hk
    obtain ⟨nk, hnk⟩ : ∃ nk, (T i).length = nk := ⟨_, rfl⟩
    rw [hnk] at CL cp hp ⊢
    have hmo : Tryz.prog.follows Departure.mixedOrders = true := by kernel_rfl
    clear ho hv hnv hk hu hnk
    rcases Nat.lt_or_ge i n with hlt | hge
    · rw [num_car hlt]
      have FD := Lib.hid (fun X (hb : Below W.heap.size W X) => find59_car (w.heap.size + 1 + 1 + 1) (w.heap.size + 1 + 1) n i X (two_cells (HO.out.below hb).box).1 hlt)
      have FIN := Lib.hid (fun w2 u (hr : Row W.drew w2 u (T i)) (hb : Below W.heap.size W w2) => (show KeptR W0.heap.size (W0.heap.size + 2) W (w2.setCell ⟨w.heap.size + 1 + 1, i, none⟩ u) ∧ ClI w (w.heap.size + 1 + 1 + 1 + 1) W0.heap.size (.slice a n cap) nv n T (i + 1) (w2.setCell ⟨w.heap.size + 1 + 1, i, none⟩ u) by
        refine ⟨(KeptR.of_below hb).set _ _ _ (by omega), ⟨_, _, ((HO.out.below hb).put_car (IAt.of_own hr) hlt).ext (fun j _ => up_step T i j), fun x hx => ?_, HNV.out⟩, (HK.out.below hb).grown (grown_set _ _ _ _) (by omega) (fun p hp => ?_)⟩
        · rcases List.mem_or_eq_of_mem_set hx with h1 | h1
          · exact HV.out x h1
          · rw [h1]; exact own_off hr (by show _ ≤ W.heap.size; omega)
        · simp only [List.mem_cons, List.not_mem_nil, or_false] at hp
          rcases hp with rfl | rfl <;> dsimp only <;> omega))
      have RG := Lib.hid (fun w2 (hb : Below W.heap.size W w2) => row_get (HO.out.below hb).row (j := i) (by rw [HO.out.len]; exact hlt))
      clear hz
      gi_wp2
      gi_region_with_o (first
        | (refine ⟨trivial, ?_⟩; gi_at_call 66; refine (CallsIn.inRound l (callsIn_wide.2 (FD.out _ (by first | exact hD | assumption)))).mono ?_; rintro e w3 ⟨rfl, rfl⟩)
        | (refine ⟨trivial, ?_⟩; gi_at_call 88; refine (CallsIn.inRound l (callsIn_wide.2 (CL.out _ hD))).mono ?_; rintro e w2 ⟨u, rfl, hr, hb⟩; have hbw : Below W.heap.size W w2 := below_end hD hb; obtain ⟨cr, fr⟩ := RG.out w2 hbw; have HRW := Lib.hid hr; obtain ⟨Au, cu, rfl⟩ := own_form hr; clear hr hb))
      all_goals (gi_wp2; exact FIN.out _ _ HRW.out hbw)
    · obtain rfl : i = n := by omega
      rw [num_nur]
      have FD := Lib.hid (fun X => find59_nur (w.heap.size + 1 + 1 + 1) X)
      have FIN := Lib.hid (fun w2 u (hr : Row W.drew w2 u (T i)) (hb : Below W.heap.size W w2) => (show KeptR W0.heap.size (W0.heap.size + 2) W (w2.setCell ⟨w.heap.size + 1 + 1 + 1, 1, none⟩ u) ∧ ClI w (w.heap.size + 1 + 1 + 1 + 1) W0.heap.size (.slice a i cap) nv i T (i + 1) (w2.setCell ⟨w.heap.size + 1 + 1 + 1, 1, none⟩ u) by
        refine ⟨(KeptR.of_below hb).set _ _ _ (by omega), ⟨_, _, ((HO.out.below hb).put_nur (IAt.of_own hr)).ext (fun j _ => up_step T i j), HV.out, own_off hr (by show _ ≤ W.heap.size; omega)⟩, (HK.out.below hb).grown (grown_set _ _ _ _) (by omega) (fun p hp => ?_)⟩
        simp only [List.mem_cons, List.not_mem_nil, or_false] at hp
        rcases hp with rfl | rfl <;> dsimp only <;> omega))
      have RG := Lib.hid (fun w2 (hb : Below W.heap.size W w2) => two_cells (HO.out.below hb).box)
      clear hz
      gi_wp2
      gi_region_with_o (first
        | (refine ⟨trivial, ?_⟩; gi_at_call 66; refine (CallsIn.inRound l (callsIn_wide.2 (FD.out _))).mono ?_; rintro e w3 ⟨rfl, rfl⟩)
        | (refine ⟨trivial, ?_⟩; gi_at_call 88; refine (CallsIn.inRound l (callsIn_wide.2 (CL.out _ hD))).mono ?_; rintro e w2 ⟨u, rfl, hr, hb⟩; have hbw : Below W.heap.size W w2 := below_end hD hb; obtain ⟨-, cr, -, fr⟩ := RG.out w2 hbw; have HRW := Lib.hid hr; obtain ⟨Au, cu, rfl⟩ := own_form hr; clear hr hb))
      all_goals (gi_wp2; exact FIN.out _ _ HRW.out hbw)
  case done =>
    rintro i W rfl ⟨⟨vs, nv', ho, hv, hnv'⟩, hk⟩ hK
    have HO := Lib.hid (ho.ext (T' := T) (fun j hj => up_all T hj))
    have HK := Lib.hid hk
    have HD := Lib.hid hK
    have HV := Lib.hid hv
    have HNV := Lib.hid hnv'
    obtain ⟨d0, d1, -, -⟩ := two_cells ho.box
    obtain ⟨Av, nvk, cv, hnv⟩ := ho.nsl
    have hr := hk.at (w.heap.size + 1) (.cells #[nilV, nilV] 29 (0, 0)) (by simp)
    obtain ⟨r0, r1, g0, g1⟩ := two_cells hr
    clear ho hk hK hv hnv'
    subst hnv
    have x1 : ((W.setCell ⟨w.heap.size + 1, 0, none⟩ (.slice (some ⟨w.heap.size + 1 + 1, 0, none⟩) n n)).setCell ⟨w.heap.size + 1, 1, none⟩ (.slice Av nvk cv)).heap[w.heap.size + 1]? = some (.cells #[.slice (some ⟨w.heap.size + 1 + 1, 0, none⟩) n n, .slice Av nvk cv] 29 (0, 0)) :=
      set_row (set_row hr 0 _) 1 _
    have s1 : ∀ u, u ∈ (#[nilV, nilV] : Array Value).toList → isSl u := fun u hu => by
      simp only [List.mem_cons, List.not_mem_nil, or_false, or_self] at hu
      rw [hu]; exact nil_sl
    have s2 : ∀ u, u ∈ (#[.slice (some ⟨w.heap.size + 1 + 1, 0, none⟩) n n, nilV] : Array Value).toList → isSl u := fun u hu => by
      simp only [List.mem_cons, List.not_mem_nil, or_false] at hu
      rcases hu with rfl | rfl
      · exact ⟨_, _, _, rfl⟩
      · exact nil_sl
    have O2 := Lib.hid (((HO.out.set_far hr s1 (i := 0) (by omega) (by omega) (.slice (some ⟨w.heap.size + 1 + 1, 0, none⟩) n n)).set_far (set_row hr 0 _) s2 (i := 1) (by omega) (by omega) (.slice Av nvk cv)).grown (grownBy_putObj' _ W0.heap.size (.deferred none)) (by omega) (by omega) (fun u hu => HV.out u hu _ (Nat.le_refl _) (by omega)) (HNV.out _ (Nat.le_refl _) (by omega)))
    have BB := Lib.hid (put_below ((HK.out.2.setCell (p := ⟨w.heap.size + 1, 0, none⟩) (show w.heap.size ≤ w.heap.size + 1 by omega) (.slice (some ⟨w.heap.size + 1 + 1, 0, none⟩) n n)).setCell (p := ⟨w.heap.size + 1, 1, none⟩) (show w.heap.size ≤ w.heap.size + 1 by omega) (.slice Av nvk cv)) (show w.heap.size ≤ W0.heap.size by omega) (.deferred none))
    have TD := Lib.hid (show ((W.setCell ⟨w.heap.size + 1, 0, none⟩ (.slice (some ⟨w.heap.size + 1 + 1, 0, none⟩) n n)).setCell ⟨w.heap.size + 1, 1, none⟩ (.slice Av nvk cv)).heap[W0.heap.size]? = some (.deferred (some [])) from set_far _ (by omega) (set_far _ (by omega) HD.out))
    obtain ⟨y0, y1, -, -⟩ := two_cells x1
    have z0 := put_cell W0.heap.size (.deferred none) (by dsimp only; omega) y0
    have z1 := put_cell W0.heap.size (.deferred none) (by dsimp only; omega) y1
    clear x1 s1 s2 y0 y1 hr hz
    gi_wp2
    refine ⟨by simp, .inl ⟨_, _, rfl, run_takeDeferred TD.out, ?_⟩⟩
    exact ⟨.agg #[.slice (some ⟨w.heap.size + 1 + 1, 0, none⟩) n n, .slice Av nvk cv], by simp [results, Tryz.f55, go_sem, z0, z1], _, _, _, _, rfl, O2.out, BB.out⟩
  case stop => intro W h; exact h.elim
end YtjkphacidpongaaGreat
end Go.Proofs
