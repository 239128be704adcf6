/- The laws' small functions: far, Far, config, is. -/
import Derived.Test.YtjkphacidpongaaGreatQRmL
import Derived.Test.YtjkphacidpongaaGreatQSlCa
namespace Go.Proofs
namespace YtjkphacidpongaaGreat
open Go.RowKit

def fB (n : Nat) : Bool := if 300 < n ∧ n ≤ 8192 then true else farB n
theorem fB_no {n : Nat} (h : fB n = false) : n ≤ 8200 := by
  unfold fB at h
  split at h
  · cases h
  · exact far_no h
set_option maxRecDepth 100000 in
set_option maxHeartbeats 1000000 in
theorem far43 (v : Value) (cs : List Int) (w : World) (h : IAt w v cs) :
    Calls Tryz.prog 37 #[.agg #[v]] w fun e w' => e = .returned (.bool (fB cs.length)) ∧ Below w.heap.size w w' := by
  have h0 := heap_alloc_new w (.cells #[v] 27)
  have hb := alloc_below w (.cells #[v] 27)
  have FA := Lib.hid (far11 v cs _ (h.below hb))
  obtain ⟨A, cap, rfl, -⟩ := h
  have c0 := (one_cell h0).1
  have B := Lib.hid hb
  unfold sv at FA
  unfold fB
  generalize cs.length = n at *
  clear h0 hb
  by_cases h1 : 300 < n
  · have q1 : decide ((300 : Int) < (n : Int)) = true := decide_eq_true (by omega)
    by_cases h2 : n ≤ 8192
    · have q2 : decide ((n : Int) ≤ 8192) = true := decide_eq_true (by omega)
      have q2' : (n : Int) ≤ 8192 := by omega
      rw [if_pos ⟨h1, h2⟩]
      clear h1 h2
      go_enter Tryz.func37, Tryz.ntmps37
      go_wp2
      refine bodyPost_ret (v := .bool true) (by simp [results, Tryz.f37, go_sem]) rfl ⟨rfl, B.out⟩
    · have q2 : decide ((n : Int) ≤ 8192) = false := decide_eq_false (by omega)
      have q2' : ¬ (n : Int) ≤ 8192 := by omega
      rw [if_neg (fun h => h2 h.2)]
      generalize farB n = r at *
      clear h1 h2
      go_enter Tryz.func37, Tryz.ntmps37
      go_wp2_with (go_at_call 76; refine FA.out.mono ?_; rintro e w1 ⟨rfl, hb1⟩; have B1 := Lib.hid (below_end B.out hb1); clear hb1)
      refine bodyPost_ret (v := .bool r) (by simp [results, Tryz.f37, go_sem]) rfl ⟨rfl, B1.out⟩
  · have q1 : decide ((300 : Int) < (n : Int)) = false := decide_eq_false (by omega)
    have q1' : ¬ (300 : Int) < (n : Int) := by omega
    rw [if_neg (fun h => h1 h.1)]
    generalize farB n = r at *
    clear h1
    go_enter Tryz.func37, Tryz.ntmps37
    go_wp2_with (go_at_call 76; refine FA.out.mono ?_; rintro e w1 ⟨rfl, hb1⟩; have B1 := Lib.hid (below_end B.out hb1); clear hb1)
    refine bodyPost_ret (v := .bool r) (by simp [results, Tryz.f37, go_sem]) rfl ⟨rfl, B1.out⟩
/-- sets are more than is looked at -/
def farS (n : Nat) (T : Nat → List Int) : Bool := if 26 < n then true else if fB (T n).length = true then true else (List.range n).any fun j => fB (T j).length
theorem farS_1 {n : Nat} {T : Nat → List Int} (h : 26 < n) : farS n T = true := if_pos h
theorem farS_2 {n : Nat} {T : Nat → List Int} (h : ¬ 26 < n) (h2 : fB (T n).length = true) : farS n T = true := by unfold farS; rw [if_neg h, if_pos h2]
theorem farS_3 {n : Nat} {T : Nat → List Int} (h : ¬ 26 < n) (h2 : fB (T n).length = false) {j : Nat} (hj : j < n) (h3 : fB (T j).length = true) : farS n T = true := by
  unfold farS; rw [if_neg h, if_neg (by simp [h2])]; exact List.any_eq_true.2 ⟨j, List.mem_range.2 hj, h3⟩
theorem farS_4 {n : Nat} {T : Nat → List Int} (h : ¬ 26 < n) (h2 : fB (T n).length = false) (h3 : ∀ j, j < n → fB (T j).length = false) : farS n T = false := by
  unfold farS; rw [if_neg h, if_neg (by simp [h2]), Bool.eq_false_iff]
  intro h4
  obtain ⟨j, hj, h5⟩ := List.any_eq_true.1 h4
  rw [h3 j (List.mem_range.1 hj)] at h5; cases h5
theorem farS_no {n : Nat} {T : Nat → List Int} (h : farS n T = false) : n ≤ 26 ∧ ∀ j, j ≤ n → (T j).length ≤ 8200 := by
  by_cases h1 : 26 < n
  · rw [farS_1 h1] at h; cases h
  refine ⟨by omega, fun j hj => ?_⟩
  cases h2 : fB (T n).length with
  | true => rw [farS_2 h1 h2] at h; cases h
  | false =>
    by_cases e : j = n
    · subst e; exact fB_no h2
    · cases h3 : fB (T j).length with
      | true => rw [farS_3 h1 h2 (by omega) h3] at h; cases h
      | false => exact fB_no h3
set_option maxRecDepth 100000 in
set_option maxHeartbeats 1000000 in
theorem far15 (A nv : Value) (n : Nat) (U : Nat → Value) (T : Nat → List Int) (w : World) (hR : RS w A nv n U T) :
    Calls Tryz.prog 8 #[.agg #[A, nv]] w fun e w' => e = .returned (.bool (farS n T)) ∧ Below w.heap.size w w' := by
  obtain ⟨a, cap, hA, hcar⟩ := hR.form
  subst hA
  have h0 := heap_alloc_new w (.cells #[.slice a n cap, nv] 29)
  have hb := alloc_below w (.cells #[.slice a n cap, nv] 29)
  obtain ⟨c0, c1, -, -⟩ := two_cells h0
  have B := Lib.hid hb
  have H0 := Lib.hid h0
  have hat := hR.at_ n (Nat.le_refl _)
  rw [hR.nur] at hat
  have FA := Lib.hid (far43 nv (T n) _ (hat.below hb))
  obtain ⟨An, cn, hu, -⟩ := hat
  rw [hu] at FA c1
  by_cases h1 : 26 < n
  · have q1 : decide ((26 : Int) < (n : Int)) = true := decide_eq_true (by omega)
    rw [farS_1 h1]
    subst hu
    clear h1 h0 hb hR hcar FA
    generalize (T n).length = nn at *
    go_enter Tryz.func8, Tryz.ntmps8
    go_wp2
    refine bodyPost_ret (v := .bool true) (by simp [results, Tryz.f8, go_sem]) rfl ⟨rfl, B.out⟩
  have q1 : decide ((26 : Int) < (n : Int)) = false := decide_eq_false (by omega)
  have q1' : ¬ (26 : Int) < (n : Int) := by omega
  cases h2 : fB (T n).length with
  | true =>
    rw [farS_2 h1 h2]
    rw [h2] at FA
    generalize (T n).length = nn at *
    subst hu
    clear h1 h0 hb hR hcar h2
    go_enter Tryz.func8, Tryz.ntmps8
    go_wp2_with (go_at_call 37; refine FA.out.mono ?_; rintro e w1 ⟨rfl, hb1⟩; have B1 := Lib.hid (below_end B.out hb1); clear hb1)
    refine bodyPost_ret (v := .bool true) (by simp [results, Tryz.f8, go_sem]) rfl ⟨rfl, B1.out⟩
  | false =>
    rw [h2] at FA
    have F3 := Lib.hid (fun j (hj : j < n) (h3 : fB (T j).length = true) => farS_3 h1 h2 hj h3)
    have F4 := Lib.hid (fun (h3 : ∀ j, j < n → fB (T j).length = false) => farS_4 h1 h2 h3)
    have CE := Lib.hid (fun W (hW : Below w.heap.size w W) j (hj : j < n) => (show ∃ b off Aj cj, a = some ⟨b, off, none⟩ ∧ W.cell? ⟨b, off + j, none⟩ = some (.slice Aj (T j).length cj) ∧ IAt W (.slice Aj (T j).length cj) (T j) by
      obtain ⟨b, off, e, hc⟩ := hcar (by omega)
      have h5 := (hR.at_ j (by omega)).below hW
      have h5' := h5
      obtain ⟨Aj, cj, e2, -⟩ := h5'
      rw [e2] at h5
      have h6 := keep_cell hW (hc j hj)
      rw [e2] at h6
      exact ⟨b, off, Aj, cj, e, h6, h5⟩))
    obtain ⟨R, hRR⟩ : ∃ R, farS n T = R := ⟨_, rfl⟩
    rw [hRR] at F3 F4 ⊢
    generalize (T n).length = nn at *
    subst hu
    clear h1 h0 hb hR hcar h2 hRR
    go_enter Tryz.func8, Tryz.ntmps8
    go_upto_region 3 with (go_at_call 37; refine FA.out.mono ?_; rintro e w1 ⟨rfl, hb1⟩; have B1 := Lib.hid (below_end B.out hb1); have H1 := Lib.hid (keep_heap hb1 H0.out); clear hb1)
    clear c0 c1
    go_wp2
    go_loopw [2, 3] (fun r i wr => ∃ k : Nat, k ≤ n ∧ i = .int .i64 k ∧ Hid (∀ j, j < k → fB (T j).length = false) ∧ Hid (Below w1.heap.size w1 wr)) (fun _ i _ => n - (intOf i).toNat)
    case atStart => exact ⟨0, by omega, rfl, Lib.hid (fun j hj => by omega), Lib.hid (Below.refl _ _)⟩
    case round =>
      obtain ⟨k, hk, rfl, HN, HB⟩ := hrel
      obtain ⟨d0, d1, -, -⟩ := two_cells (keep_heap HB.out H1.out)
      by_cases hlt : k < n
      · have hlt' : (k : Int) < (n : Int) := by omega
        have q3 : decide ((k : Int) < (n : Int)) = true := decide_eq_true hlt'
        obtain ⟨b, off, Aj, cj, rfl, cc, hij⟩ := CE.out _ (below_end B1.out HB.out) k hlt
        have ad : (⟨b, off, none⟩ : Addr).add k = ⟨b, off + k, none⟩ := by unfold Addr.add; split <;> simp_all
        have FK := Lib.hid (far43 _ _ _ hij)
        have G3 := Lib.hid (F3.out k hlt)
        have GN := Lib.hid (fun (hf : fB (T k).length = false) j (hj : j < k + 1) => (show fB (T j).length = false by
          rcases Nat.lt_or_ge j k with h | h
          · exact HN.out j h
          · obtain rfl : j = k := by omega
            exact hf))
        obtain ⟨lk, hlk⟩ : ∃ lk, (T k).length = lk := ⟨_, rfl⟩
        rw [hlk] at FK G3 GN cc
        cases hf : fB lk with
        | true =>
          rw [hf] at FK G3
          have E := Lib.hid (G3.out rfl)
          clear hij hlk hf GN G3
          go_wp2_with (go_at_call 37; refine FK.out.mono ?_; rintro e w2 ⟨rfl, hb2⟩; have B2 := Lib.hid (below_end (below_end B1.out HB.out) hb2); clear hb2)
          refine bodyPost_ret (v := .bool true) (by simp [results, Tryz.f8, go_sem]) rfl ⟨by rw [E.out], B2.out⟩
        | false =>
          rw [hf] at FK
          have E := Lib.hid (GN.out hf)
          clear hij hlk hf GN G3
          go_wp2_with (go_at_call 37; refine FK.out.mono ?_; rintro e w2 ⟨rfl, hb2⟩; have B2 := Lib.hid (below_end HB.out hb2); clear hb2)
          refine ⟨⟨k + 1, by omega, by simp, E, B2⟩, ?_⟩
          show n - ((k : Int) + 1).toNat < n - ((k : Int)).toNat
          omega
      · have hlt' : ¬ (k : Int) < (n : Int) := by omega
        have q3 : decide ((k : Int) < (n : Int)) = false := decide_eq_false hlt'
        have E := Lib.hid (F4.out (fun j hj => HN.out j (by omega)))
        have B2 := Lib.hid (below_end B1.out HB.out)
        clear HN CE F3 F4
        go_wp2
        refine bodyPost_ret (v := .bool false) (by simp [results, Tryz.f8, go_sem]) rfl ⟨by rw [E.out], B2.out⟩
set_option maxRecDepth 100000 in
theorem config44 (w : World) : Calls Tryz.prog 38 #[] w fun e w' => e = .returned (.agg #[.int .i64 8, .int .i64 7, .int .i64 4, .int .i64 1, .int .i64 2]) ∧ Below w.heap.size w w' := by
  have h0 := heap_alloc_new w (.cells #[.int .i64 8, .int .i64 7, .int .i64 4, .int .i64 1, .int .i64 2] 23)
  have B := Lib.hid (alloc_below w (.cells #[.int .i64 8, .int .i64 7, .int .i64 4, .int .i64 1, .int .i64 2] 23))
  obtain ⟨c0, c1, c2, c3, c4⟩ := five_cells h0
  clear h0
  go_enter Tryz.func38, Tryz.ntmps38
  go_wp2
  refine bodyPost_ret (v := .agg #[.int .i64 8, .int .i64 7, .int .i64 4, .int .i64 1, .int .i64 2]) (by simp [results, Tryz.f38, go_sem, c0, c1, c2, c3, c4]) rfl ⟨rfl, B.out⟩
set_option maxRecDepth 100000 in
theorem is46 (u1 u2 : Value) (L : List Int) (w : World) (h1 : IAt w u1 L) (h2 : IAt w u2 L) (hm : L.length ≤ 1000000) : Calls Tryz.prog 39 #[u1, .int .i64 0, u2] w fun e w' => e = .returned (.bool true) ∧ Below w.heap.size w w' := by
  have RI := Lib.hid (rints24 u1 u2 L L hm w h1 h2)
  rw [show decide (L = L) = true from decide_eq_true rfl] at RI
  obtain ⟨A1, q1, rfl, -⟩ := h1
  obtain ⟨A2, q2, rfl, -⟩ := h2
  generalize L.length = n at *
  go_enter Tryz.func39, Tryz.ntmps39
  go_wp2_with (go_at_call 25; refine RI.out.mono ?_; rintro e w2 ⟨rfl, hb2⟩)
  refine bodyPost_ret (v := .bool true) (by simp [results, Tryz.f39, go_sem]) rfl ⟨rfl, hb2⟩
end YtjkphacidpongaaGreat
end Go.Proofs
