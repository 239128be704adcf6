/- The law ArenaLast answers true. -/
import Derived.Test.YtkffabochgmagaaArLb
import Derived.Test.YtkffabochgmagaaArSc
import Derived.Deep.RegionHeld3
namespace Go.Proofs
namespace Ytkffabochgmagaa
open Go.RowKit

theorem play_err {ws : List Int} {ops : List AOp} (h : (playF ws ops).e ≠ 0) : (playF ws ops).ws = [] ∧ (playF ws ops).got = [] := by
  unfold playF at *
  by_cases hc : chkF ws ≠ 0
  · rw [if_pos hc]; exact ⟨rfl, rfl⟩
  · rw [if_neg hc] at h ⊢
    by_cases h5 : 500 < ops.length
    · rw [if_pos h5]; exact ⟨rfl, rfl⟩
    · rw [if_neg h5] at h ⊢
      have key : ∀ (l : List AOp) (i : Nat) (s : ASt), (goF i s l).e ≠ 0 → (goF i s l).ws = [] ∧ (goF i s l).got = [] := by
        intro l
        induction l with
        | nil => intro i s h; simp [goF] at h
        | cons o t ih =>
          intro i s h
          by_cases hz : (stepF s o).1 = 0
          · rw [goF_step hz] at h ⊢; exact ih _ _ h
          · rw [goF_err hz]; exact ⟨rfl, rfl⟩
      exact key _ _ _ h
theorem last6_long (v1 v2 : Value) (ws : List Int) (ops : List AOp) (w : World) (h1 : WAt w v1 ws) (h2 : OAt w v2 ops) (hl : 200 < ws.length ∨ 60 < ops.length) :
    Calls Try.prog 6 #[v1, v2] w fun e w' => e = .returned (.bool true) ∧ Below w.heap.size w w' := by
  obtain ⟨A1, p1, rfl, -⟩ := h1
  obtain ⟨A2, p2, rfl, -⟩ := h2
  by_cases hx : 200 < ws.length
  · have q : decide ((200 : Int) < (ws.length : Int)) = true := decide_eq_true (by omega)
    go_enter Try.func6, Try.ntmps6
    go_wp2_with (go_at_call 10; refine (awake10 _).mono ?_; rintro e u3 ⟨rfl, hu3⟩)
    exact bodyPost_ret (v := .bool true) (by simp [results, Try.f6, go_sem]) rfl ⟨rfl, hu3⟩
  · have q : decide ((200 : Int) < (ws.length : Int)) = false := decide_eq_false (by omega)
    have q2 : decide ((60 : Int) < (ops.length : Int)) = true := decide_eq_true (by omega)
    go_enter Try.func6, Try.ntmps6
    go_wp2_with (go_at_call 10; refine (awake10 _).mono ?_; rintro e u3 ⟨rfl, hu3⟩)
    exact bodyPost_ret (v := .bool true) (by simp [results, Try.f6, go_sem]) rfl ⟨rfl, hu3⟩
set_option maxRecDepth 100000 in
set_option maxHeartbeats 1000000 in
theorem last6_err (v1 v2 : Value) (ws : List Int) (ops : List AOp) (w : World) (h1 : WAt w v1 ws) (h2 : OAt w v2 ops) (hw : ws.length ≤ 200) (ho : ops.length ≤ 60) (he : (playF ws ops).e ≠ 0) :
    Calls Try.prog 6 #[v1, v2] w fun e w' => e = .returned (.bool true) ∧ Below w.heap.size w w' := by
  have F := Lib.hid (play29 v1 v2 ws ops w h1 h2 (by omega) (by omega))
  obtain ⟨e1, e2⟩ := play_err he
  have E := Lib.hid (And.intro e1 e2)
  obtain ⟨A1, p1, rfl, -⟩ := h1
  obtain ⟨A2, p2, rfl, -⟩ := h2
  have q : decide ((200 : Int) < (ws.length : Int)) = false := decide_eq_false (by omega)
  have q2 : decide ((60 : Int) < (ops.length : Int)) = false := decide_eq_false (by omega)
  clear e1 e2
  generalize playF ws ops = R at *
  obtain ⟨zs, gs, r, c, i, e0⟩ := R
  obtain ⟨h1, h2⟩ := E.out
  dsimp only at h1 h2 he
  subst h1 h2
  have q3 : (e0 != 0) = true := by simpa using he
  clear E he
  go_enter Try.func6, Try.ntmps6
  go_wp2_with (first
    | (go_at_call 29; refine F.out.mono ?_; rintro e W1 ⟨va, ga, rfl, hV1, hG1, hb1⟩; obtain ⟨Av, cv, rfl⟩ := own_form hV1; obtain ⟨Ag, cg, rfl⟩ := own_form hG1; have K := Lib.hid (below_end hb1 (alloc_below W1 (.cells #[.int .i64 r, .int .i64 c] 50))); clear hV1 hG1 hb1)
    | (go_at_call 10; refine (awake10 _).mono ?_; rintro e u3 ⟨rfl, hu3⟩))
  exact bodyPost_ret (v := .bool true) (by simp [results, Try.f6, go_sem]) rfl ⟨rfl, below_end K.out hu3⟩
set_option maxRecDepth 100000 in
set_option maxHeartbeats 4000000 in
theorem last6_go (v1 v2 : Value) (ws : List Int) (ops : List AOp) (w : World) (h1 : WAt w v1 ws) (h2 : OAt w v2 ops) (hw : ws.length ≤ 200) (ho : ops.length ≤ 60) (he : (playF ws ops).e = 0) :
    Calls Try.prog 6 #[v1, v2] w fun e w' => e = .returned (.bool true) ∧ Below w.heap.size w w' := by
  have F := Lib.hid (play29 v1 v2 ws ops w h1 h2 (by omega) (by omega))
  obtain ⟨ok, e1, e2⟩ := play_st he
  have gl := play_gl ws ops
  rw [e2] at gl
  have hzl := st_length ws ops ops.length
  have BA := Lib.hid (show ∀ (i a : Nat), i ≤ ops.length → a < ws.length → ∀ W, Below w.heap.size w W → Calls Try.prog 31 #[v1, v2, .int .i64 (i : Int), .int .i64 (a : Int)] W fun e w' => e = .returned (.int .u64 ((stAt ws ops i).ws.getD a 0)) ∧ Below W.heap.size W w' from
    fun i a hi ha W hb => before31 v1 v2 ws ops i a W (h1.below hb) (h2.below hb) hi ha (fun k hk hki => ok k hk (by omega)) (by omega) (by omega))
  have OK := Lib.hid ok
  have HO := Lib.hid h2
  obtain ⟨A1, p1, rfl, -⟩ := h1
  obtain ⟨A2, p2, rfl, -⟩ := h2
  have q : decide ((200 : Int) < (ws.length : Int)) = false := decide_eq_false (by omega)
  have q2 : decide ((60 : Int) < (ops.length : Int)) = false := decide_eq_false (by omega)
  generalize playF ws ops = R at *
  obtain ⟨zs, gs, r, c, i0, e0⟩ := R
  dsimp only at he e1 e2
  subst he
  obtain ⟨zs', hz'⟩ : ∃ z, (stAt ws ops ops.length).ws = z := ⟨_, rfl⟩
  obtain ⟨gs', hg'⟩ : ∃ z, (stAt ws ops ops.length).got = z := ⟨_, rfl⟩
  rw [hz'] at e1 hzl
  rw [hg'] at e2 gl
  subst e1 e2
  have HZ := Lib.hid hz'
  have HG := Lib.hid hg'
  have HZL := Lib.hid hzl
  clear hz' hg' ok
  have qn : ((zs.length : Int) != (ws.length : Int)) = false := by simp; omega
  clear hzl
  go_enter Try.func6, Try.ntmps6
  go_wp2_with (first
    | (go_at_call 29; refine F.out.mono ?_; rintro e W1 ⟨va, ga, rfl, hV1, hG1, hb1⟩; obtain ⟨Av, cv, rfl⟩ := own_form hV1; obtain ⟨Ag, cg, rfl⟩ := own_form hG1; have K := Lib.hid (below_end hb1 (alloc_below W1 (.cells #[.int .i64 r, .int .i64 c] 50))); have VV := Lib.hid ((WAt.of_own hV1).below (alloc_below W1 (.cells #[.int .i64 r, .int .i64 c] 50))); have GG := Lib.hid ((WAt.of_own hG1).below (alloc_below W1 (.cells #[.int .i64 r, .int .i64 c] 50))); clear hV1 hG1 hb1))
  generalize W1.alloc (.cells #[.int .i64 r, .int .i64 c] 50) = X at *
  go_loopw [10] (fun i wr => ∃ k : Nat, k ≤ ws.length ∧ i = .int .i64 k ∧ Hid (Below X.heap.size X wr)) (fun i _ => ws.length - (intOf i).toNat)
  case atStart => exact ⟨0, by omega, rfl, Lib.hid (Below.refl _ _)⟩
  case round =>
    obtain ⟨k, hk, rfl, hX⟩ := hrel
    by_cases hlt : k < ws.length
    · have hlt' : (k : Int) < (ws.length : Int) := by omega
      have hkz : k < zs.length := by have := HZL.out; omega
      have hkz' : (k : Int) < (zs.length : Int) := by omega
      have B := Lib.hid (BA.out ops.length k (Nat.le_refl _) hlt)
      rw [HZ.out] at B
      obtain ⟨A', cap', e, hA⟩ := VV.out
      simp only [Value.slice.injEq] at e
      obtain ⟨rfl, -, -⟩ := e
      obtain ⟨g, off, rfl, hc⟩ := hA (by omega)
      have c0 := hc k _ (wc_get zs k hkz)
      have c1 := (hX.out.cell (p := ⟨g, _, none⟩) (cell_lt c0)).trans c0
      have hBw := below_end K.out hX.out
      clear hc hA c0
      generalize zs.getD k 0 = x at *
      have s0 := Lib.hid (And.intro c1 hX.out)
      have hBW := Lib.hid hBw
      clear hBw hX
      go_upto_region 11 with (fail)
      go_region_held3 (fun W => W.cell? ⟨g, off + k, none⟩ = some (.int .u64 x) ∧ Below X.heap.size X W) (first | exact ⟨s0.out.1, s0.out.2.drew⟩ | exact s1.out)
        ((go_at_call 31; refine (B.out _ hBW.out.drew).mono ?_; rintro e w5 ⟨rfl, hb5⟩; have s1 := Lib.hid (show w5.cell? ⟨g, off + k, none⟩ = some (.int .u64 x) ∧ Below X.heap.size X w5 from ⟨(hb5.cell (p := ⟨g, _, none⟩) (by have := cell_lt s0.out.1; exact this)).trans s0.out.1, below_end s0.out.2.drew hb5⟩); clear hb5))
      go_wp2
      go_roundw
      case rel => exact ⟨k + 1, by omega, by go_num, Lib.hid s1.out.2⟩
      case measure => simp [intOf]; omega
    · obtain rfl : k = ws.length := by omega
      have hX0 := hX
      clear hX
      go_wp2
      go_loopw [11, 12] (fun nv i wx => ∃ (j m : Nat), j ≤ ops.length ∧ i = .int .i64 j ∧ nv = .int .i64 m ∧ m ≤ gs.length ∧ Hid ((stAt ws ops j).got.length = m) ∧ Hid (Below X.heap.size X wx)) (fun _ i _ => ops.length - (intOf i).toNat)
      case atStart => exact ⟨0, 0, by omega, rfl, rfl, by omega, Lib.hid rfl, hX0⟩
      case round =>
        clear hX0
        obtain ⟨j, m, hj, rfl, rfl, hm, hgm, hX⟩ := hrel
        by_cases hjl : j < ops.length
        · have hjl' : (j : Int) < (ops.length : Int) := by omega
          have hXw := below_end K.out hX.out
          obtain ⟨A', cap', e, hA⟩ := HO.out
          simp only [Value.slice.injEq] at e
          obtain ⟨rfl, -, -⟩ := e
          obtain ⟨ob, off, rfl, hoc⟩ := hA (by omega)
          have hcl : ∀ i u, i < 5 → (opC ops[j])[i]? = some u → wr.cell? ⟨ob, off + j * 5 + i, none⟩ = some u := fun i u hi hu => by
            have h1 := hoc (j * 5 + i) u (by rw [oc_get ops j i hjl hi]; exact hu)
            rw [← Nat.add_assoc] at h1
            exact (hXw.cell (p := ⟨ob, _, none⟩) (cell_lt h1)).trans h1
          have hz := OK.out j hjl hjl
          have hst := st_succ (ws := ws) hjl
          have hpre := got_pre (ws := ws) (ops := ops) (j := j + 1) ops.length (by omega)
          rw [HG.out, hst] at hpre
          have hlen := st_length ws ops j
          obtain ⟨o, hoo⟩ : ∃ o, ops[j] = o := ⟨_, rfl⟩
          rw [hoo] at hcl hz hst hpre
          obtain ⟨kd, s, t, n, val⟩ := o
          have KD := ok_kinds hz
          dsimp only at KD
          have d0 := hcl 0 (.int .i64 kd) (by omega) rfl
          have d1 := hcl 1 (.int .i64 s) (by omega) rfl
          rw [Nat.add_zero] at d0
          have hXW := Lib.hid hXw
          clear hcl hoo hoc hA hXw hz
          rcases KD with ⟨rfl, hp, -, hgo⟩ | ⟨rfl, -, -, hgo⟩ | ⟨rfl, -, -, -, hgo⟩ | ⟨rfl, -, -, hgo⟩
          · rw [hlen] at hp
            obtain ⟨p1, p2, p3, p4⟩ := partB_spec.1 hp
            obtain ⟨x, rfl⟩ : ∃ x : Nat, s = (x : Int) := ⟨s.toNat, by omega⟩
            rw [hgo, Int.toNat_natCast] at hpre
            have hgo' : (stAt ws ops (j + 1)).got.length = m + 1 := by rw [hst, hgo, List.length_append, hgm.out]; rfl
            obtain ⟨tl, htl⟩ := hpre
            have hml : m < gs.length := by rw [← htl]; simp only [List.length_append, hgm.out, List.length_singleton]; omega
            have hmv : gs.getD m 0 = (stAt ws ops j).ws.getD x 0 := by
              rw [← htl, List.append_assoc, ← hgm.out]
              simp [List.getD_eq_getElem?_getD]
            have B := Lib.hid (BA.out j x (by omega) (by omega))
            rw [← hmv] at B
            have HGO := Lib.hid hgo'
            obtain ⟨A', cap', e, hA⟩ := GG.out
            simp only [Value.slice.injEq] at e
            obtain ⟨rfl, -, -⟩ := e
            obtain ⟨g, goff, rfl, hc⟩ := hA (by omega)
            have c0 := hc m _ (wc_get gs m hml)
            have c1 := (hX.out.cell (p := ⟨g, _, none⟩) (cell_lt c0)).trans c0
            have hml' : (m : Int) < (gs.length : Int) := by omega
            have z1 : decide ((gs.length : Int) ≤ (m : Int)) = false := decide_eq_false (by omega)
            have z2 : decide (gs.length ≤ m) = false := decide_eq_false (by omega)
            clear hst hlen hp hgo hgo' htl hmv hc hA c0
            generalize gs.getD m 0 = y at *
            have s0 := Lib.hid (And.intro c1 (And.intro d1 hX.out))
            clear hX
            go_upto_region 18 with (fail)
            go_region_held3 (fun W => W.cell? ⟨g, goff + m, none⟩ = some (.int .u64 y) ∧ W.cell? ⟨ob, off + j * 5 + 1, none⟩ = some (.int .i64 (x : Int)) ∧ Below X.heap.size X W) (first | exact ⟨s0.out.1, s0.out.2.1, s0.out.2.2.drew⟩ | exact s1.out)
              ((go_at_call 31; refine (B.out _ hXW.out.drew).mono ?_; rintro e w5 ⟨rfl, hb5⟩; have s1 := Lib.hid (show w5.cell? ⟨g, goff + m, none⟩ = some (.int .u64 y) ∧ w5.cell? ⟨ob, off + j * 5 + 1, none⟩ = some (.int .i64 (x : Int)) ∧ Below X.heap.size X w5 from ⟨(hb5.cell (p := ⟨g, _, none⟩) (by have := cell_lt s0.out.1; exact this)).trans s0.out.1, (hb5.cell (p := ⟨ob, _, none⟩) (by have := cell_lt s0.out.2.1; exact this)).trans s0.out.2.1, below_end s0.out.2.2.drew hb5⟩); clear hb5))
            go_wp2
            go_roundw
            case rel => exact ⟨j + 1, m + 1, by omega, by go_num, by go_num, by omega, HGO, Lib.hid s1.out.2.2⟩
            case measure => simp [intOf]; omega
          all_goals
            have HGO := Lib.hid (show (stAt ws ops (j + 1)).got.length = m by rw [hst, hgo, hgm.out])
            clear hst hlen hgo hpre
            go_wp2
            go_roundw
            case rel => exact ⟨j + 1, m, by omega, by go_num, rfl, hm, HGO, hX⟩
            case measure => simp [intOf]; omega
        · obtain rfl : j = ops.length := by omega
          have hM : m = gs.length := by rw [← hgm.out, HG.out]
          obtain rfl := hM
          go_wp2_with (go_at_call 10; refine (awake10 _).mono ?_; rintro e u3 ⟨rfl, hu3⟩)
          exact bodyPost_ret (v := .bool true) (by simp [results, Try.f6, go_sem]) rfl ⟨rfl, below_end (below_end K.out hX.out) hu3⟩
theorem last6 (v1 v2 : Value) (ws : List Int) (ops : List AOp) (w : World) (h1 : WAt w v1 ws) (h2 : OAt w v2 ops) :
    Calls Try.prog 6 #[v1, v2] w fun e w' => e = .returned (.bool true) ∧ Below w.heap.size w w' := by
  by_cases hl : 200 < ws.length ∨ 60 < ops.length
  · exact last6_long v1 v2 ws ops w h1 h2 hl
  · by_cases he : (playF ws ops).e = 0
    · exact last6_go v1 v2 ws ops w h1 h2 (by omega) (by omega) he
    · exact last6_err v1 v2 ws ops w h1 h2 (by omega) (by omega) he
end Ytkffabochgmagaa
end Go.Proofs
