/- The law WalkFilled answers true. -/
import Derived.Test.YteeghjhkfaeflaaQWlS
namespace Go.Proofs
namespace Yteeghjhkfaeflaa
open Go.RowKit

set_option maxRecDepth 100000 in
set_option maxHeartbeats 2000000 in
theorem filled9_far (A : Option Addr) (n cap : Nat) (B : Option Addr) (n2 cap2 : Nat) (x0 x1 : Int) (w : World) (hf : 200 < n ∨ 60 < n2) :
    Calls Try.prog 9 #[.slice A n cap, .agg #[.int .i64 x0, .int .i64 x1], .slice B n2 cap2] w fun e w' => e = .returned (.bool true) ∧ Below w.heap.size w w' := by
  by_cases h1 : 200 < n
  · have q : decide ((200 : Int) < (n : Int)) = true := decide_eq_true (by omega)
    clear hf h1
    go_enter Try.func9, Try.ntmps9
    go_wp2_with (go_at_call 12; refine (awake12 _).mono ?_; rintro e w1 ⟨rfl, hb1⟩)
    exact bodyPost_ret (v := .bool true) (by simp [results, Try.f9, go_sem]) rfl ⟨rfl, below_end (alloc_below w _) hb1⟩
  · have q : decide ((200 : Int) < (n : Int)) = false := decide_eq_false (by omega)
    have q2 : decide ((60 : Int) < (n2 : Int)) = true := decide_eq_true (by omega)
    clear hf h1
    go_enter Try.func9, Try.ntmps9
    go_wp2_with (go_at_call 12; refine (awake12 _).mono ?_; rintro e w1 ⟨rfl, hb1⟩)
    exact bodyPost_ret (v := .bool true) (by simp [results, Try.f9, go_sem]) rfl ⟨rfl, below_end (alloc_below w _) hb1⟩
theorem fil_bad {ws : List Int} {f t : Int} {l : List (Int × Int)} (h : ¬ (strF ws f t = 0 ∧ shpE l = 0 ∧ ¬ t < endF f l)) : ∃ er, filF ws f t l = (([], 0), er) ∧ er ≠ 0 := by
  by_cases hs : strF ws f t = 0
  · by_cases hc : shpE l = 0
    · refine ⟨5, ?_, by decide⟩
      unfold filF; rw [if_neg (by simp [hs]), if_neg (by simp [hc]), if_pos (Classical.byContradiction fun hn => h ⟨hs, hc, hn⟩)]
    · exact ⟨shpE l, by unfold filF; rw [if_neg (by simp [hs]), if_pos hc], hc⟩
  · exact ⟨strF ws f t, by unfold filF; rw [if_pos hs], hs⟩
set_option maxRecDepth 100000 in
set_option maxHeartbeats 2000000 in
theorem filled9_bad (v : Value) (ws : List Int) (x0 x1 : Int) (sl : Value) (l : List (Int × Int)) (w : World) (h : Ar w v ws) (hx : XAt w sl l.length (pc l)) (hsi : ∀ o ∈ l, shWf o) (hf : ¬ 200 < ws.length) (hl : l.length ≤ 60) (hbad : ¬ (strF ws x0 x1 = 0 ∧ shpE l = 0 ∧ ¬ x1 < endF x0 l)) :
    Calls Try.prog 9 #[v, .agg #[.int .i64 x0, .int .i64 x1], sl] w fun e w' => e = .returned (.bool true) ∧ Below w.heap.size w w' := by
  obtain ⟨er, e0, hne⟩ := fil_bad hbad
  have F29 := Lib.hid (fun W (hb : Below w.heap.size w W) => (fill29 v ws sl l x0 x1 W (h.below hb) (hx.below hb) hl (fun o ho => sh_si (hsi o ho))).mono fun e w' h => h.own2)
  rw [e0] at F29
  obtain ⟨A, cap, rfl, -, -⟩ := h.open
  obtain ⟨A2, cap2, rfl, -⟩ := hx
  have q : decide ((200 : Int) < (ws.length : Int)) = false := decide_eq_false (by omega)
  have q2 : decide ((60 : Int) < (l.length : Int)) = false := decide_eq_false (by omega)
  have q3 : (er != 0) = true := by simpa using hne
  dsimp only at F29
  have B0 := Lib.hid (alloc_below w (.cells #[.int .i64 x0, .int .i64 x1] 23))
  clear h hf hsi hl hbad e0 hne
  generalize ws.length = lx at *
  generalize l.length = ly at *
  go_enter Try.func9, Try.ntmps9
  go_wp2_with (first
    | (go_at_call 29; refine (F29.out _ B0.out).mono ?_; rintro e w1 ⟨u, rfl, ho, hb⟩; have HB := Lib.hid (below_end B0.out hb); obtain ⟨Au, cu, rfl, ho2⟩ := ho.out; clear ho ho2 hb)
    | (go_at_call 12; refine (awake12 _).mono ?_; rintro e w1 ⟨rfl, hb1⟩))
  exact bodyPost_ret (v := .bool true) (by simp [results, Try.f9, go_sem]) rfl ⟨rfl, below_end HB.out hb1⟩
set_option maxRecDepth 100000 in
set_option maxHeartbeats 4000000 in
theorem filled9_ok (v : Value) (ws : List Int) (x0 x1 : Int) (sl : Value) (l : List (Int × Int)) (w : World) (h : Ar w v ws) (hx : XAt w sl l.length (pc l)) (hsi : ∀ o ∈ l, shWf o) (hcap : ∀ A n c, sl = .slice A n c → n ≤ c) (hf : ¬ 200 < ws.length) (hl : l.length ≤ 60) (hs : strF ws x0 x1 = 0) (hc : shpE l = 0) (ht : ¬ x1 < endF x0 l) :
    Calls Try.prog 9 #[v, .agg #[.int .i64 x0, .int .i64 x1], sl] w fun e w' => e = .returned (.bool true) ∧ Below w.heap.size w w' := by
  obtain ⟨c1, c2, c3, c4, c5⟩ := str_ok hs
  have hge := end_ge l x0 hc
  have FD := Lib.hid (filled h.ui hs hc ht)
  have F29 := Lib.hid (fun W (hb : Below w.heap.size w W) => by
    have := (fill29 v ws sl l x0 x1 W (h.below hb) (hx.below hb) hl (fun o ho => sh_si (hsi o ho)))
    rw [fil_ok hs hc ht] at this
    exact this.mono fun e w' h => FAns.ar FD.out.ui (by rw [FD.out.len]; exact c5) h)
  have F29L := Lib.hid (fun (k : Nat) (hk : k ≤ l.length) (A : Option Addr) (n cap c : Nat) (hsl : sl = .slice A n cap) W (hb : Below w.heap.size w W) => show Calls Try.prog 29 #[v, .int .i64 x0, .int .i64 x1, .slice A k c] W (fun e w' => ∃ A4 n4 c4, e = .returned (.tuple #[.slice A4 n4 c4, .int .i64 (endF x0 (l.take k)), .int .i64 0]) ∧ Below W.heap.size W w') by
    subst hsl
    refine (fill29 v ws (.slice A k c) (l.take k) x0 x1 W (h.below hb) (xat_take (hx.below hb) hk c) (by rw [List.length_take]; omega) (fun o ho => sh_si (hsi o (List.mem_of_mem_take ho)))).mono ?_
    rintro e w' ⟨u, rfl, ho, hb⟩
    obtain ⟨A4, c4, rfl⟩ := own_form ho
    obtain ⟨f1, f2⟩ := fil_less hs hc ht k
    rw [f1, f2]
    exact ⟨A4, _, c4, rfl, hb⟩)
  have F33 := Lib.hid (fun v1 W (hb : Below w.heap.size w W) (h1 : Ar W v1 (filW ws x0 l)) => by
    have := (rdiffer35 v v1 ws (filW ws x0 l) W (h.below hb).at_ h1.at_ h.len h1.len).mono fun e w' h => h.own2
    rw [FD.out.dif.1] at this
    exact this)
  have F15 := Lib.hid (fun v1 W (h1 : Ar W v1 (filW ws x0 l)) => by
    have := (objects15 v1 (filW ws x0 l) x0 (endF x0 l) W h1).mono fun e w' h => h.own2
    rw [objs_eq, if_pos FD.out.wc, FD.out.vis] at this
    exact this)
  have F24 := Lib.hid (fun v1 W (h1 : Ar W v1 (filW ws x0 l)) => by
    have := (refs24 v1 (filW ws x0 l) x0 (endF x0 l) W h1).mono fun e w' h => h.own2
    rw [FD.out.ref.1] at this
    exact this)
  have HSI := Lib.hid hsi
  have HPC := Lib.hid (fun (j : Nat) (hj : j < l.length) => shp_all hc l[j] (List.getElem_mem hj))
  have PG := Lib.hid (plc_get l x0)
  have PLN := Lib.hid (plc_len l x0)
  have HSH := Lib.hid FD.out.sh
  have HRF := Lib.hid FD.out.ref.2
  have HDF := Lib.hid FD.out.dif.2
  have HRL := Lib.hid (refs_len (filW ws x0 l) x0 (endF x0 l))
  have ES := Lib.hid (fun (j : Nat) (hj : j < l.length) => show endF x0 (l.take (j + 1)) = endF x0 (l.take j) + (1 + l[j].1 + l[j].2) by
    rw [show l.take (j + 1) = l.take j ++ [l[j]] by rw [List.take_add_one, List.getElem?_eq_getElem hj]; rfl, end_snoc])
  have FGE := Lib.hid (fun (j : Nat) => (end_upto (f := x0) hc j).1)
  have ETK := Lib.hid (show endF x0 (l.take l.length) = endF x0 l by rw [List.take_length])
  have ENIL := Lib.hid (fun h0 : l.length = 0 => show endF x0 l = x0 by rw [List.eq_nil_of_length_eq_zero h0]; rfl)
  have hdl : (differF ws (filW ws x0 l)).1.length ≤ 1000000 := by
    have := diffs_len9 ws (filW ws x0 l)
    omega
  have q : decide ((200 : Int) < (ws.length : Int)) = false := decide_eq_false (by omega)
  have q2 : decide ((60 : Int) < (l.length : Int)) = false := decide_eq_false (by omega)
  have q3 : decide (x1 < endF x0 l) = false := decide_eq_false ht
  have he1 : x0 ≤ endF x0 l := hge
  have he2 : endF x0 l ≤ 1601 := by omega
  have HX0 := Lib.hid c2
  have HE := Lib.hid (⟨he1, he2⟩ : x0 ≤ endF x0 l ∧ endF x0 l ≤ 1601)
  have HDL := Lib.hid hdl
  have HX := Lib.hid hx
  obtain ⟨Av, cv, rfl, -, -⟩ := h.open
  obtain ⟨As, cs, rfl, hxa⟩ := hx
  have HXA := Lib.hid hxa
  have HCP := Lib.hid (hcap _ _ _ rfl)
  have F29M := Lib.hid (fun (k : Nat) (hk : k ≤ l.length) W (hb : Below w.heap.size w W) => F29L.out k hk As l.length cs cs rfl W hb)
  clear h hcap hsi hf hs hc ht c1 c2 c3 c4 c5 hge FD F29L hdl he1 he2 hxa
  generalize ws.length = lx at *
  generalize filW ws x0 l = V at *
  generalize hen : endF x0 l = en at *
  generalize (differF ws V).1 = DL at *
  generalize (refsF V x0 en).1 = RL at *
  obtain ⟨m, hm⟩ : ∃ m, l.length = m := ⟨_, rfl⟩
  have HM := Lib.hid hm
  have HEN := Lib.hid hen
  rw [hm] at q2 F29 HXA HX HCP hl ⊢
  clear hm hen
  have N0 := Lib.hid (heap_alloc_new w (.cells #[.int .i64 x0, .int .i64 x1] 23))
  have B0 := Lib.hid (alloc_below w (.cells #[.int .i64 x0, .int .i64 x1] 23))
  go_enter Try.func9, Try.ntmps9
  go_upto_region 3 with (fail)
  generalize w.alloc (.cells #[.int .i64 x0, .int .i64 x1] 23) = W0 at *
  obtain ⟨t0, t1, -, -⟩ := two_free N0.out
  go_upto_region 6 with (go_at_call 29; refine (F29.out _ B0.out).mono ?_; rintro e w1 ⟨v1, rfl, X1, hb1⟩; obtain ⟨A1, k1, rfl, -, -⟩ := X1.out.open)
  have N1 := Lib.hid (keep_heap hb1 N0.out)
  have B1 := Lib.hid (below_end B0.out hb1)
  clear t0 t1 N0 B0 hb1
  obtain ⟨t0, t1, -, -⟩ := two_free N1.out
  go_upto_region 7 with (go_at_call 15; refine (F15.out _ _ X1.out).mono ?_; rintro e w2 ⟨v2, rfl, X2, hb2⟩)
  have N2 := Lib.hid (keep_heap hb2 N1.out)
  have B2 := Lib.hid (below_end B1.out hb2)
  have Y1 := Lib.hid (X1.out.below hb2)
  clear t0 t1 N1 B1 hb2 X1
  obtain ⟨t0, t1, -, -⟩ := two_free N2.out
  go_upto_region 8 with (go_at_call 24; refine (F24.out _ _ Y1.out).mono ?_; rintro e w3 ⟨v3, rfl, X3, hb3⟩)
  have N3 := Lib.hid (keep_heap hb3 N2.out)
  have B3 := Lib.hid (below_end B2.out hb3)
  have Z1 := Lib.hid (Y1.out.below hb3)
  have Z2 := Lib.hid (X2.out.below hb3)
  clear t0 t1 N2 B2 hb3 Y1 X2
  go_upto_region 9 with (go_at_call 33; refine (F33.out _ _ B3.out Z1.out).mono ?_; rintro e w4 ⟨v4, rfl, X4, hb4⟩)
  have N4 := Lib.hid (keep_heap hb4 N3.out)
  have B4 := Lib.hid (below_end B3.out hb4)
  have U1 := Lib.hid (Z1.out.below hb4)
  have U2 := Lib.hid (Z2.out.below hb4)
  have U3 := Lib.hid (X3.out.below hb4)
  clear N3 B3 hb4 Z1 Z2 X3
  obtain ⟨t0, t1, -, -⟩ := two_free N4.out
  obtain ⟨A2, k2, rfl, ha2⟩ := U2.out
  obtain ⟨A3, k3, rfl, ha3⟩ := U3.out
  obtain ⟨A4, k4, rfl, ha4⟩ := X4.out
  rw [PLN.out, HM.out] at ha2 ⊢
  obtain ⟨nr, hnr⟩ : ∃ nr, RL.length = nr := ⟨_, rfl⟩
  obtain ⟨nd, hnd⟩ : ∃ nd, DL.length = nd := ⟨_, rfl⟩
  have HNR := Lib.hid hnr
  have HND := Lib.hid hnd
  rw [hnr] at ha3 ⊢
  rw [hnd] at ha4 ⊢
  have HA2 := Lib.hid ha2
  have HA3 := Lib.hid ha3
  have HA4 := Lib.hid ha4
  clear ha2 ha3 ha4 hnr hnd U2 U3 X4 F15 F24 F33 F29
  have n0 : ((m : Int) != (m : Int)) = false := by simp
  go_upto_region 12 with (fail)
  clear t0 t1
  go_loopw [15] (fun i wr => ∃ j : Nat, j ≤ m ∧ i = .int .i64 j ∧ Hid (Below w4.heap.size w4 wr)) (fun i _ => m - (intOf i).toNat)
  case atStart => exact ⟨0, by omega, rfl, Lib.hid (Below.refl _ _)⟩
  case round =>
    obtain ⟨j, hj, rfl, hB⟩ := hrel
    by_cases hlt : j < m
    · have hlt' : (j : Int) < (m : Int) := by omega
      have hjl : j < l.length := by rw [HM.out]; exact hlt
      obtain ⟨b2, o2, rfl, cb⟩ := HA2.out (by omega)
      have cb1 := keep_cell hB.out (cb j _ (ic_get _ j (by rw [PLN.out]; exact hjl)))
      rw [PG.out j hjl] at cb1
      have SH := Lib.hid (rshape16 _ V (endF x0 (l.take j)) wr (U1.out.below hB.out))
      rw [HSH.out j hjl] at SH
      obtain ⟨bs, os, rfl, ca⟩ := HXA.out (by omega)
      have ca1 := keep_cell (below_end B4.out hB.out) (ca _ _ (pc_get l j hjl).1)
      have ca2 := keep_cell (below_end B4.out hB.out) (ca _ _ (pc_get l j hjl).2)
      rw [← Nat.add_assoc] at ca2
      have hgl : l.getD j (0, 0) = l[j] := by simp [List.getD_eq_getElem?_getD, hjl]
      rw [hgl] at ca1 ca2
      have ad1 : (⟨bs, os, none⟩ : Addr).add (j * 2) = ⟨bs, os + j * 2, none⟩ := by unfold Addr.add; split <;> simp_all
      have ad2 : (⟨b2, o2, none⟩ : Addr).add j = ⟨b2, o2 + j, none⟩ := by unfold Addr.add; split <;> simp_all
      generalize l[j] = x at *
      obtain ⟨y, z⟩ := x
      dsimp only at *
      have NS := fun W => neS y z W
      have K1 := Lib.hid (⟨ca1, ca2⟩ : wr.cell? ⟨bs, os + j * 2, none⟩ = some (.int .i64 y) ∧ wr.cell? ⟨bs, os + j * 2 + 1, none⟩ = some (.int .i64 z))
      clear ca cb hgl ca1 ca2
      go_upto_region 15 with (go_at_call 32; refine SH.out.mono ?_; rintro e w5 ⟨rfl, hb5⟩)
      have B5 := Lib.hid (below_end hB.out hb5)
      have hb6 := alloc_below w5 (.cells #[.int .i64 y, .int .i64 z] 51)
      have N6 := Lib.hid (heap_alloc_new w5 (.cells #[.int .i64 y, .int .i64 z] 51))
      have B6 := Lib.hid (below_end B5.out hb6)
      have k1' := keep_cell hb6 (keep_cell hb5 K1.out.1)
      have k2' := keep_cell hb6 (keep_cell hb5 K1.out.2)
      clear hb5 hb6 cb1
      generalize w5.heap.size = gb at *
      generalize w5.alloc (.cells #[.int .i64 y, .int .i64 z] 51) = W6 at *
      obtain ⟨t0, t1, -, -⟩ := two_free N6.out
      go_quiet (fail)
      go_wp2
      refine ⟨⟨j + 1, by omega, by simp, Lib.hid (below_drewN B6.out _)⟩, ?_⟩
      show m - ((j : Int) + 1).toNat < m - ((j : Int)).toNat
      omega
    have ek : j = m := by omega
    subst ek
    have hlt' : ¬ (j : Int) < (j : Int) := by omega
    go_upto_region 18 with (fail)
    clear hlt hlt'
    go_loopw [18] (fun i wr2 => ∃ k : Nat, k ≤ nr ∧ i = .int .i64 k ∧ Hid (Below w4.heap.size w4 wr2)) (fun i _ => nr - (intOf i).toNat)
    case atStart => exact ⟨0, by omega, rfl, hB⟩
    case round =>
      clear hB
      obtain ⟨k, hk, rfl, hB⟩ := hrel
      by_cases hlt : k < nr
      · have hlt' : (k : Int) < (nr : Int) := by omega
        have hkl : k < RL.length := by rw [HNR.out]; exact hlt
        obtain ⟨b3, o3, rfl, cb⟩ := HA3.out (by omega)
        have cb1 := keep_cell hB.out (cb _ _ (pc_get RL k hkl).2)
        rw [← Nat.add_assoc, show RL.getD k (0, 0) = RL[k] by simp [List.getD_eq_getElem?_getD, hkl], HRF.out _ (List.getElem_mem hkl)] at cb1
        have ad1 : (⟨b3, o3, none⟩ : Addr).add (k * 2) = ⟨b3, o3 + k * 2, none⟩ := by unfold Addr.add; split <;> simp_all
        have hnb : nr ≤ 102464 := by rw [← HNR.out]; exact HRL.out
        clear cb
        go_wp2
        refine ⟨⟨k + 1, by omega, by simp, hB⟩, ?_⟩
        show nr - ((k : Int) + 1).toNat < nr - ((k : Int)).toNat
        omega
      have ek : k = nr := by omega
      subst ek
      have hlt' : ¬ (k : Int) < (k : Int) := by omega
      go_upto_region 23 with (fail)
      clear hlt hlt'
      go_loopw [19] (fun i wr3 => ∃ k : Nat, k ≤ nd ∧ i = .int .i64 k ∧ Hid (Below w4.heap.size w4 wr3)) (fun i _ => nd - (intOf i).toNat)
      case atStart => exact ⟨0, by omega, rfl, hB⟩
      case round =>
        clear hB
        obtain ⟨k2, hk2, rfl, hB⟩ := hrel
        by_cases hlt : k2 < nd
        · have hlt' : (k2 : Int) < (nd : Int) := by omega
          have hkl : k2 < DL.length := by rw [HND.out]; exact hlt
          obtain ⟨b4, o4, rfl, cb⟩ := HA4.out (by omega)
          have cb1 := keep_cell hB.out (cb _ _ (ic_get DL k2 hkl))
          rw [show DL.getD k2 0 = DL[k2] by simp [List.getD_eq_getElem?_getD, hkl]] at cb1
          obtain ⟨d1, d2⟩ := HDF.out _ (List.getElem_mem hkl)
          generalize DL[k2] = d at *
          have q5 : decide (d < x0) = false := decide_eq_false (by omega)
          have q6 : decide (en ≤ d) = false := decide_eq_false (by omega)
          have ad1 : (⟨b4, o4, none⟩ : Addr).add k2 = ⟨b4, o4 + k2, none⟩ := by unfold Addr.add; split <;> simp_all
          have hnb : nd ≤ 1000000 := by rw [← HND.out]; exact HDL.out
          obtain ⟨t0, t1, -, -⟩ := two_free (keep_heap hB.out N4.out)
          clear cb d1 d2
          go_upto_region 25 with (fail)
          go_quiet (fail)
          go_wp2
          refine ⟨⟨k2 + 1, by omega, by simp, Lib.hid (below_drewN hB.out _)⟩, ?_⟩
          show nd - ((k2 : Int) + 1).toNat < nd - ((k2 : Int)).toNat
          omega
        have ek : k2 = nd := by omega
        subst ek
        have hlt' : ¬ (k2 : Int) < (k2 : Int) := by omega
        obtain ⟨t0, t1, -, -⟩ := two_free (keep_heap hB.out N4.out)
        by_cases hm0 : j = 0
        · have he0 := ENIL.out (by rw [HM.out]; exact hm0)
          subst hm0
          have q7 : (en == x0) = true := by simpa using he0
          clear he0
          go_wp2_with (go_at_call 12; refine (awake12 _).mono ?_; rintro e w6 ⟨rfl, hb6⟩)
          exact bodyPost_ret (v := .bool true) (by simp [results, Try.f9, go_sem]) rfl ⟨rfl, below_end (below_end B4.out hB.out) hb6⟩
        obtain ⟨i, hi⟩ : ∃ i : Nat, j = i + 1 := ⟨j - 1, by omega⟩
        have hil : i < l.length := by rw [HM.out]; omega
        have hij : i < j := by omega
        have hij' : (i : Int) < (j : Int) := by omega
        have qm : ((j : Int) == 0) = false := by simp; omega
        have e8 : IntKind.i64.wrap ((j : Int) - 1) = (i : Int) := by rw [IntWalk.i64_in _ (by omega)]; omega
        have EE := ES.out i hil
        rw [← hi, ← HM.out, ETK.out] at EE
        have hal := (PG.out i hil)
        have hge0 : x0 ≤ endF x0 (l.take i) := FGE.out i
        obtain ⟨bs, os, rfl, ca⟩ := HXA.out (by omega)
        have RP := fun W => run_pre bs os j cs i (by have := HCP.out; omega) W
        have F30 := Lib.hid (F29M.out i (Nat.le_of_lt hil))
        have ca1 := keep_cell (below_end B4.out hB.out) (ca _ _ (pc_get l i hil).1)
        have ca2 := keep_cell (below_end B4.out hB.out) (ca _ _ (pc_get l i hil).2)
        rw [← Nat.add_assoc] at ca2
        have hgl : l.getD i (0, 0) = l[i] := by simp [List.getD_eq_getElem?_getD, hil]
        rw [hgl] at ca1 ca2
        obtain ⟨b2, o2, rfl, cb⟩ := HA2.out (by omega)
        have cb1 := cb i _ (ic_get _ i (by rw [PLN.out]; exact hil))
        rw [hal] at cb1
        have CB := Lib.hid cb1
        have hcz := HPC.out i hil
        have hsj := sh_si (HSI.out l[i] (List.getElem_mem hil))
        have ad1 : (⟨bs, os, none⟩ : Addr).add (i * 2) = ⟨bs, os + i * 2, none⟩ := by unfold Addr.add; split <;> simp_all
        have ad2 : (⟨b2, o2, none⟩ : Addr).add i = ⟨b2, o2 + i, none⟩ := by unfold Addr.add; split <;> simp_all
        generalize l[i] = x at *
        obtain ⟨y, z⟩ := x
        dsimp only at *
        obtain ⟨z0, z1, z2⟩ := Hd.chk_zero.1 hcz
        have SZ := Lib.hid (fun W => Hd.size36 y z hsj.1 hsj.2 W)
        rw [hcz, show Hd.sizeV y z = 1 + y + z by unfold Hd.sizeV; rw [if_pos hcz]] at SZ
        generalize endF x0 (l.take i) = a at *
        obtain ⟨hE1, hE2⟩ := HE.out
        have hE0 := HX0.out
        have e9 : IntKind.i64.wrap (en - (1 + y + z)) = en - (1 + y + z) := IntWalk.i64_in _ (by omega)
        have q8 : (a == en - (1 + y + z)) = true := by simp; omega
        have q9 : (a == a) = true := by simp
        clear ca cb cb1 hgl hcz hsj hal EE hge0 hm0 hi hil
        go_upto_region 30 with (go_at_call 34; refine (SZ.out _).mono ?_; rintro e w6 ⟨rfl, hb6⟩)
        have B6 := Lib.hid (below_end hB.out hb6)
        obtain ⟨d0, d1, -, -⟩ := two_free (show w6.drew.heap[w.heap.size]? = some (.cells #[.int .i64 x0, .int .i64 x1] 23 (0, 0)) from keep_heap B6.out N4.out)
        have T := Lib.hid (F30.out w6.drew (below_end B4.out B6.out).drew)
        clear ca1 ca2 t0 t1 hb6
        go_region_with (go_at_call 29; refine T.out.mono ?_; rintro e w7 ⟨A7, n7, k7, rfl, hb7⟩; have B7 := Lib.hid (below_end B6.out.drew hb7); have cp := keep_cell B7.out CB.out)
        all_goals
          go_wp2_with (go_at_call 12; refine (awake12 _).mono ?_; rintro e w8 ⟨rfl, hb8⟩)
          exact bodyPost_ret (v := .bool true) (by simp [results, Try.f9, go_sem]) rfl ⟨rfl, below_end (below_end B4.out B7.out) hb8⟩
theorem filled9 (v : Value) (ws : List Int) (x0 x1 : Int) (sl : Value) (l : List (Int × Int)) (w : World) (h : Ar w v ws) (hx : XAt w sl l.length (pc l)) (hsi : ∀ o ∈ l, shWf o) (hcap : ∀ A n c, sl = .slice A n c → n ≤ c) :
    Calls Try.prog 9 #[v, .agg #[.int .i64 x0, .int .i64 x1], sl] w fun e w' => e = .returned (.bool true) ∧ Below w.heap.size w w' := by
  by_cases hg : 200 < ws.length ∨ 60 < l.length
  · obtain ⟨A, cap, rfl, -, -⟩ := h.open
    obtain ⟨A2, cap2, rfl, -⟩ := hx
    exact filled9_far A ws.length cap A2 l.length cap2 x0 x1 w hg
  · by_cases hb : strF ws x0 x1 = 0 ∧ shpE l = 0 ∧ ¬ x1 < endF x0 l
    · exact filled9_ok v ws x0 x1 sl l w h hx hsi hcap (by omega) (by omega) hb.1 hb.2.1 hb.2.2
    · exact filled9_bad v ws x0 x1 sl l w h hx hsi (by omega) (by omega) hb
end Yteeghjhkfaeflaa
end Go.Proofs
