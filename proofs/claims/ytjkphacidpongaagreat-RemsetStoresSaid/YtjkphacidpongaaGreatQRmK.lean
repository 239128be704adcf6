/- Record, Forget and Store, the program's. -/
import Derived.Test.YtjkphacidpongaaGreatQRmJ
namespace Go.Proofs
namespace YtjkphacidpongaaGreat
open Go.RowKit
open Cf (good plC plE chkE)

set_option maxRecDepth 100000 in
theorem or39_any (g : Nat) (x y : Int) (w : World) (h : w.heap[g]? = some (.cells #[.int .i64 x, .int .i64 y] 34 (0, 0))) :
    Calls Tryz.prog 54 #[.slice (some ⟨g, 0, none⟩) 2 2] w fun e w' => e = .returned (.int .i64 (if x = 0 then y else x)) ∧ w = w' := by
  have d0 := cell_of_row _ _ 0 _ _ _ h
  have d1 := cell_of_row _ _ 1 _ _ _ h
  simp only [List.getElem?_toArray, List.getElem?_cons_zero, List.getElem?_cons_succ] at d0 d1
  clear h
  by_cases hx : x = 0
  · subst hx
    rw [if_pos rfl]
    by_cases hy : y = 0
    · subst hy
      go_enter Tryz.func54, Tryz.ntmps54
      go_wp2
      go_loopw [8] (fun i wr => ∃ j : Nat, j ≤ 2 ∧ i = .int .i64 j ∧ Hid (w = wr)) (fun i _ => 2 - (intOf i).toNat)
      case atStart => exact ⟨0, by omega, rfl, Lib.hid rfl⟩
      case round =>
        obtain ⟨j, hj, rfl, hw⟩ := hrel
        obtain rfl := hw.out
        rcases (by omega : j = 0 ∨ j = 1 ∨ j = 2) with rfl | rfl | rfl
        · go_wp2
          refine ⟨⟨1, by omega, rfl, Lib.hid trivial⟩, ?_⟩
          decide
        · go_wp2
          refine ⟨⟨2, by omega, rfl, Lib.hid trivial⟩, ?_⟩
          decide
        · go_wp2
          go_ret
          exact ⟨rfl, rfl⟩
    · have q : (y != 0) = true := by simpa using hy
      clear hy
      go_enter Tryz.func54, Tryz.ntmps54
      go_wp2
      go_loopw [8] (fun i wr => ∃ j : Nat, j ≤ 1 ∧ i = .int .i64 j ∧ Hid (w = wr)) (fun i _ => 2 - (intOf i).toNat)
      case atStart => exact ⟨0, by omega, rfl, Lib.hid rfl⟩
      case round =>
        obtain ⟨j, hj, rfl, hw⟩ := hrel
        obtain rfl := hw.out
        rcases (by omega : j = 0 ∨ j = 1) with rfl | rfl
        · go_wp2
          refine ⟨⟨1, by omega, rfl, Lib.hid trivial⟩, ?_⟩
          decide
        · go_wp2
          go_ret
          exact ⟨rfl, rfl⟩
  · have q : (x != 0) = true := by simpa using hx
    rw [if_neg hx]
    clear hx
    go_enter Tryz.func54, Tryz.ntmps54
    go_wp2
    go_loopw [8] (fun i wr => i = .int .i64 0 ∧ Hid (w = wr)) (fun i _ => 2 - (intOf i).toNat)
    case atStart => exact ⟨rfl, Lib.hid rfl⟩
    case round =>
      obtain ⟨rfl, hw⟩ := hrel
      obtain rfl := hw.out
      go_wp2
      go_ret
      exact ⟨rfl, rfl⟩
theorem set_range {C N S K Q slot target : Int} (h : (setF C N S K Q slot target).2 = 0) : (1 ≤ slot ∧ slot ≤ 1600) ∧ ((setF C N S K Q slot target).1 = -2 ∨ (setF C N S K Q slot target).1 = -1 ∨ (0 ≤ (setF C N S K Q slot target).1 ∧ (setF C N S K Q slot target).1 < N)) := by
  by_cases h1 : plE C N S K Q slot ≠ 0
  · rw [set_1 h1] at h; exact absurd h h1
  have hs := slot_range (Classical.byContradiction h1)
  refine ⟨hs, ?_⟩
  by_cases h2 : target = 0
  · subst h2; rw [set_2 h1]; exact .inl rfl
  by_cases h3 : plE C N S K Q target ≠ 0
  · rw [set_3 h1 h2 h3]; exact .inl rfl
  by_cases h4 : plC C N S K Q slot = -1 ∨ plC C N S K Q slot = plC C N S K Q target
  · rw [set_4 h1 h2 h3 h4]; exact .inl rfl
  · rw [set_5 h1 h2 h3 h4]
    have a1 := plC_ge C N S K Q target
    have a2 := plC_lt (Classical.byContradiction h3)
    dsimp only
    omega
theorem change51 (A nv : Value) (n : Nat) (U : Nat → Value) (T : Nat → List Int) (slot k l : Int) (hk : k = -2 ∨ k = -1 ∨ (0 ≤ k ∧ k < n)) (hl : l = -2 ∨ l = -1 ∨ (0 ≤ l ∧ l < n)) (w : World) (hR : RS w A nv n U T) (hG : ∀ j, j ≤ n → Good (T j)) (hs : 1 ≤ slot ∧ slot ≤ 1600) (hn : n ≤ 1000000) :
    Calls Tryz.prog 51 #[.agg #[A, nv], .int .i64 slot, .int .i64 k, .int .i64 l] w fun e w' => RsAns w n (changeF n T slot k l) 0 e w' := by
  rcases hk with rfl | hk
  · rcases hl with rfl | hl
    · exact change51_nn A nv n U T slot w hR hG hs hn
    · exact change51_ns A nv n U T slot l hl w hR hG hs hn
  · rcases hl with rfl | hl
    · exact change51_sn A nv n U T slot k hk w hR hG hs hn
    · exact change51_ss A nv n U T slot k hk l hl w hR hG hs hn
/-- sets, and an error: all is zero with an error -/
def orS (c : Int) (n : Nat) (T : Nat → List Int) : Nat × (Nat → List Int) × Int := if c ≠ 0 then (0, fun _ => [], c) else (n, T, 0)
theorem or_err {c : Int} {n : Nat} {T : Nat → List Int} (h : c ≠ 0) : orS c n T = (0, fun _ => [], c) := if_pos h
theorem or_ok {n : Nat} {T : Nat → List Int} : orS 0 n T = (n, T, 0) := if_neg (by simp)
def firstE (a b : Int) : Int := if a = 0 then b else a
def recE (C N S K Q : Int) (n : Nat) (T : Nat → List Int) (slot target : Int) : Int := firstE (chkS C N S K Q n T).2 (setF C N S K Q slot target).2
def recF (C N S K Q : Int) (n : Nat) (T : Nat → List Int) (slot target : Int) := orS (recE C N S K Q n T slot target) n (changeF n T slot (-2) (setF C N S K Q slot target).1)
def forF (C N S K Q : Int) (n : Nat) (T : Nat → List Int) (slot target : Int) := orS (recE C N S K Q n T slot target) n (changeF n T slot (setF C N S K Q slot target).1 (-2))
def stoE (C N S K Q : Int) (n : Nat) (T : Nat → List Int) (slot old now : Int) : Int := firstE (chkS C N S K Q n T).2 (firstE (setF C N S K Q slot old).2 (setF C N S K Q slot now).2)
def stoF (C N S K Q : Int) (n : Nat) (T : Nat → List Int) (slot old now : Int) := orS (stoE C N S K Q n T slot old now) n (if old = now then T else changeF n T slot (setF C N S K Q slot old).1 (setF C N S K Q slot now).1)
theorem first_1 {a b : Int} (h : a ≠ 0) : firstE a b = a := if_neg h
theorem first_2 {b : Int} : firstE 0 b = b := if_pos rfl
theorem three_of (w : World) (o0 o1 o2 : Obj) : (((w.alloc o0).alloc o1).alloc o2).heap[w.heap.size]? = some o0 ∧ (((w.alloc o0).alloc o1).alloc o2).heap[w.heap.size + 1]? = some o1 ∧ (((w.alloc o0).alloc o1).alloc o2).heap[w.heap.size + 2]? = some o2 ∧ Below w.heap.size w (((w.alloc o0).alloc o1).alloc o2) :=
  let ⟨h0, h1, h2, _, h4⟩ := three_boxes w o0 o1 o2; ⟨h0, h1, h2, h4⟩
/-- a zero is stored into a box of slices -/
theorem ret_zero {w W : World} {b : Nat} (hB : Below w.heap.size w W) (hb : W.heap[b]? = some (.cells #[nilV, nilV] 29 (0, 0))) (hwb : w.heap.size ≤ b) :
    ((W.setCell ⟨b, 0, none⟩ nilV).setCell ⟨b, 1, none⟩ nilV).cell? ⟨b, 0, none⟩ = some nilV ∧ ((W.setCell ⟨b, 0, none⟩ nilV).setCell ⟨b, 1, none⟩ nilV).cell? ⟨b, 1, none⟩ = some nilV ∧ Below w.heap.size w ((W.setCell ⟨b, 0, none⟩ nilV).setCell ⟨b, 1, none⟩ nilV) := by
  have h := ret_two (RS.zero W) hB hb hwb (fun c off m cp e => by cases e)
  exact ⟨h.1, h.2.1, h.2.2.2⟩
section
variable (C N S K Q : Int)
set_option maxRecDepth 100000 in
set_option maxHeartbeats 2000000 in
theorem record19 (A nv : Value) (n : Nat) (U : Nat → Value) (T : Nat → List Int) (slot target : Int) (w : World) (hR : RS w A nv n U T) (hm : ∀ j, j ≤ n → (T j).length ≤ 100000) :
    Calls Tryz.prog 17 #[.agg #[.int .i64 C, .int .i64 N, .int .i64 S, .int .i64 K, .int .i64 Q], .agg #[A, nv], .int .i64 slot, .int .i64 target] w fun e w' => RsAns w (recF C N S K Q n T slot target).1 (recF C N S K Q n T slot target).2.1 (recF C N S K Q n T slot target).2.2 e w' := by
  obtain ⟨a, cap, hA, -⟩ := hR.form
  subst hA
  obtain ⟨k0, k1, k2, k3⟩ := three_of w (.cells #[.int .i64 C, .int .i64 N, .int .i64 S, .int .i64 K, .int .i64 Q] 23) (.cells #[.slice a n cap, nv] 29) (.cells #[nilV, nilV] 29)
  have CK := Lib.hid (check17 C N S K Q _ nv n U T _ (hR.below k3) hm)
  have SF := Lib.hid (setFor50 C N S K Q slot target)
  obtain ⟨c0, c1, c2, c3, c4⟩ := five_cells k0
  obtain ⟨s0, s1, -, -⟩ := two_cells k1
  have B := Lib.hid k3
  have K0 := Lib.hid k0
  have K1 := Lib.hid k1
  have K2 := Lib.hid k2
  unfold nilV at *
  by_cases h1 : (chkS C N S K Q n T).2 ≠ 0
  · have e0 : recE C N S K Q n T slot target = (chkS C N S K Q n T).2 := first_1 h1
    unfold recF
    rw [e0, or_err h1]
    dsimp only
    obtain ⟨cc, hcc⟩ : ∃ cc, chkS C N S K Q n T = cc := ⟨_, rfl⟩
    rw [hcc] at CK h1 ⊢
    obtain ⟨cc1, cc2⟩ := cc
    dsimp only at *
    have q1 : (cc2 != 0) = true := by simpa using h1
    clear k0 k1 k2 k3 hR hm h1 e0 hcc
    go_enter Tryz.func17, Tryz.ntmps17
    go_upto_region 3 with (go_at_call 12; refine CK.out.mono ?_; rintro e w1 ⟨rfl, hb1⟩; have B1 := Lib.hid (below_end B.out hb1); have K0 := Lib.hid (keep_heap hb1 K0.out); have K1 := Lib.hid (keep_heap hb1 K1.out); have K2 := Lib.hid (keep_heap hb1 K2.out); obtain ⟨d0, d1, d2, d3, d4⟩ := five_cells K0.out; obtain ⟨p0, p1, -, -⟩ := two_cells K1.out; obtain ⟨r0, r1, g0, g1⟩ := two_cells K2.out; clear hb1)
    obtain ⟨y0, y1, yb⟩ := ret_zero B1.out K2.out (show w.heap.size ≤ w.heap.size + 1 + 1 by omega)
    have YB := Lib.hid yb
    clear yb
    unfold nilV at *
    go_wp2
    refine bodyPost_ret (v := .tuple #[.agg #[.slice none 0 0, .slice none 0 0], .int .i64 cc2]) (by simp [results, Tryz.f17, go_sem, y0, y1]) rfl ⟨_, _, _, rfl, RS.zero _, YB.out, nil_new _⟩
  have hok := ok_of_chk (Classical.byContradiction h1)
  rw [hok.chk] at CK h1
  have hn := hok.len
  have hn24 : n ≤ 24 := by obtain ⟨-, -, -, n1, -⟩ := hok.cfg; omega
  have hGd : ∀ j, j ≤ n → Good (T j) := fun j hj => wrong_good (hok.sets j hj)
  have e0 : recE C N S K Q n T slot target = (setF C N S K Q slot target).2 := by unfold recE; rw [hok.chk]; exact first_2
  have SR := Lib.hid (set_range (C := C) (N := N) (S := S) (K := K) (Q := Q) (slot := slot) (target := target))
  unfold recF
  rw [e0]
  obtain ⟨z, hz⟩ : ∃ z, setF C N S K Q slot target = z := ⟨_, rfl⟩
  rw [hz] at SF SR ⊢
  obtain ⟨z1, z2⟩ := z
  dsimp only at *
  by_cases h2 : z2 ≠ 0
  · rw [or_err h2]
    dsimp only
    have q1 : (z2 != 0) = true := by simpa using h2
    clear k0 k1 k2 k3 hR hm h1 e0 hz hok hn hn24 hGd SR h2
    go_enter Tryz.func17, Tryz.ntmps17
    go_upto_region 4 with (go_at_call 12; refine CK.out.mono ?_; rintro e w1 ⟨rfl, hb1⟩; have B1 := Lib.hid (below_end B.out hb1); have K0 := Lib.hid (keep_heap hb1 K0.out); have K1 := Lib.hid (keep_heap hb1 K1.out); have K2 := Lib.hid (keep_heap hb1 K2.out); obtain ⟨d0, d1, d2, d3, d4⟩ := five_cells K0.out; obtain ⟨p0, p1, -, -⟩ := two_cells K1.out; obtain ⟨r0, r1, g0, g1⟩ := two_cells K2.out; clear hb1 c0 c1 c2 c3 c4 s0 s1)
    go_upto_region 6 with (go_at_call 50; refine (SF.out _).mono ?_; rintro e w2 ⟨rfl, hb1⟩; clear d0 d1 d2 d3 d4 p0 p1 r0 r1 g0 g1; have B1 := Lib.hid (below_end B1.out hb1); have K0 := Lib.hid (keep_heap hb1 K0.out); have K1 := Lib.hid (keep_heap hb1 K1.out); have K2 := Lib.hid (keep_heap hb1 K2.out); obtain ⟨d0, d1, d2, d3, d4⟩ := five_cells K0.out; obtain ⟨p0, p1, -, -⟩ := two_cells K1.out; obtain ⟨r0, r1, g0, g1⟩ := two_cells K2.out; clear hb1)
    obtain ⟨y0, y1, yb⟩ := ret_zero B1.out K2.out (show w.heap.size ≤ w.heap.size + 1 + 1 by omega)
    have YB := Lib.hid yb
    clear yb
    unfold nilV at *
    go_wp2
    refine bodyPost_ret (v := .tuple #[.agg #[.slice none 0 0, .slice none 0 0], .int .i64 z2]) (by simp [results, Tryz.f17, go_sem, y0, y1]) rfl ⟨_, _, _, rfl, RS.zero _, YB.out, nil_new _⟩
  obtain rfl : z2 = 0 := Classical.byContradiction h2
  rw [or_ok]
  dsimp only
  obtain ⟨hs, hz1⟩ := SR.out rfl
  have CH := Lib.hid (fun W (hb : Below w.heap.size w W) => change51 (.slice a n cap) nv n U T slot (-2) z1 (.inl rfl) (by rw [hn]; exact hz1) W (hR.below hb) hGd hs (by omega))
  obtain ⟨T', hT'⟩ : ∃ T', changeF n T slot (-2) z1 = T' := ⟨_, rfl⟩
  rw [hT'] at CH ⊢
  unfold RsAns at CH
  clear k0 k1 k2 k3 hR hm h1 e0 hz hok hn hGd SR h2 hs hz1 hT'
  go_enter Tryz.func17, Tryz.ntmps17
  go_upto_region 4 with (go_at_call 12; refine CK.out.mono ?_; rintro e w1 ⟨rfl, hb1⟩; have B1 := Lib.hid (below_end B.out hb1); have K0 := Lib.hid (keep_heap hb1 K0.out); have K1 := Lib.hid (keep_heap hb1 K1.out); have K2 := Lib.hid (keep_heap hb1 K2.out); obtain ⟨d0, d1, d2, d3, d4⟩ := five_cells K0.out; obtain ⟨p0, p1, -, -⟩ := two_cells K1.out; obtain ⟨r0, r1, g0, g1⟩ := two_cells K2.out; clear hb1 c0 c1 c2 c3 c4 s0 s1)
  go_upto_region 7 with (go_at_call 50; refine (SF.out _).mono ?_; rintro e w2 ⟨rfl, hb1⟩; clear d0 d1 d2 d3 d4 p0 p1 r0 r1 g0 g1; have B1 := Lib.hid (below_end B1.out hb1); have K0 := Lib.hid (keep_heap hb1 K0.out); have K1 := Lib.hid (keep_heap hb1 K1.out); have K2 := Lib.hid (keep_heap hb1 K2.out); obtain ⟨d0, d1, d2, d3, d4⟩ := five_cells K0.out; obtain ⟨p0, p1, -, -⟩ := two_cells K1.out; obtain ⟨r0, r1, g0, g1⟩ := two_cells K2.out; clear hb1)
  go_wp2_with (go_at_call 51; refine (CH.out _ B1.out).mono ?_; rintro e w3 ⟨A3, nv3, U3, rfl, hr3, hb1, hna⟩; have hl2 := (Array.getElem?_eq_some_iff.1 K2.out).1; clear d0 d1 d2 d3 d4 p0 p1 r0 r1 g0 g1; have B1 := Lib.hid (below_end B1.out hb1); have K0 := Lib.hid (keep_heap hb1 K0.out); have K1 := Lib.hid (keep_heap hb1 K1.out); have K2 := Lib.hid (keep_heap hb1 K2.out); obtain ⟨d0, d1, d2, d3, d4⟩ := five_cells K0.out; obtain ⟨p0, p1, -, -⟩ := two_cells K1.out; obtain ⟨r0, r1, g0, g1⟩ := two_cells K2.out; obtain ⟨a3, c3', rfl, -⟩ := hr3.form; obtain ⟨m3, n3, l3, e3⟩ := (hr3.nur ▸ hr3.at_ n (Nat.le_refl _)).sl; subst e3; obtain ⟨y0, y1, yr, yb⟩ := ret_two hr3 B1.out K2.out (show w.heap.size ≤ w.heap.size + 1 + 1 by omega) (fun c off m cp e => by have := hna c off m cp e; omega); have YR := Lib.hid yr; have YB := Lib.hid yb; have NA := Lib.hid (show NewA w (.slice a3 n c3') from fun b off m c e => by have := hna b off m c e; omega); clear hb1 yr yb hr3 hna hl2)
  refine bodyPost_ret (v := .tuple #[.agg #[.slice a3 n c3', .slice m3 n3 l3], .int .i64 0]) (by simp [results, Tryz.f17, go_sem, y0, y1]) rfl ⟨_, _, _, rfl, YR.out, YB.out, NA.out⟩
set_option maxRecDepth 100000 in
set_option maxHeartbeats 2000000 in
theorem forget20 (A nv : Value) (n : Nat) (U : Nat → Value) (T : Nat → List Int) (slot target : Int) (w : World) (hR : RS w A nv n U T) (hm : ∀ j, j ≤ n → (T j).length ≤ 100000) :
    Calls Tryz.prog 19 #[.agg #[.int .i64 C, .int .i64 N, .int .i64 S, .int .i64 K, .int .i64 Q], .agg #[A, nv], .int .i64 slot, .int .i64 target] w fun e w' => RsAns w (forF C N S K Q n T slot target).1 (forF C N S K Q n T slot target).2.1 (forF C N S K Q n T slot target).2.2 e w' := by
  obtain ⟨a, cap, hA, -⟩ := hR.form
  subst hA
  obtain ⟨k0, k1, k2, k3⟩ := three_of w (.cells #[.int .i64 C, .int .i64 N, .int .i64 S, .int .i64 K, .int .i64 Q] 23) (.cells #[.slice a n cap, nv] 29) (.cells #[nilV, nilV] 29)
  have CK := Lib.hid (check17 C N S K Q _ nv n U T _ (hR.below k3) hm)
  have SF := Lib.hid (setFor50 C N S K Q slot target)
  obtain ⟨c0, c1, c2, c3, c4⟩ := five_cells k0
  obtain ⟨s0, s1, -, -⟩ := two_cells k1
  have B := Lib.hid k3
  have K0 := Lib.hid k0
  have K1 := Lib.hid k1
  have K2 := Lib.hid k2
  unfold nilV at *
  by_cases h1 : (chkS C N S K Q n T).2 ≠ 0
  · have e0 : recE C N S K Q n T slot target = (chkS C N S K Q n T).2 := first_1 h1
    unfold forF
    rw [e0, or_err h1]
    dsimp only
    obtain ⟨cc, hcc⟩ : ∃ cc, chkS C N S K Q n T = cc := ⟨_, rfl⟩
    rw [hcc] at CK h1 ⊢
    obtain ⟨cc1, cc2⟩ := cc
    dsimp only at *
    have q1 : (cc2 != 0) = true := by simpa using h1
    clear k0 k1 k2 k3 hR hm h1 e0 hcc
    go_enter Tryz.func19, Tryz.ntmps19
    go_upto_region 3 with (go_at_call 12; refine CK.out.mono ?_; rintro e w1 ⟨rfl, hb1⟩; have B1 := Lib.hid (below_end B.out hb1); have K0 := Lib.hid (keep_heap hb1 K0.out); have K1 := Lib.hid (keep_heap hb1 K1.out); have K2 := Lib.hid (keep_heap hb1 K2.out); obtain ⟨d0, d1, d2, d3, d4⟩ := five_cells K0.out; obtain ⟨p0, p1, -, -⟩ := two_cells K1.out; obtain ⟨r0, r1, g0, g1⟩ := two_cells K2.out; clear hb1)
    obtain ⟨y0, y1, yb⟩ := ret_zero B1.out K2.out (show w.heap.size ≤ w.heap.size + 1 + 1 by omega)
    have YB := Lib.hid yb
    clear yb
    unfold nilV at *
    go_wp2
    refine bodyPost_ret (v := .tuple #[.agg #[.slice none 0 0, .slice none 0 0], .int .i64 cc2]) (by simp [results, Tryz.f19, go_sem, y0, y1]) rfl ⟨_, _, _, rfl, RS.zero _, YB.out, nil_new _⟩
  have hok := ok_of_chk (Classical.byContradiction h1)
  rw [hok.chk] at CK h1
  have hn := hok.len
  have hn24 : n ≤ 24 := by obtain ⟨-, -, -, n1, -⟩ := hok.cfg; omega
  have hGd : ∀ j, j ≤ n → Good (T j) := fun j hj => wrong_good (hok.sets j hj)
  have e0 : recE C N S K Q n T slot target = (setF C N S K Q slot target).2 := by unfold recE; rw [hok.chk]; exact first_2
  have SR := Lib.hid (set_range (C := C) (N := N) (S := S) (K := K) (Q := Q) (slot := slot) (target := target))
  unfold forF
  rw [e0]
  obtain ⟨z, hz⟩ : ∃ z, setF C N S K Q slot target = z := ⟨_, rfl⟩
  rw [hz] at SF SR ⊢
  obtain ⟨z1, z2⟩ := z
  dsimp only at *
  by_cases h2 : z2 ≠ 0
  · rw [or_err h2]
    dsimp only
    have q1 : (z2 != 0) = true := by simpa using h2
    clear k0 k1 k2 k3 hR hm h1 e0 hz hok hn hn24 hGd SR h2
    go_enter Tryz.func19, Tryz.ntmps19
    go_upto_region 4 with (go_at_call 12; refine CK.out.mono ?_; rintro e w1 ⟨rfl, hb1⟩; have B1 := Lib.hid (below_end B.out hb1); have K0 := Lib.hid (keep_heap hb1 K0.out); have K1 := Lib.hid (keep_heap hb1 K1.out); have K2 := Lib.hid (keep_heap hb1 K2.out); obtain ⟨d0, d1, d2, d3, d4⟩ := five_cells K0.out; obtain ⟨p0, p1, -, -⟩ := two_cells K1.out; obtain ⟨r0, r1, g0, g1⟩ := two_cells K2.out; clear hb1 c0 c1 c2 c3 c4 s0 s1)
    go_upto_region 6 with (go_at_call 50; refine (SF.out _).mono ?_; rintro e w2 ⟨rfl, hb1⟩; clear d0 d1 d2 d3 d4 p0 p1 r0 r1 g0 g1; have B1 := Lib.hid (below_end B1.out hb1); have K0 := Lib.hid (keep_heap hb1 K0.out); have K1 := Lib.hid (keep_heap hb1 K1.out); have K2 := Lib.hid (keep_heap hb1 K2.out); obtain ⟨d0, d1, d2, d3, d4⟩ := five_cells K0.out; obtain ⟨p0, p1, -, -⟩ := two_cells K1.out; obtain ⟨r0, r1, g0, g1⟩ := two_cells K2.out; clear hb1)
    obtain ⟨y0, y1, yb⟩ := ret_zero B1.out K2.out (show w.heap.size ≤ w.heap.size + 1 + 1 by omega)
    have YB := Lib.hid yb
    clear yb
    unfold nilV at *
    go_wp2
    refine bodyPost_ret (v := .tuple #[.agg #[.slice none 0 0, .slice none 0 0], .int .i64 z2]) (by simp [results, Tryz.f19, go_sem, y0, y1]) rfl ⟨_, _, _, rfl, RS.zero _, YB.out, nil_new _⟩
  obtain rfl : z2 = 0 := Classical.byContradiction h2
  rw [or_ok]
  dsimp only
  obtain ⟨hs, hz1⟩ := SR.out rfl
  have CH := Lib.hid (fun W (hb : Below w.heap.size w W) => change51 (.slice a n cap) nv n U T slot z1 (-2) (by rw [hn]; exact hz1) (.inl rfl) W (hR.below hb) hGd hs (by omega))
  obtain ⟨T', hT'⟩ : ∃ T', changeF n T slot z1 (-2) = T' := ⟨_, rfl⟩
  rw [hT'] at CH ⊢
  unfold RsAns at CH
  clear k0 k1 k2 k3 hR hm h1 e0 hz hok hn hGd SR h2 hs hz1 hT'
  go_enter Tryz.func19, Tryz.ntmps19
  go_upto_region 4 with (go_at_call 12; refine CK.out.mono ?_; rintro e w1 ⟨rfl, hb1⟩; have B1 := Lib.hid (below_end B.out hb1); have K0 := Lib.hid (keep_heap hb1 K0.out); have K1 := Lib.hid (keep_heap hb1 K1.out); have K2 := Lib.hid (keep_heap hb1 K2.out); obtain ⟨d0, d1, d2, d3, d4⟩ := five_cells K0.out; obtain ⟨p0, p1, -, -⟩ := two_cells K1.out; obtain ⟨r0, r1, g0, g1⟩ := two_cells K2.out; clear hb1 c0 c1 c2 c3 c4 s0 s1)
  go_upto_region 7 with (go_at_call 50; refine (SF.out _).mono ?_; rintro e w2 ⟨rfl, hb1⟩; clear d0 d1 d2 d3 d4 p0 p1 r0 r1 g0 g1; have B1 := Lib.hid (below_end B1.out hb1); have K0 := Lib.hid (keep_heap hb1 K0.out); have K1 := Lib.hid (keep_heap hb1 K1.out); have K2 := Lib.hid (keep_heap hb1 K2.out); obtain ⟨d0, d1, d2, d3, d4⟩ := five_cells K0.out; obtain ⟨p0, p1, -, -⟩ := two_cells K1.out; obtain ⟨r0, r1, g0, g1⟩ := two_cells K2.out; clear hb1)
  go_wp2_with (go_at_call 51; refine (CH.out _ B1.out).mono ?_; rintro e w3 ⟨A3, nv3, U3, rfl, hr3, hb1, hna⟩; have hl2 := (Array.getElem?_eq_some_iff.1 K2.out).1; clear d0 d1 d2 d3 d4 p0 p1 r0 r1 g0 g1; have B1 := Lib.hid (below_end B1.out hb1); have K0 := Lib.hid (keep_heap hb1 K0.out); have K1 := Lib.hid (keep_heap hb1 K1.out); have K2 := Lib.hid (keep_heap hb1 K2.out); obtain ⟨d0, d1, d2, d3, d4⟩ := five_cells K0.out; obtain ⟨p0, p1, -, -⟩ := two_cells K1.out; obtain ⟨r0, r1, g0, g1⟩ := two_cells K2.out; obtain ⟨a3, c3', rfl, -⟩ := hr3.form; obtain ⟨m3, n3, l3, e3⟩ := (hr3.nur ▸ hr3.at_ n (Nat.le_refl _)).sl; subst e3; obtain ⟨y0, y1, yr, yb⟩ := ret_two hr3 B1.out K2.out (show w.heap.size ≤ w.heap.size + 1 + 1 by omega) (fun c off m cp e => by have := hna c off m cp e; omega); have YR := Lib.hid yr; have YB := Lib.hid yb; have NA := Lib.hid (show NewA w (.slice a3 n c3') from fun b off m c e => by have := hna b off m c e; omega); clear hb1 yr yb hr3 hna hl2)
  refine bodyPost_ret (v := .tuple #[.agg #[.slice a3 n c3', .slice m3 n3 l3], .int .i64 0]) (by simp [results, Tryz.f19, go_sem, y0, y1]) rfl ⟨_, _, _, rfl, YR.out, YB.out, NA.out⟩
end
end YtjkphacidpongaaGreat
end Go.Proofs
