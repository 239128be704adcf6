/- The reference's Slots, Pointers, Alike and Make. -/
import Derived.Test.YteeghjhkfaeflaaG15
namespace Go.Proofs
namespace Yteeghjhkfaeflaa
open Go.RowKit

set_option maxRecDepth 100000 in
set_option maxHeartbeats 400000 in
theorem rslots20_err (A : Option Addr) (n cap : Nat) (a E : Int) (w : World) (hE : E ≠ 0) (F : Hid (Shp w (.slice A n cap) a 0 0 E)) :
    Calls Try.prog 45 #[.slice A n cap, .int .i64 a] w fun e w' => e = .returned (.tuple #[.slice none 0 0, .int .i64 E]) ∧ Below w.heap.size w w' := by
  unfold Shp at F
  have q : (E != 0) = true := by simpa using hE
  clear hE
  go_enter Try.func45, Try.ntmps45
  go_wp2_with (go_at_call 32; refine F.out.mono ?_; rintro e w1 ⟨rfl, hb1⟩)
  exact bodyPost_ret (v := .tuple #[.slice none 0 0, .int .i64 E]) (by simp [results, Try.f45, go_sem]) rfl ⟨rfl, hb1.alloc hb1.size _⟩
set_option maxRecDepth 100000 in
set_option maxHeartbeats 1000000 in
theorem rslots20_ok (A : Option Addr) (n cap k P R : Nat) (w : World) (hk : k ≤ 1601) (hP : P ≤ 63) (F : Hid (Shp w (.slice A n cap) k P R 0)) :
    Calls Try.prog 45 #[.slice A n cap, .int .i64 k] w fun e w' => IAns w (upL (k + 1) P, 0) e w' := by
  unfold Shp at F
  go_enter Try.func45, Try.ntmps45
  go_upto_region 2 with (go_at_call 32; refine F.out.mono ?_; rintro e w1 ⟨rfl, hb1⟩)
  have B := Lib.hid (hb1.alloc hb1.size (.cells #[.int .i64 P, .int .i64 R] 51))
  have N := Lib.hid (heap_alloc_new w1 (.cells #[.int .i64 P, .int .i64 R] 51))
  clear hb1 F
  generalize w1.heap.size = g at *
  generalize w1.alloc (.cells #[.int .i64 P, .int .i64 R] 51) = W2 at *
  go_wp2
  go_loopw [8, 9] (fun v i wr => ∃ j : Nat, j ≤ P ∧ i = .int .i64 j ∧ Hid (wr.ownsRow W2.heap.size 3 1 v (upL (k + 1) j).length (ic (upL (k + 1) j))) ∧ Hid (Below W2.heap.size W2 wr)) (fun _ i _ => P - (intOf i).toNat)
  case atStart => exact ⟨0, by omega, rfl, Lib.hid (World.ownsRow_nil _ _ _ _), Lib.hid (Below.refl _ _)⟩
  case round =>
    obtain ⟨j, hj, rfl, hown, hB⟩ := hrel
    obtain ⟨t0, t1, -, -⟩ := two_free (keep_heap hB.out N.out)
    have hL := upL_length (k + 1) j
    by_cases hlt : j < P
    · have hlt' : (j : Int) < (P : Int) := by omega
      have E := Lib.hid (show upL (k + 1) (j + 1) = upL (k + 1) j ++ [(k : Int) + 1 + (j : Int)] by rw [upL_succ]; simp)
      go_wp2_with (at_builtin; refine push_int hown.out hB.out ((k : Int) + 1 + (j : Int)) rfl _ _ rfl rfl wr.heap.size rfl rfl rfl (by omega) ?_; intro v5 W5 ho5 hb5 hs5)
      rw [← E.out] at ho5
      refine ⟨⟨j + 1, by omega, by simp, Lib.hid ho5, Lib.hid hb5⟩, ?_⟩
      show P - ((j : Int) + 1).toNat < P - ((j : Int)).toNat
      omega
    · have ek : j = P := by omega
      subst ek
      obtain ⟨A', c', rfl⟩ := own_form hown.out
      go_wp2
      exact bodyPost_ret (v := .tuple #[.slice A' (upL (k + 1) j).length c', .int .i64 0]) (by simp [results, Try.f45, go_sem]) rfl ⟨_, rfl, own_mono hown.out B.out.size, below_end B.out hB.out⟩
theorem rslots20 (v : Value) (ws : List Int) (a : Int) (w : World) (h : Ar w v ws) :
    Calls Try.prog 45 #[v, .int .i64 a] w fun e w' => IAns w (sltF ws a) e w' := by
  have hs := fun {P R E : Int} => shp_of (P := P) (R := R) (E := E) (a := a) h
  obtain ⟨A, cap, rfl, h1, h2⟩ := h.open
  rcases obj_cases ws a with ⟨E, hE, e⟩ | ⟨k, P, R, rfl, ho⟩
  · have T : sltF ws a = ([], E) := by unfold sltF; rw [e, if_neg hE]
    rw [T]; exact (rslots20_err A _ cap a E w hE (hs e)).mono (fun e w' h => ⟨_, h.1, World.ownsRow_nil _ _ _ _, h.2⟩)
  · have T : sltF ws k = (upL (k + 1) P, 0) := by unfold sltF; rw [ho.is, if_pos rfl]; simp only [Int.toNat_natCast]
    rw [T]
    exact rslots20_ok A _ cap k P R w (by have := ho.fit; have := ho.len; omega) (by have := ho.sum; omega) (hs ho.is)
set_option maxRecDepth 100000 in
set_option maxHeartbeats 400000 in
theorem rpointers27_err (A : Option Addr) (n cap : Nat) (a E : Int) (w : World) (hE : E ≠ 0) (F : Hid (Shp w (.slice A n cap) a 0 0 E)) :
    Calls Try.prog 48 #[.slice A n cap, .int .i64 a] w fun e w' => e = .returned (.tuple #[.slice none 0 0, .int .i64 E]) ∧ Below w.heap.size w w' := by
  unfold Shp at F
  have q : (E != 0) = true := by simpa using hE
  clear hE
  go_enter Try.func48, Try.ntmps48
  go_wp2_with (go_at_call 32; refine F.out.mono ?_; rintro e w1 ⟨rfl, hb1⟩)
  exact bodyPost_ret (v := .tuple #[.slice none 0 0, .int .i64 E]) (by simp [results, Try.f48, go_sem]) rfl ⟨rfl, hb1.alloc hb1.size _⟩
set_option maxRecDepth 100000 in
set_option maxHeartbeats 1000000 in
theorem rpointers27_ok (A : Option Addr) (n cap k P R : Nat) (zs : List Int) (hzs : zs.length = P) (w : World) (hP : P ≤ 63) (F : Hid (Shp w (.slice A n cap) k P R 0))
    (G : Hid (∀ (W : World) (j : Nat), Below w.heap.size w W → j < P → Calls Try.prog 68 #[.slice A n cap, .int .i64 k, .int .i64 j] W fun e w' => e = .returned (.tuple #[.int .i64 (adrF (zs.getD j 0)).1, .int .i64 (adrF (zs.getD j 0)).2]) ∧ Below W.heap.size W w')) :
    Calls Try.prog 48 #[.slice A n cap, .int .i64 k] w fun e w' => IAns w (adrsF zs) e w' := by
  unfold Shp at F
  have HZ := Lib.hid hzs
  clear hzs
  go_enter Try.func48, Try.ntmps48
  go_upto_region 2 with (go_at_call 32; refine F.out.mono ?_; rintro e w1 ⟨rfl, hb1⟩)
  have B := Lib.hid (hb1.alloc hb1.size (.cells #[.int .i64 P, .int .i64 R] 51))
  have N := Lib.hid (heap_alloc_new w1 (.cells #[.int .i64 P, .int .i64 R] 51))
  clear hb1 F
  generalize w1.heap.size = g at *
  generalize w1.alloc (.cells #[.int .i64 P, .int .i64 R] 51) = W2 at *
  go_wp2
  go_loopw [8, 9] (fun v i wr => ∃ j : Nat, j ≤ P ∧ i = .int .i64 j ∧ Hid (∀ i, i < j → zs.getD i 0 ≤ 1600) ∧ Hid (wr.ownsRow W2.heap.size 3 1 v (zs.take j).length (ic (zs.take j))) ∧ Hid (Below W2.heap.size W2 wr)) (fun _ i _ => P - (intOf i).toNat)
  case atStart => exact ⟨0, by omega, rfl, Lib.hid (fun i hi => by omega), Lib.hid (World.ownsRow_nil _ _ _ _), Lib.hid (Below.refl _ _)⟩
  case round =>
    obtain ⟨j, hj, rfl, HA, hown, hB⟩ := hrel
    obtain ⟨t0, t1, -, -⟩ := two_free (keep_heap hB.out N.out)
    have hL : (zs.take j).length = j := by rw [List.length_take]; have := HZ.out; omega
    by_cases hlt : j < P
    · have hlt' : (j : Int) < (P : Int) := by omega
      have hjz : j < zs.length := by rw [HZ.out]; exact hlt
      have GJ := Lib.hid (G.out wr j (below_end B.out hB.out) hlt)
      by_cases hz : 1600 < zs.getD j 0
      · rw [show adrF (zs.getD j 0) = (0, 6) from if_pos hz] at GJ
        have T := Lib.hid (show adrsF zs = ([], 6) from if_neg (by
          simp only [List.all_eq_true, decide_eq_true_eq]
          intro hn
          have := hn _ (List.getElem_mem hjz)
          rw [List.getD_eq_getElem?_getD, List.getElem?_eq_getElem hjz] at hz
          simp only [Option.getD_some] at hz
          omega))
        clear hz
        go_wp2_with (go_at_call 68; refine GJ.out.mono ?_; rintro e w2 ⟨rfl, hb2⟩)
        exact bodyPost_ret (v := .tuple #[.slice none 0 0, .int .i64 6]) (by simp [results, Try.f48, go_sem]) rfl ⟨.slice none 0 0, by rw [T.out], by rw [T.out]; exact World.ownsRow_nil _ _ _ _, below_end B.out (below_end hB.out hb2)⟩
      · rw [show adrF (zs.getD j 0) = (zs.getD j 0, 0) from if_neg hz] at GJ
        have HN : Hid (∀ i, i < j + 1 → zs.getD i 0 ≤ 1600) := Lib.hid (fun i hi => by
          rcases Nat.lt_succ_iff_lt_or_eq.1 hi with h | rfl
          · exact HA.out i h
          · omega)
        have E := Lib.hid (show zs.take (j + 1) = zs.take j ++ [zs.getD j 0] by
          rw [List.take_add_one, List.getElem?_eq_getElem hjz]; simp [List.getD_eq_getElem?_getD, hjz])
        clear hz
        generalize zs.getD j 0 = z at *
        go_wp2_with (first
          | (go_at_call 68; refine GJ.out.mono ?_; rintro e w2 ⟨rfl, hb2⟩; have hB2 := Lib.hid (below_end hB.out hb2); have hO2 := Lib.hid (own_below hown.out (hb2.mono (by exact Nat.le_refl _))))
          | (at_builtin; refine push_int hO2.out hB2.out z rfl _ _ rfl rfl w2.heap.size rfl rfl rfl (by omega) ?_; intro v5 W5 ho5 hb5 hs5))
        rw [← E.out] at ho5
        refine ⟨⟨j + 1, by omega, by simp, HN, Lib.hid ho5, Lib.hid hb5⟩, ?_⟩
        show P - ((j : Int) + 1).toNat < P - ((j : Int)).toNat
        omega
    · have ek : j = P := by omega
      have T := Lib.hid (show adrsF zs = (zs, 0) from if_pos (by
        simp only [List.all_eq_true, decide_eq_true_eq]
        intro z hz
        obtain ⟨i, hi, rfl⟩ := List.getElem_of_mem hz
        have := HA.out i (by have := HZ.out; omega)
        rw [List.getD_eq_getElem?_getD, List.getElem?_eq_getElem hi] at this
        exact this))
      have ht : zs.take j = zs := List.take_of_length_le (by have := HZ.out; omega)
      rw [ht] at hown
      have hlt' : ¬ (j : Int) < (P : Int) := by omega
      clear ht hL HA ek
      obtain ⟨A', c', rfl⟩ := own_form hown.out
      go_wp2
      exact bodyPost_ret (v := .tuple #[.slice A' zs.length c', .int .i64 0]) (by simp [results, Try.f48, go_sem]) rfl ⟨_, by rw [T.out], by rw [T.out]; exact own_mono hown.out B.out.size, below_end B.out hB.out⟩
theorem rpointers27 (v : Value) (ws : List Int) (a : Int) (w : World) (h : Ar w v ws) :
    Calls Try.prog 48 #[v, .int .i64 a] w fun e w' => IAns w (ptrsF ws a) e w' := by
  have hs := fun {P R E : Int} => shp_of (P := P) (R := R) (E := E) (a := a) h
  have hr := fun (W : World) (f : Int) hb => rpointer23 v ws a f W (Ar.below (W := w) h hb)
  obtain ⟨A, cap, rfl, h1, h2⟩ := h.open
  rcases obj_cases ws a with ⟨E, hE, e⟩ | ⟨k, P, R, rfl, ho⟩
  · have T : ptrsF ws a = ([], E) := by unfold ptrsF; rw [e, if_neg hE]
    rw [T]; exact (rpointers27_err A _ cap a E w hE (hs e)).mono (fun e w' h => ⟨_, h.1, World.ownsRow_nil _ _ _ _, h.2⟩)
  · have T : ptrsF ws k = adrsF (part ws (k + 1) P) := by unfold ptrsF; rw [ho.is, if_pos rfl]; simp only [Int.toNat_natCast]
    have hl : (part ws (k + 1) P).length = P := part_length (by have := ho.fit; omega)
    rw [T]
    refine rpointers27_ok A _ cap k P R _ hl w (by have := ho.sum; omega) (hs ho.is) (Lib.hid (fun W j hb hj => ?_))
    have := hr W j hb
    have T2 : ptrF ws k (j : Int) = adrF ((part ws (k + 1) P).getD j 0) := by
      unfold ptrF; rw [ho.is, if_pos rfl]; simp only [Int.toNat_natCast]
      unfold gtF rdF; rw [hl, if_pos (show 0 ≤ (j : Int) ∧ (j : Int) < (P : Int) by omega), if_pos rfl, Int.toNat_natCast]
    rw [T2] at this
    exact this
end Yteeghjhkfaeflaa
end Go.Proofs
