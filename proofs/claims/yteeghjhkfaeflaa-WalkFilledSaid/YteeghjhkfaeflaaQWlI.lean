/- Fill, the program's: the objects are made. -/
import Derived.Test.YteeghjhkfaeflaaQWlH
namespace Go.Proofs
namespace Yteeghjhkfaeflaa
open Go.RowKit

theorem CAns.own4 {W : World} {zs : List Int} {E : Int} {e : Ending} {w' : World} {B : Nat} (hB : B ≤ W.heap.size) (h : CAns W (zs, E) e w') : ∃ v, e = .returned (.tuple #[v, .int .i64 E]) ∧ Hid (w'.ownsRow B 58 1 v zs.length (wc zs)) ∧ Below W.heap.size W w' := by
  obtain ⟨v, h1, h2, h3⟩ := h
  exact ⟨v, h1, Lib.hid (own_mono h2 hB), h3⟩
theorem fil_ok {ws : List Int} {f t : Int} {l : List (Int × Int)} (hs : strF ws f t = 0) (hc : shpE l = 0) (ht : ¬ t < endF f l) : filF ws f t l = ((filW ws f l, endF f l), 0) := by unfold filF; rw [if_neg (by simp [hs]), if_neg (by simp [hc]), if_neg ht]
/-- the next object -/
theorem fil_next {ws : List Int} {f t : Int} {l : List (Int × Int)} (hu : ∀ z ∈ ws, Hd.UI z) (hs : strF ws f t = 0) (h : shpE l = 0) (ht : endF f l ≤ t) {j : Nat} (hj : j < l.length) :
    makF (filW ws f (l.take j)) (endF f (l.take j)) l[j].1 l[j].2 = (filW ws f (l.take (j + 1)), 0) := by
  obtain ⟨i1, i2, i3⟩ := fil_upto hu hs h ht j (by omega)
  have e : l.take (j + 1) = l.take j ++ [l[j]] := by rw [List.take_add_one, List.getElem?_eq_getElem hj]; rfl
  have e1 := (end_upto (f := f) h (j + 1)).2
  have e2 := (end_upto (f := f) h j).1
  rw [e, end_snoc] at e1
  obtain ⟨-, s1, s2, s3, -⟩ := str_ok hs
  obtain ⟨m1, -⟩ := mak_step (a := endF f (l.take j)) i2 i3 (shp_all h l[j] (List.getElem_mem hj)) (by omega) (by rw [i1]; omega)
  rw [e, fil_snoc]
  exact Prod.ext rfl m1
set_option maxRecDepth 100000 in
set_option maxHeartbeats 2000000 in
theorem fill29_ok (v : Value) (ws : List Int) (sl : Value) (l : List (Int × Int)) (f t : Int) (w : World) (h : Ar w v ws) (hx : XAt w sl l.length (pc l)) (hl : l.length ≤ 60) (hsi : ∀ p ∈ l, Hd.SI p.1 ∧ Hd.SI p.2) (hs : strF ws f t = 0) (hc : shpE l = 0) (ht : ¬ t < endF f l) :
    Calls Try.prog 29 #[v, .int .i64 f, .int .i64 t, sl] w fun e w' => FAns w (filF ws f t l) e w' := by
  obtain ⟨-, s1, s2, s3, s4⟩ := str_ok hs
  rw [fil_ok hs hc ht]
  have E := Lib.hid (fun W (hb : Below w.heap.size w W) => check49 v ws f t W (h.below hb))
  rw [hs] at E
  have L := Lib.hid (fun W (hb : Below w.heap.size w W) => (lay50 sl l f W (hx.below hb) hl ⟨by omega, by omega⟩ hsi).mono fun e w' h => h.own2)
  have e1 : layF f l = ((plcF f l, endF f l), 0) := by unfold layF; rw [if_neg (by simp [hc])]
  rw [e1] at L
  have CL := Lib.hid (fun W (hb : Below w.heap.size w W) => clone51 v ws W (h.below hb) (by omega) s4)
  have FU := Lib.hid (fil_upto h.ui hs hc (by omega : endF f l ≤ t))
  have FN := Lib.hid (fun (j : Nat) (hj : j < l.length) => fil_next h.ui hs hc (by omega : endF f l ≤ t) hj)
  have PG := Lib.hid (plc_get l f)
  have PLN := Lib.hid (plc_len l f)
  have HSI := Lib.hid hsi
  have HS4 := Lib.hid s4
  have q1 : decide (t < endF f l) = false := decide_eq_false ht
  obtain ⟨A, c, rfl, hA⟩ := hx
  have HA := Lib.hid hA
  obtain ⟨Av, cv, rfl, -, -⟩ := h.open
  obtain ⟨m, hm⟩ : ∃ m, l.length = m := ⟨_, rfl⟩
  have HM := Lib.hid hm
  unfold FAns
  dsimp only at L ⊢
  rw [hm] at hl
  generalize hen : endF f l = en at *
  clear hA h hs hc ht e1 hsi s1 s2 s3 s4 hen
  rw [hm] at L HA ⊢
  generalize hlx : ws.length = lx at *
  go_enter Try.func29, Try.ntmps29
  go_upto_region 4 with (go_at_call 49; refine (E.out _ (Below.refl _ _)).mono ?_; rintro e w1 ⟨rfl, hb1⟩; have B1 := Lib.hid hb1; clear hb1)
  go_upto_region 7 with (go_at_call 50; refine (L.out _ B1.out).mono ?_; rintro e w2 ⟨u, rfl, X2, hb2⟩; have B2 := Lib.hid (below_end B1.out hb2); clear hb2; obtain ⟨A2, c2, rfl, X3⟩ := X2.out; have HX3 := Lib.hid X3; clear X3)
  go_upto_region 11 with (go_at_call 51; refine (CL.out _ B2.out).mono ?_; rintro e w3 ⟨u3, rfl, ho3, hb3⟩; have B3 := Lib.hid (below_end B2.out hb3); have O3 := Lib.hid (own_mono ho3 B2.out.size); have BP := Lib.hid hb3; clear hb3 ho3)
  rw [PLN.out, HM.out]
  obtain ⟨Ao, co, rfl⟩ := own_form O3.out
  go_loopw [8, 9, 40] (fun o ev i wr => ∃ j : Nat, j ≤ m ∧ i = .int .i64 j ∧ ev = .int .i64 en ∧ Hid (wr.ownsRow w.heap.size 58 1 o (filW ws f (l.take j)).length (wc (filW ws f (l.take j)))) ∧ Hid (Below w3.heap.size w3 wr)) (fun _ _ i _ => m - (intOf i).toNat)
  case atStart => exact ⟨0, by omega, rfl, rfl, Lib.hid (by rw [List.take_zero, filW, hlx]; exact O3.out), Lib.hid (Below.refl _ _)⟩
  case round =>
    obtain ⟨j, hj, rfl, rfl, hown, hB⟩ := hrel
    by_cases hlt : j < m
    · have hlt' : (j : Int) < (m : Int) := by omega
      have hjl : j < l.length := by rw [HM.out]; exact hlt
      obtain ⟨b1, o1, rfl, ca⟩ := HA.out (by omega)
      have ca1 := keep_cell (below_end B3.out hB.out) (ca _ _ (pc_get l j hjl).1)
      have ca2 := keep_cell (below_end B3.out hB.out) (ca _ _ (pc_get l j hjl).2)
      rw [← Nat.add_assoc] at ca2
      obtain ⟨b2, o2, rfl, cb⟩ := HX3.out (by rw [PLN.out]; omega)
      have cb1 := keep_cell (below_end BP.out hB.out) (cb j _ (ic_get _ j (by rw [PLN.out]; exact hjl)))
      rw [PG.out j hjl] at cb1
      have hgl : l.getD j (0, 0) = l[j] := by simp [List.getD_eq_getElem?_getD, hjl]
      have hsj := HSI.out l[j] (List.getElem_mem hjl)
      obtain ⟨g1, g2, g3⟩ := FU.out j (Nat.le_of_lt hjl)
      obtain ⟨Ao, co, rfl⟩ := own_form hown.out
      have M0 := fun W (hW : Below wr.heap.size wr W) P R hP hR => make12 _ _ (endF f (l.take j)) P R W ((Ar.of_own hown.out g3 (by rw [g1]; exact HS4.out)).below hW) hP hR
      have NX := FN.out j hjl
      have ad1 : (⟨b1, o1, none⟩ : Addr).add (j * 2) = ⟨b1, o1 + j * 2, none⟩ := by unfold Addr.add; split <;> simp_all
      have ad2 : (⟨b2, o2, none⟩ : Addr).add j = ⟨b2, o2 + j, none⟩ := by unfold Addr.add; split <;> simp_all
      rw [hgl] at ca1 ca2
      generalize l[j] = x at *
      obtain ⟨y, z⟩ := x
      dsimp only at *
      generalize endF f (l.take j) = a at *
      have M := Lib.hid (fun W (hW : Below wr.heap.size wr W) => (M0 W hW y z hsj.1 hsj.2))
      rw [NX] at M
      clear ca cb hgl hsj g1 g2 g3 M0 NX
      generalize (filW ws f (l.take j)).length = ln at *
      go_upto_region 13 with (fail)
      have hb3 := alloc_below wr (.cells #[.int .i64 y, .int .i64 z] 51)
      have N3 := Lib.hid (heap_alloc_new wr (.cells #[.int .i64 y, .int .i64 z] 51))
      have C3 := keep_cell hb3 cb1
      have K3 := Lib.hid hb3
      have B4 := Lib.hid (below_end hB.out hb3)
      have Z4 := Lib.hid (Nat.le_trans (below_end B3.out hB.out).size hb3.size)
      generalize wr.heap.size = gb at *
      generalize wr.alloc (.cells #[.int .i64 y, .int .i64 z] 51) = W3 at *
      obtain ⟨t0, t1, -, -⟩ := two_free N3.out
      clear hb3 ca1 ca2 cb1 hown hB
      have T := Lib.hid (show Calls Try.prog 52 #[.slice Ao ln co, .int .i64 a, .agg #[.int .i64 y, .int .i64 z]] W3.drew (fun e w' => ∃ A4 c4, e = .returned (.tuple #[.slice A4 (filW ws f (l.take (j + 1))).length c4, .int .i64 0]) ∧ Hid (w'.ownsRow w.heap.size 58 1 (.slice A4 (filW ws f (l.take (j + 1))).length c4) (filW ws f (l.take (j + 1))).length (wc (filW ws f (l.take (j + 1))))) ∧ Hid (Below w3.heap.size w3 w')) by
        refine (M.out _ K3.out.drew).mono ?_
        intro e w4 hh
        obtain ⟨u4, rfl, ho4, hb4⟩ := CAns.own4 (W := W3.drew) (B := w.heap.size) Z4.out hh
        obtain ⟨A4, c4, rfl⟩ := own_form ho4.out
        exact ⟨A4, c4, rfl, ho4, Lib.hid (below_end B4.out.drew hb4)⟩)
      clear M K3
      go_region_with (go_at_call 52; refine T.out.mono ?_; rintro e w4 ⟨A4, c4, rfl, ho4, B5⟩)
      all_goals
        go_wp2
        refine ⟨⟨j + 1, by omega, by simp, rfl, ho4, B5⟩, ?_⟩
        show m - ((j : Int) + 1).toNat < m - ((j : Int)).toNat
        omega
    · have ek : j = m := by omega
      have hlt' : ¬ (j : Int) < (m : Int) := by omega
      have ht : l.take j = l := List.take_of_length_le (by rw [HM.out]; omega)
      rw [ht] at hown
      clear ek ht
      obtain ⟨A', c', rfl⟩ := own_form hown.out
      go_wp2
      exact bodyPost_ret (v := .tuple #[.slice A' (filW ws f l).length c', .int .i64 en, .int .i64 0]) (by simp [results, Try.f29, go_sem]) rfl ⟨_, rfl, hown.out, below_end B3.out hB.out⟩
theorem fill29 (v : Value) (ws : List Int) (sl : Value) (l : List (Int × Int)) (f t : Int) (w : World) (h : Ar w v ws) (hx : XAt w sl l.length (pc l)) (hl : l.length ≤ 60) (hsi : ∀ p ∈ l, Hd.SI p.1 ∧ Hd.SI p.2) :
    Calls Try.prog 29 #[v, .int .i64 f, .int .i64 t, sl] w fun e w' => FAns w (filF ws f t l) e w' := by
  by_cases hs : strF ws f t = 0
  · by_cases he : shpE l ≠ 0 ∨ t < endF f l
    · exact fill29_err v ws sl l f t w h hx hl hsi hs he
    · exact fill29_ok v ws sl l f t w h hx hl hsi hs (Classical.byContradiction fun hn => he (.inl hn)) (fun hn => he (.inr hn))
  · exact fill29_bad v ws sl l f t w h hx hs
end Yteeghjhkfaeflaa
end Go.Proofs
