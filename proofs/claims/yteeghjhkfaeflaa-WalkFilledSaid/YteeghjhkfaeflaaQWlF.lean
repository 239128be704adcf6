/- The program's lay. -/
import Derived.Test.YteeghjhkfaeflaaQWlF0
namespace Go.Proofs
namespace Yteeghjhkfaeflaa
open Go.RowKit

/-- places, an address and an error -/
def LAns (w : World) (R : (List Int × Int) × Int) (e : Ending) (w' : World) : Prop := ∃ u, e = .returned (.tuple #[u, .int .i64 R.1.2, .int .i64 R.2]) ∧ w'.ownsRow w.heap.size 3 1 u R.1.1.length (ic R.1.1) ∧ Below w.heap.size w w'
set_option maxRecDepth 100000 in
set_option maxHeartbeats 1000000 in
theorem lay50 (v : Value) (l : List (Int × Int)) (f : Int) (w : World) (h : XAt w v l.length (pc l)) (hl : l.length ≤ 60) (hf : 0 ≤ f ∧ f ≤ 1601) (hsi : ∀ p ∈ l, Hd.SI p.1 ∧ Hd.SI p.2) :
    Calls Try.prog 50 #[.int .i64 f, v] w fun e w' => LAns w (layF f l) e w' := by
  unfold LAns
  obtain ⟨A, c, rfl, hA⟩ := h
  have HA := Lib.hid hA
  obtain ⟨m, hm⟩ : ∃ m, l.length = m := ⟨_, rfl⟩
  have HM := Lib.hid hm
  have HSI := Lib.hid hsi
  rw [hm] at hl ⊢
  clear hA hm hsi
  go_enter Try.func50, Try.ntmps50
  go_upto_region 3 with (fail)
  go_loopw [4, 5, 14] (fun o ev i wr => ∃ (j : Nat) (en : Int), j ≤ m ∧ i = .int .i64 j ∧ ev = .int .i64 en ∧ Hid (en = endF f (l.take j)) ∧ f ≤ en ∧ en ≤ f + 64 * j ∧ Hid (shpE (l.take j) = 0) ∧ Hid (wr.ownsRow w.heap.size 3 1 o (plcF f (l.take j)).length (ic (plcF f (l.take j)))) ∧ Hid (Below w.heap.size w wr)) (fun _ _ i _ => m - (intOf i).toNat)
  case atStart => exact ⟨0, f, by omega, rfl, rfl, Lib.hid rfl, by omega, by omega, Lib.hid rfl, Lib.hid (World.ownsRow_nil _ _ _ _), Lib.hid (Below.refl _ _)⟩
  case round =>
    obtain ⟨j, en, hj, rfl, rfl, hen, hb1, hb2, hse, hown, hB⟩ := hrel
    by_cases hlt : j < m
    · have hlt' : (j : Int) < (m : Int) := by omega
      have hjl : j < l.length := by rw [HM.out]; exact hlt
      obtain ⟨b1, o1, rfl, ca⟩ := HA.out (by omega)
      have ca1 := keep_cell hB.out (ca _ _ (pc_get l j hjl).1)
      have ca2 := keep_cell hB.out (ca _ _ (pc_get l j hjl).2)
      rw [← Nat.add_assoc] at ca2
      have hgl : l.getD j (0, 0) = l[j] := by simp [List.getD_eq_getElem?_getD, hjl]
      have hsj := HSI.out l[j] (List.getElem_mem hjl)
      have SA := Lib.hid (fun h => shp_at hjl hse.out h)
      have SN := Lib.hid (fun h => shp_next hjl hse.out h)
      have PS := Lib.hid (plc_snoc (l.take j) f (l.getD j (0, 0)))
      have ES := Lib.hid (end_snoc (l.take j) f (l.getD j (0, 0)))
      rw [← pair_take hjl, ← hen.out] at PS ES
      have PL := Lib.hid (show (plcF f (l.take j)).length ≤ 60 by rw [plc_len, List.length_take]; omega)
      have ad1 : (⟨b1, o1, none⟩ : Addr).add (j * 2) = ⟨b1, o1 + j * 2, none⟩ := by unfold Addr.add; split <;> simp_all
      rw [hgl] at ca1 ca2 ES
      generalize l[j] = x at *
      obtain ⟨y, z⟩ := x
      dsimp only at *
      have S38 := Lib.hid (fun W => Hd.size38 y z hsj.1 hsj.2 W)
      clear ca hgl hsj hen hse
      obtain ⟨Ao, co, rfl⟩ := own_form hown.out
      go_upto_region 5 with (fail)
      have hb3 := alloc_below wr (.cells #[.int .i64 y, .int .i64 z] 51)
      have N3 := Lib.hid (heap_alloc_new wr (.cells #[.int .i64 y, .int .i64 z] 51))
      have O3 := Lib.hid (own_below hown.out hb3)
      have B3 := Lib.hid (below_end hB.out hb3)
      generalize wr.heap.size = gb at *
      generalize wr.alloc (.cells #[.int .i64 y, .int .i64 z] 51) = W3 at *
      obtain ⟨t0, t1, -, -⟩ := two_free N3.out
      clear hb3 ca1 ca2 hown hB
      by_cases hc : Hd.chkV y z = 0
      · have hz : Hd.sizeV y z = 1 + y + z := by unfold Hd.sizeV; rw [if_pos hc]
        obtain ⟨z0, z1, z2⟩ := Hd.chk_zero.1 hc
        have SE := Lib.hid (SN.out hc)
        rw [hc, hz] at S38
        have e1 : IntKind.i64.wrap (en + (1 + y + z)) = en + (1 + y + z) := IntWalk.i64_in _ (by omega)
        clear SA SN hc hz
        go_upto_region 8 with (go_at_call 70; refine (S38.out _).mono ?_; rintro e w4 ⟨rfl, hb4⟩)
        have O4 := Lib.hid (own_below O3.out hb4)
        have B4 := Lib.hid (below_end B3.out hb4)
        clear t0 t1 hb4 N3 O3 B3
        go_wp2_with (at_builtin; refine push_int O4.out B4.out en rfl _ _ rfl rfl w4.heap.size rfl rfl rfl (by have := PL.out; omega) ?_; intro v5 W5 ho5 hb5 hs5)
        refine ⟨⟨j + 1, en + (1 + y + z), by omega, by simp, rfl, Lib.hid ES.out.symm, by omega, by push_cast; omega, SE, ?_, Lib.hid hb5⟩, ?_⟩
        · rw [PS.out]; exact Lib.hid ho5
        · show m - ((j : Int) + 1).toNat < m - ((j : Int)).toNat
          omega
      · have SE := SA.out hc
        have q1 : (Hd.chkV y z != 0) = true := by simpa using hc
        have LF := Lib.hid (show layF f l = (([], 0), Hd.chkV y z) by unfold layF; rw [SE, if_pos hc])
        generalize Hd.chkV y z = cv at *
        generalize Hd.sizeV y z = sv at *
        clear SA SN hc SE
        go_wp2_with (go_at_call 70; refine (S38.out _).mono ?_; rintro e w4 ⟨rfl, hb4⟩)
        exact bodyPost_ret (v := .tuple #[.slice none 0 0, .int .i64 0, .int .i64 cv]) (by simp [results, Try.f50, go_sem]) rfl (by rw [LF.out]; exact ⟨_, rfl, World.ownsRow_nil _ _ _ _, below_end B3.out hb4⟩)
    · have ek : j = m := by omega
      have hlt' : ¬ (j : Int) < (m : Int) := by omega
      have ht : l.take j = l := List.take_of_length_le (by rw [HM.out]; omega)
      rw [ht] at hen hown hse
      have LF := Lib.hid (show layF f l = ((plcF f l, en), 0) by unfold layF; rw [if_neg (by simp [hse.out]), hen.out])
      clear ek ht hen hse
      obtain ⟨A', c', rfl⟩ := own_form hown.out
      go_wp2
      exact bodyPost_ret (v := .tuple #[.slice A' (plcF f l).length c', .int .i64 en, .int .i64 0]) (by simp [results, Try.f50, go_sem]) rfl (by rw [LF.out]; exact ⟨_, rfl, hown.out, hB.out⟩)
end Yteeghjhkfaeflaa
end Go.Proofs
