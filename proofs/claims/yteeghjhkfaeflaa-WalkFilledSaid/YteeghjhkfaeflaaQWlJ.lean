/- Fill, the reference's. -/
import Derived.Test.YteeghjhkfaeflaaQWlI
namespace Go.Proofs
namespace Yteeghjhkfaeflaa
open Go.RowKit

theorem fil_pre {ws : List Int} {f t : Int} {l : List (Int × Int)} (hu : ∀ z ∈ ws, Hd.UI z) (hs : strF ws f t = 0) (h : shpE l = 0) {j : Nat} (hj : j ≤ l.length) (ht : endF f (l.take j) ≤ t) :
    (filW ws f (l.take j)).length = ws.length ∧ chkF (filW ws f (l.take j)) = 0 ∧ ∀ z ∈ filW ws f (l.take j), Hd.UI z := by
  have h' : shpE (l.take j) = 0 := by rw [← List.take_append_drop j l] at h; exact (shp_part h).1
  have := fil_upto hu hs h' ht j (by rw [List.length_take]; omega)
  rwa [List.take_take, Nat.min_self] at this
theorem fil_nexts {ws : List Int} {f t : Int} {l : List (Int × Int)} (hu : ∀ z ∈ ws, Hd.UI z) (hs : strF ws f t = 0) (h : shpE l = 0) {j : Nat} (hj : j < l.length) (ht : endF f (l.take (j + 1)) ≤ t) :
    makF (filW ws f (l.take j)) (endF f (l.take j)) l[j].1 l[j].2 = (filW ws f (l.take (j + 1)), 0) := by
  have h' : shpE (l.take (j + 1)) = 0 := by rw [← List.take_append_drop (j + 1) l] at h; exact (shp_part h).1
  have hj' : j < (l.take (j + 1)).length := by rw [List.length_take]; omega
  have := fil_next hu hs h' ht hj'
  rw [List.take_take, List.take_take, Nat.min_self, Nat.min_eq_left (Nat.le_succ j)] at this
  simpa using this
theorem fil_full {ws : List Int} {f t : Int} {l : List (Int × Int)} (hs : strF ws f t = 0) (h : shpE l = 0) {j : Nat} (ht : t < endF f (l.take j)) : filF ws f t l = (([], 0), 5) := by
  have := (end_upto (f := f) h j).2
  unfold filF
  rw [if_neg (by simp [hs]), if_neg (by simp [h]), if_pos (by omega)]
/-- the error ahead of the making -/
def erF (ws : List Int) (f t : Int) (l : List (Int × Int)) : Int := if strF ws f t ≠ 0 then strF ws f t else shpE l
theorem fil_er {ws : List Int} {f t : Int} {l : List (Int × Int)} (h : erF ws f t l ≠ 0) : filF ws f t l = (([], 0), erF ws f t l) := by
  unfold filF erF at *
  by_cases hs : strF ws f t = 0
  · rw [if_neg (by simp [hs])] at h
    rw [if_neg (by simp [hs]), if_pos h, if_neg (by simp [hs])]
  · rw [if_pos hs, if_pos hs]
section
attribute [local go_sem ↓] fold_append
set_option maxRecDepth 100000 in
set_option maxHeartbeats 2000000 in
theorem rfill30 (v : Value) (ws : List Int) (sl : Value) (l : List (Int × Int)) (f t : Int) (w : World) (h : Ar w v ws) (hx : XAt w sl l.length (pc l)) (hl : l.length ≤ 60) (hsi : ∀ p ∈ l, Hd.SI p.1 ∧ Hd.SI p.2) :
    Calls Try.prog 30 #[v, .int .i64 f, .int .i64 t, sl] w fun e w' => FAns w (filF ws f t l) e w' := by
  have E := Lib.hid (rstretch38 v ws f t w h)
  have HAR := Lib.hid h
  have HXW := Lib.hid (show XAt w v ws.length (wc ws) from h.at_)
  have HSI := Lib.hid hsi
  obtain ⟨A, c, rfl, hA⟩ := hx
  have HA := Lib.hid hA
  obtain ⟨Av, cv, rfl, -, -⟩ := h.open
  obtain ⟨m, hm⟩ : ∃ m, l.length = m := ⟨_, rfl⟩
  have HM := Lib.hid hm
  unfold FAns
  rw [hm] at hl HA ⊢
  clear hA h hm hsi
  generalize hlx : ws.length = lx at *
  go_enter Try.func30, Try.ntmps30
  go_upto_region 3 with (go_at_call 38; refine E.out.mono ?_; rintro e w1 ⟨rfl, rfl⟩)
  go_loopw [11, 12] (fun ev i wr => ∃ (j : Nat) (er : Int), j ≤ m ∧ i = .int .i64 j ∧ ev = .int .i64 er ∧ Hid ((er = 0 ∧ strF ws f t = 0 ∧ shpE (l.take j) = 0) ∨ (er ≠ 0 ∧ er = erF ws f t l)) ∧ Hid (Below w.heap.size w wr)) (fun _ i _ => m - (intOf i).toNat)
  case atStart =>
    refine ⟨0, _, by omega, rfl, rfl, Lib.hid ?_, Lib.hid (Below.refl _ _)⟩
    by_cases hs : strF ws f t = 0
    · exact .inl ⟨hs, hs, rfl⟩
    · exact .inr ⟨hs, by unfold erF; rw [if_pos hs]⟩
  case round =>
    obtain ⟨j, er, hj, rfl, rfl, her, hB⟩ := hrel
    rcases her.out with ⟨rfl, hs, hse⟩ | ⟨hne, hee⟩
    rotate_left
    · have q1 : (er == 0) = false := by simpa using hne
      have q2 : (er != 0) = true := by simpa using hne
      have LF := Lib.hid (fil_er (ws := ws) (f := f) (t := t) (l := l) (by rw [← hee]; exact hne))
      rw [← hee] at LF
      clear hne hee her
      by_cases hlt : j < m
      · have hlt' : (j : Int) < (m : Int) := by omega
        go_wp2
        exact bodyPost_ret (v := .tuple #[.slice none 0 0, .int .i64 0, .int .i64 er]) (by simp [results, Try.f30, go_sem]) rfl (by rw [LF.out]; exact ⟨_, rfl, World.ownsRow_nil _ _ _ _, hB.out⟩)
      · have hlt' : ¬ (j : Int) < (m : Int) := by omega
        go_wp2
        exact bodyPost_ret (v := .tuple #[.slice none 0 0, .int .i64 0, .int .i64 er]) (by simp [results, Try.f30, go_sem]) rfl (by rw [LF.out]; exact ⟨_, rfl, World.ownsRow_nil _ _ _ _, hB.out⟩)
    clear her
    by_cases hlt : j < m
    · have hlt' : (j : Int) < (m : Int) := by omega
      have hjl : j < l.length := by rw [HM.out]; exact hlt
      obtain ⟨b1, o1, rfl, ca⟩ := HA.out (by omega)
      have ca1 := keep_cell hB.out (ca _ _ (pc_get l j hjl).1)
      have ca2 := keep_cell hB.out (ca _ _ (pc_get l j hjl).2)
      rw [← Nat.add_assoc] at ca2
      have hgl : l.getD j (0, 0) = l[j] := by simp [List.getD_eq_getElem?_getD, hjl]
      have hsj := HSI.out l[j] (List.getElem_mem hjl)
      have NX : Hid ((Hd.chkV l[j].1 l[j].2 = 0 ∧ strF ws f t = 0 ∧ shpE (l.take (j + 1)) = 0) ∨ (Hd.chkV l[j].1 l[j].2 ≠ 0 ∧ Hd.chkV l[j].1 l[j].2 = erF ws f t l)) := Lib.hid (by
        by_cases hc : Hd.chkV l[j].1 l[j].2 = 0
        · exact .inl ⟨hc, hs, shp_next hjl hse hc⟩
        · exact .inr ⟨hc, by unfold erF; rw [if_neg (by simp [hs]), shp_at hjl hse hc]⟩)
      have ad1 : (⟨b1, o1, none⟩ : Addr).add (j * 2) = ⟨b1, o1 + j * 2, none⟩ := by unfold Addr.add; split <;> simp_all
      rw [hgl] at ca1 ca2
      generalize l[j] = x at *
      obtain ⟨y, z⟩ := x
      dsimp only at *
      have S := Lib.hid (fun W => Hd.check44 y z hsj.1 hsj.2 W)
      generalize Hd.chkV y z = cv2 at *
      clear ca hgl hsj hs hse
      go_wp2_with (go_at_call 53; refine (S.out _).mono ?_; rintro e w2 ⟨rfl, hb2⟩; have B2 := Lib.hid (below_end hB.out hb2); clear hb2)
      refine ⟨⟨j + 1, cv2, by omega, by simp, rfl, NX, B2⟩, ?_⟩
      show m - ((j : Int) + 1).toNat < m - ((j : Int)).toNat
      omega
    have ek : j = m := by omega
    have hlt' : ¬ (j : Int) < (m : Int) := by omega
    have ht : l.take j = l := List.take_of_length_le (by rw [HM.out]; omega)
    rw [ht] at hse
    obtain ⟨-, s1, s2, s3, s4⟩ := str_ok hs
    have o0 := World.ownsRow_made (base := w.heap.size) (e := 58) (size := 1) wr #[] 0 hB.out.size (by unfold maxLen; omega) (by simp)
    have hb0 := alloc_below wr (.cells #[] 58)
    obtain ⟨l', W', hr, ho, hg⟩ := app_any Try.underlying22 info58' rfl o0 ((HXW.out.below hB.out).below hb0) (by rw [wc_len1, hlx]) (wc_one' ws) (by omega) (by decide) (by decide) (Nat.le_trans hB.out.size hb0.size)
    have hbW : Below w.heap.size w W' := (below_end hB.out hb0).grown hg (below_end hB.out hb0).size (fun k hk => (o0.lt k hk).1)
    rw [Nat.zero_add, List.nil_append] at ho
    obtain ⟨A2, c2, rfl⟩ := own_form ho
    have HO := Lib.hid ho
    have HBW := Lib.hid hbW
    have HS := Lib.hid hs
    have HSE := Lib.hid hse
    clear ho o0 hb0 hg hbW ht ek hs hse hB
    go_upto_region 11 with (fail)
    go_loopw [13, 14, 15] (fun o av i w5 => ∃ (j : Nat) (a : Int), j ≤ m ∧ i = .int .i64 j ∧ av = .int .i64 a ∧ Hid (a = endF f (l.take j)) ∧ f ≤ a ∧ a ≤ t ∧ Hid (w5.ownsRow w.heap.size 58 1 o (filW ws f (l.take j)).length (wc (filW ws f (l.take j)))) ∧ Hid (Below w.heap.size w w5)) (fun _ _ i _ => m - (intOf i).toNat)
    case atStart => exact ⟨0, f, by omega, rfl, rfl, Lib.hid rfl, Int.le_refl _, by omega, Lib.hid (by rw [List.take_zero, filW, hlx]; exact HO.out), HBW⟩
    case round =>
      clear HO HBW hr HXW E
      obtain ⟨j, a, hj, rfl, rfl, hae, hfa, hat, hown, hB⟩ := hrel
      by_cases hlt : j < m
      rotate_left
      · have ek : j = m := by omega
        have hlt' : ¬ (j : Int) < (m : Int) := by omega
        have ht : l.take j = l := List.take_of_length_le (by rw [HM.out]; omega)
        rw [ht] at hown hae
        have LF := Lib.hid (fil_ok (ws := ws) (f := f) (t := t) (l := l) HS.out HSE.out (by rw [← hae.out]; omega))
        rw [← hae.out] at LF
        clear ek ht hae
        obtain ⟨A', c', rfl⟩ := own_form hown.out
        go_wp2
        exact bodyPost_ret (v := .tuple #[.slice A' (filW ws f l).length c', .int .i64 a, .int .i64 0]) (by simp [results, Try.f30, go_sem]) rfl (by rw [LF.out]; exact ⟨_, rfl, hown.out, hB.out⟩)
      have hlt' : (j : Int) < (m : Int) := by omega
      have hjl : j < l.length := by rw [HM.out]; exact hlt
      obtain ⟨b1, o1, rfl, ca⟩ := HA.out (by omega)
      have cw1 := ca _ _ (pc_get l j hjl).1
      have cw2 := ca _ _ (pc_get l j hjl).2
      rw [← Nat.add_assoc] at cw2
      have hgl : l.getD j (0, 0) = l[j] := by simp [List.getD_eq_getElem?_getD, hjl]
      rw [hgl] at cw1 cw2
      have hsj := HSI.out l[j] (List.getElem_mem hjl)
      obtain ⟨g1, g2, g3⟩ := fil_pre HAR.out.ui HS.out HSE.out (Nat.le_of_lt hjl) (by rw [← hae.out]; exact hat)
      obtain ⟨Ao, co, rfl⟩ := own_form hown.out
      have M0 := fun W (hW : Below wr.heap.size wr W) P R hP hR => rmake13 _ _ a P R W ((Ar.of_own hown.out g3 (by rw [g1]; exact s4)).below hW) hP hR
      have NX := fun h => fil_nexts (t := t) HAR.out.ui HS.out HSE.out hjl h
      have ES := end_snoc (l.take j) f l[j]
      rw [show l.take j ++ [l[j]] = l.take (j + 1) by rw [List.take_add_one, List.getElem?_eq_getElem hjl]; rfl, ← hae.out] at ES
      have FU := fun h => fil_full (ws := ws) (f := f) (t := t) (l := l) HS.out HSE.out (j := j + 1) h
      have hcz := shp_all HSE.out l[j] (List.getElem_mem hjl)
      rw [← hae.out] at NX
      have ad1 : (⟨b1, o1, none⟩ : Addr).add (j * 2) = ⟨b1, o1 + j * 2, none⟩ := by unfold Addr.add; split <;> simp_all
      generalize l[j] = x at *
      obtain ⟨y, z⟩ := x
      dsimp only at *
      obtain ⟨z0, z1, z2⟩ := Hd.chk_zero.1 hcz
      have M := Lib.hid (fun W (hW : Below wr.heap.size wr W) => (M0 W hW y z hsj.1 hsj.2))
      have SZ := Lib.hid (fun W => Hd.size36 y z hsj.1 hsj.2 W)
      rw [hcz, show Hd.sizeV y z = 1 + y + z by unfold Hd.sizeV; rw [if_pos hcz]] at SZ
      have e1 : IntKind.i64.wrap (t - a) = t - a := IntWalk.i64_in _ (by omega)
      have CK := Lib.hid (fun W (hW : Below wr.heap.size wr W) => (⟨keep_cell (below_end hB.out hW) cw1, keep_cell (below_end hB.out hW) cw2⟩ : W.cell? ⟨b1, o1 + j * 2, none⟩ = some (.int .i64 y) ∧ W.cell? ⟨b1, o1 + j * 2 + 1, none⟩ = some (.int .i64 z)))
      obtain ⟨k1, k2⟩ := CK.out _ (Below.refl _ _)
      clear ca cw1 cw2 hgl hsj g1 g2 g3 M0 hcz
      generalize (filW ws f (l.take j)).length = ln at *
      go_upto_region 14 with (go_at_call 34; refine (SZ.out _).mono ?_; rintro e w6 ⟨rfl, hb6⟩)
      have B6 := Lib.hid hb6
      obtain ⟨k3, k4⟩ := CK.out _ hb6
      have B7 := Lib.hid (below_end hB.out hb6)
      clear k1 k2 hb6
      by_cases hbig : t - a < 1 + y + z
      · have q1 : decide (t - a < 1 + y + z) = true := decide_eq_true hbig
        have LF := Lib.hid (FU (by rw [ES]; omega))
        clear FU NX ES hbig
        go_wp2
        exact bodyPost_ret (v := .tuple #[.slice none 0 0, .int .i64 0, .int .i64 5]) (by simp [results, Try.f30, go_sem]) rfl (by rw [LF.out]; exact ⟨_, rfl, World.ownsRow_nil _ _ _ _, B7.out⟩)
      have q1 : decide (t - a < 1 + y + z) = false := decide_eq_false hbig
      have NX := NX (by rw [ES]; omega)
      have e2 : IntKind.i64.wrap (a + (1 + y + z)) = a + (1 + y + z) := IntWalk.i64_in _ (by omega)
      have Z4 := Lib.hid (Nat.le_trans (below_end hB.out B6.out).size (Nat.le_refl _))
      rw [NX] at M
      have T := Lib.hid (show Calls Try.prog 54 #[.slice Ao ln co, .int .i64 a, .agg #[.int .i64 y, .int .i64 z]] w6 (fun e w' => ∃ A4 c4, e = .returned (.tuple #[.slice A4 (filW ws f (l.take (j + 1))).length c4, .int .i64 0]) ∧ Hid (w'.ownsRow w.heap.size 58 1 (.slice A4 (filW ws f (l.take (j + 1))).length c4) (filW ws f (l.take (j + 1))).length (wc (filW ws f (l.take (j + 1))))) ∧ Hid (Below w.heap.size w w')) by
        refine (M.out _ B6.out).mono ?_
        intro e w4 hh
        obtain ⟨u4, rfl, ho4, hb4⟩ := CAns.own4 (W := w6) (B := w.heap.size) Z4.out hh
        obtain ⟨A4, c4, rfl⟩ := own_form ho4.out
        exact ⟨A4, c4, rfl, ho4, Lib.hid (below_end B7.out hb4)⟩)
      have EN := Lib.hid ES.symm
      have hle : a + (1 + y + z) ≤ t := by omega
      have hge : f ≤ a + (1 + y + z) := by omega
      have HLE := Lib.hid hle
      have HGE := Lib.hid hge
      clear M NX FU ES hbig CK hle hge hae
      go_upto_region 17 with (go_at_call 54; refine T.out.mono ?_; rintro e w7 ⟨A4, c4, rfl, ho4, B8⟩)
      go_wp2
      refine ⟨⟨j + 1, a + (1 + y + z), by omega, by simp, rfl, EN, HGE.out, HLE.out, ho4, B8⟩, ?_⟩
      show m - ((j : Int) + 1).toNat < m - ((j : Int)).toNat
      omega
end
end Yteeghjhkfaeflaa
end Go.Proofs
