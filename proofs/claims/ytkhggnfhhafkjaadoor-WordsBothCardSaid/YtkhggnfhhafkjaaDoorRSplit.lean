/- The reference's Split. -/
import Derived.Test.YtkhggnfhhafkjaaDoorRBare
import Derived.Deep.AppendLies
import Derived.Deep.Cut
import Derived.Deep.CutRange
import Derived.Outline
namespace Go.Proofs
namespace YtkhggnfhhafkjaaDoor
open Go.RowKit

theorem rq45 (s : ByteArray) (k : Nat) (hk : k ≤ s.size) (hs : s.size ≤ 1000000) (w : World) :
    Calls Tryd.prog 45 #[.string (s.extract k s.size)] w fun e w' => e = .returned (quoV (takeQL (s.data.toList.drop k))) ∧ Below w.heap.size w w' := by
  have h := rtake45 (s.extract k s.size) w (by simp; omega)
  rw [drop_data] at h
  exact h

set_option maxRecDepth 100000 in
theorem rsplit24_long (s : ByteArray) (w : World) (hs : 8192 < s.size) :
    Calls Tryd.prog 24 #[.string s] w fun e w' => e = .returned (.tuple #[.slice none 0 0, .int .i64 3]) ∧ Below w.heap.size w w' := by
  have q : decide ((8192 : Int) < (s.size : Int)) = true := decide_eq_true (by omega)
  go_enter Tryd.func24, Tryd.ntmps24
  go_wp2
  go_ret2
  exact ⟨rfl, Below.refl _ _⟩

set_option maxRecDepth 100000 in
theorem rsplit24_empty (s : ByteArray) (w : World) (hs : s.size = 0) :
    Calls Tryd.prog 24 #[.string s] w fun e w' => e = .returned (.tuple #[.slice none 0 0, .int .i64 0]) ∧ Below w.heap.size w w' := by
  have q : decide ((8192 : Int) < (s.size : Int)) = false := decide_eq_false (by omega)
  have q2 : (s.toList == []) = true := by rw [ByteArray.toList_eq, List.eq_nil_of_length_eq_zero (show s.data.toList.length = 0 by simpa using hs)]; rfl
  go_enter Tryd.func24, Tryd.ntmps24
  go_wp2
  go_ret2
  exact ⟨rfl, Below.refl _ _⟩

theorem fcell {B : Nat} {W1 W' : World} {v a b : Value} {fs : List Fld} {o : Obj} (hrow : FRow B W1 v fs) (hg : ((W1.alloc (.cells #[a, b] 50)).alloc o).grownBy W' v.ownBlock) : W'.cell? ⟨W1.heap.size, 0, none⟩ = some a := by
  rw [hg.cell_far ⟨W1.heap.size, 0, none⟩ (by simp; omega) (fun e => by have h := (hrow.lt _ e.symm).2; exact absurd h (Nat.lt_irrefl _))]
  have h1 : ((W1.alloc (.cells #[a, b] 50)).alloc o).heap[W1.heap.size]? = some (.cells #[a, b] 50 (0, 0)) := (Below.heap_alloc _ _ _ (by simp)).trans (heap_alloc_new W1 _)
  rw [cell_of_row _ _ _ _ _ _ h1]; rfl
theorem longB_snoc (fs : List Fld) (x : Fld) : longB (fs ++ [x]) = (longB fs || decide (2000 < x.1.length)) := by simp [longB]
theorem FAt.nil (W : World) : FAt W (.slice none 0 0) [] := ⟨none, 0, rfl, fun h => by simp at h⟩
theorem split_end {l : List UInt8} {fs : List Fld} (hl : l.length ≤ 8192) (h : items l = fs.map (·, true)) : splitF l = if longB fs = true ∨ 64 < fs.length then ([], 3) else (fs, 0) := by
  have hg : good (items l) = fs := by rw [h]; unfold good; rw [List.map_map]; exact List.map_id' fs
  have ha : (items l).all (·.2) = true := by rw [h]; simp
  have hn : (items l).length = fs.length := by rw [h]; simp
  unfold splitF
  rw [if_neg (by omega), if_pos ha, hg, hn]
theorem split_wrong {l m : List UInt8} {fs : List Fld} (hl : l.length ≤ 8192) (h : items l = fs.map (·, true) ++ fldsQ m) (hm : (fldsQ m).all (·.2) = false) : splitF l = ([], 6) := by
  have ha : (items l).all (·.2) = false := by rw [h, List.all_append, hm]; simp
  unfold splitF
  rw [if_neg (by omega), ha]; rfl

theorem tok_in (s : ByteArray) (k m : Nat) (hm : m < tokN (s.data.toList.drop k)) : ∃ h : k + m < s.size, ((s[k + m].toNat : Int) != 32) = true := by
  have hp := tok_prefix (s.data.toList.drop k)
  have hlen := congrArg List.length hp
  rw [List.length_append, List.length_drop] at hlen
  have hsz : s.data.toList.length = s.size := by simp
  have hm' : m < (tok (s.data.toList.drop k)).length := hm
  have h : k + m < s.size := by omega
  refine ⟨h, ?_⟩
  have e1 : (s.data.toList.drop k)[m]? = (tok (s.data.toList.drop k))[m]? := by
    conv => lhs; rw [hp]
    exact List.getElem?_append_left hm'
  rw [List.getElem?_drop, List.getElem?_eq_getElem (by omega), List.getElem?_eq_getElem hm'] at e1
  have e2 := Option.some.inj e1
  have hn : notSp (tok (s.data.toList.drop k))[m] = true := List.all_eq_true.1 List.all_takeWhile _ (List.getElem_mem hm')
  rw [← e2] at hn
  have hn2 : s.data.toList[k + m]'(by omega) ≠ 32 := by simpa [notSp] using hn
  rw [bne_iff_ne]
  intro h32
  exact hn2 (UInt8.toNat_inj.1 (show s[k + m].toNat = 32 by omega))
theorem tok_out (s : ByteArray) (k : Nat) (h : k + tokN (s.data.toList.drop k) < s.size) : ((s[k + tokN (s.data.toList.drop k)].toNat : Int) != 32) = false ∧ s.data.toList.drop (k + tokN (s.data.toList.drop k)) = 32 :: s.data.toList.drop (k + tokN (s.data.toList.drop k) + 1) := by
  have hd := List.drop_eq_getElem_cons (l := s.data.toList) (i := k + tokN (s.data.toList.drop k)) (by simpa using h)
  have hc := tok_next (s.data.toList.drop k) (by rw [List.drop_drop]; exact hd)
  constructor
  · have e : s[k + tokN (s.data.toList.drop k)] = 32 := hc
    rw [e]; rfl
  · rw [hd, hc]
theorem tok_cut (s : ByteArray) (k : Nat) : (s.extract k (k + tokN (s.data.toList.drop k))).data.toList = tok (s.data.toList.drop k) := by
  rw [← ByteArray.toList_eq, cut_eq]
  exact (congrArg (List.take (tokN (s.data.toList.drop k))) (tok_prefix (s.data.toList.drop k))).trans List.take_left

theorem box_far {W W' : World} {v a b : Value} {o : Obj} {g : Nat} (h : W.heap[g]? = some (.cells #[a, b] 50 (0, 0))) (hne : v.ownBlock ≠ some g) (hg : (W.alloc o).grownBy W' v.ownBlock) : W'.cell? ⟨g, 0, none⟩ = some a := by
  have hlt : g < W.heap.size := (Array.getElem?_eq_some_iff.1 h).1
  rw [hg.cell_far ⟨g, 0, none⟩ (by simp; omega) (fun e => hne e.symm), World.cell?_alloc_past _ _ _ hlt, cell_of_row _ _ _ _ _ _ h]; rfl

set_option maxRecDepth 100000 in
set_option maxHeartbeats 4000000 in
theorem rsplit24_in (s : ByteArray) (w : World) (hp : 0 < s.size) (hs : s.size ≤ 8192) :
    Calls Tryd.prog 24 #[.string s] w fun e w' => ∃ v, e = .returned (.tuple #[v, .int .i64 (splitF s.data.toList).2]) ∧ FAt w' v (splitF s.data.toList).1 ∧ Below w.heap.size w w' := by
  have hl := Lib.hid (show s.data.toList.length = s.size by simp)
  have hne : s.data.toList ≠ [] := fun e => by have := hl.out; rw [e] at this; simp at this; omega
  have q : decide ((8192 : Int) < (s.size : Int)) = false := decide_eq_false (by omega)
  have q2 : (s.toList == []) = false := by rw [ByteArray.toList_eq]; simpa using hne
  have I0 := Lib.hid (show items s.data.toList = ([] : List Fld).map (·, true) ++ fldsQ (s.data.toList.drop 0) by unfold items; rw [if_neg hne]; rfl)
  clear hne
  go_enter Tryd.func24, Tryd.ntmps24
  go_wp2
  go_loopw [4, 5, 6] (fun o lg i wr => ∃ (k : Nat) (fs : List Fld), k ≤ s.size ∧ i = .int .i64 k ∧ lg = .bool (longB fs) ∧ FRow w.heap.size wr o fs ∧ fs.length ≤ k ∧ Below w.heap.size w wr ∧
      Hid (items s.data.toList = fs.map (·, true) ++ fldsQ (s.data.toList.drop k))) (fun _ _ i _ => s.size + 1 - (intOf i).toNat)
  case atStart => exact ⟨0, [], by omega, rfl, rfl, FRow.nil _ _, by simp, Below.refl _ _, I0⟩
  case round =>
    obtain ⟨k, fs, hk, rfl, hlgv, hrow, hfl, hB, T⟩ := hrel
    obtain ⟨lg, hlg⟩ : ∃ lg, longB fs = lg := ⟨_, rfl⟩
    rw [hlg] at hlgv
    have HLG := Lib.hid hlg
    subst hlgv
    clear hlg
    have QV : ∃ (qs : List UInt8) (z : Int), quoV (takeQL (s.data.toList.drop k)) = .tuple #[.string ⟨qs.toArray⟩, .int .i64 z] ∧ ((takeQL (s.data.toList.drop k) = none ∧ z = 0) ∨ ∃ n : Nat, takeQL (s.data.toList.drop k) = some (qs, n) ∧ z = (n : Int)) := by
      cases h : takeQL (s.data.toList.drop k) with
      | some p => obtain ⟨t, n⟩ := p; exact ⟨t, n, rfl, .inr ⟨n, rfl, rfl⟩⟩
      | none => exact ⟨[], 0, rfl, .inl ⟨rfl, rfl⟩⟩
    obtain ⟨qs, z, HQ1, HQ2⟩ := QV
    have HV := Lib.hid HQ1
    have HS := Lib.hid HQ2
    clear HQ1 HQ2
    go_upto_if 25 with (go_at_call 45; refine (rq45 s k hk (by omega) _).mono ?_; rintro e W1 ⟨rfl, hb1⟩; rw [HV.out]; have hr1 := hrow.below hb1; have hB1 := hB.trans (hb1.mono hB.size); clear hrow hb1)
    go_cut [8] from 15 to 76 (fun n wc => ∃ (t : List UInt8) (b : Bool) (m : Nat), n = .int .i64 m ∧ Hid (refField (s.data.toList.drop k) = some ((t, b), m)) ∧ Hid (wc.heap[W1.heap.size]? = some (.cells #[.string ⟨t.toArray⟩, .bool b] 50 (0, 0))) ∧ FRow w.heap.size wc u4 fs ∧ Below w.heap.size w wc)
    case first =>
      have R1 := hr1.below ((Below.refl _ _).alloc (Nat.le_refl _) (.cells #[.string ⟨qs.toArray⟩, .bool true] 50))
      have D1 := hB1.alloc hB1.size (.cells #[.string ⟨qs.toArray⟩, .bool true] 50)
      have hz1 : W1.heap.size < (W1.alloc (.cells #[.string ⟨qs.toArray⟩, .bool true] 50)).heap.size := by simp
      rcases HS.out with ⟨hq, rfl⟩ | ⟨n, hq, rfl⟩
      · have HQ := Lib.hid hq
        obtain ⟨N, hN⟩ : ∃ N, N = tokN (s.data.toList.drop k) := ⟨_, rfl⟩
        have hNs : k + N ≤ s.size := by
          have hlen := congrArg List.length (tok_prefix (s.data.toList.drop k))
          rw [List.length_append, List.length_drop, List.length_drop, hl.out] at hlen
          unfold tokN at hN
          omega
        have HI := Lib.hid (show ∀ m, m < N → ∃ h : k + m < s.size, ((s[k + m].toNat : Int) != 32) = true from fun m hm => tok_in s k m (by omega))
        have HO := Lib.hid (show ∀ h : k + N < s.size, ((s[k + N].toNat : Int) != 32) = false ∧ s.data.toList.drop (k + N) = 32 :: s.data.toList.drop (k + N + 1) by subst hN; exact tok_out s k)
        have HC := Lib.hid (show (s.extract k (k + N)).data.toList = tok (s.data.toList.drop k) by subst hN; exact tok_cut s k)
        have HE := Lib.hid (show s.extract k (k + N) = ⟨(tok (s.data.toList.drop k)).toArray⟩ by rw [← HC.out])
        have HNN := Lib.hid hN
        clear hq hN
        go_wp2_with fail
        go_loop [8] (fun n => ∃ m : Nat, m ≤ N ∧ n = .int .i64 m) (fun n => N - (intOf n).toNat)
        case atStart => exact ⟨0, by omega, rfl⟩
        case round =>
          obtain ⟨m, hm, rfl⟩ := hrel
          by_cases hmN : m < N
          · obtain ⟨hlt, hc⟩ := HI.out m hmN
            go_wp2
            go_round
            case rel => exact ⟨m + 1, by omega, by go_num⟩
            case measure => simp [intOf]; omega
          · have em : m = N := by omega
            subst em
            have hbc : ∃ bb, bareA (tok (s.data.toList.drop k)) = bb := ⟨_, rfl⟩
            obtain ⟨bb, hbb⟩ := hbc
            have HB := Lib.hid hbb
            clear hbb
            have RN : bb = true → refField (s.data.toList.drop k) = some ((tok (s.data.toList.drop k), false), m) := fun h => by
              subst h; unfold refField; rw [HQ.out, HNN.out]; simp only; rw [if_pos HB.out]
            have RX : bb = false → refField (s.data.toList.drop k) = none := fun h => by
              subst h; unfold refField; rw [HQ.out]; simp only; rw [if_neg (by rw [HB.out]; simp)]
            have HRN := Lib.hid RN
            have HRX := Lib.hid RX
            clear RN RX
            have R2 := hr1.below ((Below.refl _ _).alloc (Nat.le_refl _) (.cells #[.string (s.extract k (k + m)), .bool false] 50))
            have D2 := hB1.alloc hB1.size (.cells #[.string (s.extract k (k + m)), .bool false] 50)
            have B49 := Lib.hid (fun W : World => by have h := rbare49 (s.extract k (k + m)) W (by simp; omega); rw [HC.out, HB.out] at h; exact h)
            have FBX := Lib.hid (show (W1.alloc (.cells #[.string (s.extract k (k + m)), .bool false] 50)).heap[W1.heap.size]? = some (.cells #[.string ⟨(tok (s.data.toList.drop k)).toArray⟩, .bool false] 50 (0, 0)) by rw [← HE.out]; exact heap_alloc_new W1 _)
            by_cases he : k + m < s.size
            · have ho := (HO.out he).1
              cases bb with
              | false =>
                have S6 := Lib.hid (split_wrong (l := s.data.toList) (by rw [hl.out]; exact hs) T.out (ref_none (HRX.out rfl)))
                go_wp2_with (go_at_call 49; refine (B49.out _).mono ?_; rintro e w' ⟨rfl, rfl⟩)
                refine bodyPost_ret (v := .tuple #[.slice none 0 0, .int .i64 6]) (by simp [results, Tryd.f24, go_sem]) rfl ⟨_, by rw [S6.out], by rw [S6.out]; exact FAt.nil _, D2⟩
              | true =>
                have RFX := Lib.hid (HRN.out rfl)
                go_wp2_with (go_at_call 49; refine (B49.out _).mono ?_; rintro e w' ⟨rfl, rfl⟩)
                go_meet
                case rel => exact ⟨_, false, m, rfl, RFX, FBX, R2, D2⟩
            · cases bb with
              | false =>
                have S6 := Lib.hid (split_wrong (l := s.data.toList) (by rw [hl.out]; exact hs) T.out (ref_none (HRX.out rfl)))
                go_wp2_with (go_at_call 49; refine (B49.out _).mono ?_; rintro e w' ⟨rfl, rfl⟩)
                refine bodyPost_ret (v := .tuple #[.slice none 0 0, .int .i64 6]) (by simp [results, Tryd.f24, go_sem]) rfl ⟨_, by rw [S6.out], by rw [S6.out]; exact FAt.nil _, D2⟩
              | true =>
                have RFX := Lib.hid (HRN.out rfl)
                go_wp2_with (go_at_call 49; refine (B49.out _).mono ?_; rintro e w' ⟨rfl, rfl⟩)
                go_meet
                case rel => exact ⟨_, false, m, rfl, RFX, FBX, R2, D2⟩
      · have hb := takeQL_bound hq
        have n0 : ((n : Int) == 0) = false := beq_eq_false_iff_ne.2 (by omega)
        have RF := Lib.hid (show refField (s.data.toList.drop k) = some ((qs, true), n) by unfold refField; rw [hq])
        clear hq hb
        go_wp2_with fail
        go_meet
        case rel => exact ⟨qs, true, n, rfl, RF, Lib.hid (heap_alloc_new W1 _), R1, D1⟩
    case rest =>
      obtain ⟨t, b, m, rfl, RF, FB, hrc, hBc⟩ := hcut
      obtain ⟨hfa, hn1, hn2⟩ := ref_some RF.out
      rw [List.length_drop, hl.out] at hn2
      rw [List.drop_drop] at hfa
      have HF := Lib.hid hfa
      have hfb : u4.ownBlock ≠ some W1.heap.size := fun e => absurd (hr1.lt _ e).2 (Nat.lt_irrefl _)
      have cb0 : wc.cell? ⟨W1.heap.size, 0, none⟩ = some (.string ⟨t.toArray⟩) := by rw [cell_of_row _ _ _ _ _ _ FB.out]; rfl
      have cb1 : wc.cell? ⟨W1.heap.size, 1, none⟩ = some (.bool b) := by rw [cell_of_row _ _ _ _ _ _ FB.out]; rfl
      clear hfa
      have hcase : lg = true ∨ (lg = false ∧ 2000 < t.length) ∨ (lg = false ∧ ¬ 2000 < t.length) := by
        cases lg with
        | true => exact .inl rfl
        | false =>
          by_cases h : 2000 < t.length
          · exact .inr (.inl ⟨rfl, h⟩)
          · exact .inr (.inr ⟨rfl, h⟩)
      rcases hcase with rfl | ⟨rfl, h2⟩ | ⟨rfl, h2⟩
      · have HNL := Lib.hid (show longB (fs ++ [(t, b)]) = true by rw [longB_snoc, HLG.out]; simp)
        by_cases he : k + m = s.size
        · have TE := Lib.hid (split_end (l := s.data.toList) (fs := fs ++ [(t, b)]) (by rw [hl.out]; exact hs) (by
              rw [T.out, fldsQ_last (x := (t, b)) (by rw [HF.out, List.drop_of_length_le (by rw [hl.out]; omega)])]; simp))
          have q4 : ((k : Int) + (m : Int) == (s.size : Int)) = true := beq_iff_eq.2 (by omega)
          have S3 := Lib.hid (show splitF s.data.toList = ([], 3) by rw [TE.out, if_pos (.inl HNL.out)])
          go_wp2_with (at_builtin; refine push_field (W := wc) hrc hBc (t, b) rfl (.tmp 53) (.tmp 55) rfl rfl _ rfl rfl rfl (Nat.le_refl _) (by omega) ?_; intro v3 W3 hr3 hB3 hg3; have m3 := box_far FB.out hfb hg3)
          refine bodyPost_ret (v := .tuple #[.slice none 0 0, .int .i64 3]) (by simp [results, Tryd.f24, go_sem]) rfl ⟨_, by rw [S3.out], by rw [S3.out]; exact FAt.nil _, hB3⟩
        · have hlt : k + m < s.size := by omega
          have q4 : ((k : Int) + (m : Int) == (s.size : Int)) = false := beq_eq_false_iff_ne.2 (by omega)
          have hd := Lib.hid (List.drop_eq_getElem_cons (l := s.data.toList) (i := k + m) (by rw [hl.out]; exact hlt))
          by_cases h32 : (s[k + m].toNat : Int) = 32
          · have q6 : ((s[k + m].toNat : Int) != 32) = false := by simp [h32]
            have e32 : s.data.toList[k + m]'(by rw [hl.out]; exact hlt) = 32 := UInt8.toNat_inj.1 (show s[k + m].toNat = 32 by omega)
            have TN := Lib.hid (show items s.data.toList = (fs ++ [(t, b)]).map (·, true) ++ fldsQ (s.data.toList.drop (k + m + 1)) by
              rw [T.out, fldsQ_more (x := (t, b)) (r := s.data.toList.drop (k + m + 1)) (by rw [HF.out, hd.out, e32])]; simp)
            clear h32 e32
            go_wp2_with (at_builtin; refine push_field (W := wc) hrc hBc (t, b) rfl (.tmp 53) (.tmp 55) rfl rfl _ rfl rfl rfl (Nat.le_refl _) (by omega) ?_; intro v3 W3 hr3 hB3 hg3; have m3 := box_far FB.out hfb hg3)
            go_roundw
            case rel => exact ⟨k + m + 1, fs ++ [(t, b)], by omega, by go_num, by rw [HNL.out], hr3, by simp; omega, hB3, TN⟩
            case measure => simp [intOf]; omega
          · have q6 : ((s[k + m].toNat : Int) != 32) = true := by simp [h32]
            have S6 := Lib.hid (split_wrong (l := s.data.toList) (by rw [hl.out]; exact hs) T.out (by
              rw [fldsQ_bad (x := (t, b)) (by rw [HF.out, hd.out]) (fun e => h32 (by show ((s.data.toList[k + m]'(by rw [hl.out]; exact hlt)).toNat : Int) = 32; rw [e]; rfl))]; rfl))
            clear h32
            go_wp2_with (at_builtin; refine push_field (W := wc) hrc hBc (t, b) rfl (.tmp 53) (.tmp 55) rfl rfl _ rfl rfl rfl (Nat.le_refl _) (by omega) ?_; intro v3 W3 hr3 hB3 hg3; have m3 := box_far FB.out hfb hg3)
            refine bodyPost_ret (v := .tuple #[.slice none 0 0, .int .i64 6]) (by simp [results, Tryd.f24, go_sem]) rfl ⟨_, by rw [S6.out], by rw [S6.out]; exact FAt.nil _, hB3⟩
      · have HNL := Lib.hid (show longB (fs ++ [(t, b)]) = true by rw [longB_snoc, HLG.out]; simp; omega)
        have q3 : decide ((2000 : Int) < (t.length : Int)) = true := decide_eq_true (by omega)
        by_cases he : k + m = s.size
        · have TE := Lib.hid (split_end (l := s.data.toList) (fs := fs ++ [(t, b)]) (by rw [hl.out]; exact hs) (by
              rw [T.out, fldsQ_last (x := (t, b)) (by rw [HF.out, List.drop_of_length_le (by rw [hl.out]; omega)])]; simp))
          have q4 : ((k : Int) + (m : Int) == (s.size : Int)) = true := beq_iff_eq.2 (by omega)
          have S3 := Lib.hid (show splitF s.data.toList = ([], 3) by rw [TE.out, if_pos (.inl HNL.out)])
          go_wp2_with (at_builtin; refine push_field (W := wc) hrc hBc (t, b) rfl (.tmp 53) (.tmp 55) rfl rfl _ rfl rfl rfl (Nat.le_refl _) (by omega) ?_; intro v3 W3 hr3 hB3 hg3; have m3 := box_far FB.out hfb hg3)
          refine bodyPost_ret (v := .tuple #[.slice none 0 0, .int .i64 3]) (by simp [results, Tryd.f24, go_sem]) rfl ⟨_, by rw [S3.out], by rw [S3.out]; exact FAt.nil _, hB3⟩
        · have hlt : k + m < s.size := by omega
          have q4 : ((k : Int) + (m : Int) == (s.size : Int)) = false := beq_eq_false_iff_ne.2 (by omega)
          have hd := Lib.hid (List.drop_eq_getElem_cons (l := s.data.toList) (i := k + m) (by rw [hl.out]; exact hlt))
          by_cases h32 : (s[k + m].toNat : Int) = 32
          · have q6 : ((s[k + m].toNat : Int) != 32) = false := by simp [h32]
            have e32 : s.data.toList[k + m]'(by rw [hl.out]; exact hlt) = 32 := UInt8.toNat_inj.1 (show s[k + m].toNat = 32 by omega)
            have TN := Lib.hid (show items s.data.toList = (fs ++ [(t, b)]).map (·, true) ++ fldsQ (s.data.toList.drop (k + m + 1)) by
              rw [T.out, fldsQ_more (x := (t, b)) (r := s.data.toList.drop (k + m + 1)) (by rw [HF.out, hd.out, e32])]; simp)
            clear h32 e32
            go_wp2_with (at_builtin; refine push_field (W := wc) hrc hBc (t, b) rfl (.tmp 53) (.tmp 55) rfl rfl _ rfl rfl rfl (Nat.le_refl _) (by omega) ?_; intro v3 W3 hr3 hB3 hg3; have m3 := box_far FB.out hfb hg3)
            go_roundw
            case rel => exact ⟨k + m + 1, fs ++ [(t, b)], by omega, by go_num, by rw [HNL.out], hr3, by simp; omega, hB3, TN⟩
            case measure => simp [intOf]; omega
          · have q6 : ((s[k + m].toNat : Int) != 32) = true := by simp [h32]
            have S6 := Lib.hid (split_wrong (l := s.data.toList) (by rw [hl.out]; exact hs) T.out (by
              rw [fldsQ_bad (x := (t, b)) (by rw [HF.out, hd.out]) (fun e => h32 (by show ((s.data.toList[k + m]'(by rw [hl.out]; exact hlt)).toNat : Int) = 32; rw [e]; rfl))]; rfl))
            clear h32
            go_wp2_with (at_builtin; refine push_field (W := wc) hrc hBc (t, b) rfl (.tmp 53) (.tmp 55) rfl rfl _ rfl rfl rfl (Nat.le_refl _) (by omega) ?_; intro v3 W3 hr3 hB3 hg3; have m3 := box_far FB.out hfb hg3)
            refine bodyPost_ret (v := .tuple #[.slice none 0 0, .int .i64 6]) (by simp [results, Tryd.f24, go_sem]) rfl ⟨_, by rw [S6.out], by rw [S6.out]; exact FAt.nil _, hB3⟩
      · have HNL := Lib.hid (show longB (fs ++ [(t, b)]) = false by rw [longB_snoc, HLG.out]; simp; omega)
        have q3 : decide ((2000 : Int) < (t.length : Int)) = false := decide_eq_false (by omega)
        by_cases he : k + m = s.size
        · have TE := Lib.hid (split_end (l := s.data.toList) (fs := fs ++ [(t, b)]) (by rw [hl.out]; exact hs) (by
              rw [T.out, fldsQ_last (x := (t, b)) (by rw [HF.out, List.drop_of_length_le (by rw [hl.out]; omega)])]; simp))
          have q4 : ((k : Int) + (m : Int) == (s.size : Int)) = true := beq_iff_eq.2 (by omega)
          by_cases h64 : 64 < fs.length + 1
          · have S3 := Lib.hid (show splitF s.data.toList = ([], 3) by rw [TE.out, if_pos (.inr (by simp; omega))])
            have q5 : decide ((64 : Int) < (fs.length : Int) + 1) = true := decide_eq_true (by omega)
            go_wp2_with (at_builtin; refine push_field (W := wc) hrc hBc (t, b) rfl (.tmp 53) (.tmp 55) rfl rfl _ rfl rfl rfl (Nat.le_refl _) (by omega) ?_; intro v3 W3 hr3 hB3 hg3; have m3 := box_far FB.out hfb hg3; obtain ⟨A3, c3, rfl⟩ := own_form hr3)
            refine bodyPost_ret (v := .tuple #[.slice none 0 0, .int .i64 3]) (by simp [results, Tryd.f24, go_sem]) rfl ⟨_, by rw [S3.out], by rw [S3.out]; exact FAt.nil _, hB3⟩
          · have S0 := Lib.hid (show splitF s.data.toList = (fs ++ [(t, b)], 0) by rw [TE.out, if_neg (by rw [HNL.out]; simp; omega)])
            have q5 : decide ((64 : Int) < (fs.length : Int) + 1) = false := decide_eq_false (by omega)
            go_wp2_with (at_builtin; refine push_field (W := wc) hrc hBc (t, b) rfl (.tmp 53) (.tmp 55) rfl rfl _ rfl rfl rfl (Nat.le_refl _) (by omega) ?_; intro v3 W3 hr3 hB3 hg3; have m3 := box_far FB.out hfb hg3; obtain ⟨A3, c3, rfl⟩ := own_form hr3)
            refine bodyPost_ret (v := .tuple #[.slice A3 (fs ++ [(t, b)]).length c3, .int .i64 0]) (by simp [results, Tryd.f24, go_sem]) rfl ⟨_, by rw [S0.out], by rw [S0.out]; exact FAt.of_own hr3, hB3⟩
        · have hlt : k + m < s.size := by omega
          have q4 : ((k : Int) + (m : Int) == (s.size : Int)) = false := beq_eq_false_iff_ne.2 (by omega)
          have hd := Lib.hid (List.drop_eq_getElem_cons (l := s.data.toList) (i := k + m) (by rw [hl.out]; exact hlt))
          by_cases h32 : (s[k + m].toNat : Int) = 32
          · have q6 : ((s[k + m].toNat : Int) != 32) = false := by simp [h32]
            have e32 : s.data.toList[k + m]'(by rw [hl.out]; exact hlt) = 32 := UInt8.toNat_inj.1 (show s[k + m].toNat = 32 by omega)
            have TN := Lib.hid (show items s.data.toList = (fs ++ [(t, b)]).map (·, true) ++ fldsQ (s.data.toList.drop (k + m + 1)) by
              rw [T.out, fldsQ_more (x := (t, b)) (r := s.data.toList.drop (k + m + 1)) (by rw [HF.out, hd.out, e32])]; simp)
            clear h32 e32
            go_wp2_with (at_builtin; refine push_field (W := wc) hrc hBc (t, b) rfl (.tmp 53) (.tmp 55) rfl rfl _ rfl rfl rfl (Nat.le_refl _) (by omega) ?_; intro v3 W3 hr3 hB3 hg3; have m3 := box_far FB.out hfb hg3)
            go_roundw
            case rel => exact ⟨k + m + 1, fs ++ [(t, b)], by omega, by go_num, by rw [HNL.out], hr3, by simp; omega, hB3, TN⟩
            case measure => simp [intOf]; omega
          · have q6 : ((s[k + m].toNat : Int) != 32) = true := by simp [h32]
            have S6 := Lib.hid (split_wrong (l := s.data.toList) (by rw [hl.out]; exact hs) T.out (by
              rw [fldsQ_bad (x := (t, b)) (by rw [HF.out, hd.out]) (fun e => h32 (by show ((s.data.toList[k + m]'(by rw [hl.out]; exact hlt)).toNat : Int) = 32; rw [e]; rfl))]; rfl))
            clear h32
            go_wp2_with (at_builtin; refine push_field (W := wc) hrc hBc (t, b) rfl (.tmp 53) (.tmp 55) rfl rfl _ rfl rfl rfl (Nat.le_refl _) (by omega) ?_; intro v3 W3 hr3 hB3 hg3; have m3 := box_far FB.out hfb hg3)
            refine bodyPost_ret (v := .tuple #[.slice none 0 0, .int .i64 6]) (by simp [results, Tryd.f24, go_sem]) rfl ⟨_, by rw [S6.out], by rw [S6.out]; exact FAt.nil _, hB3⟩
end YtkhggnfhhafkjaaDoor
end Go.Proofs
