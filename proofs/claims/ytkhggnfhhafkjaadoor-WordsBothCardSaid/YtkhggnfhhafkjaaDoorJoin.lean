/- words.Join answers the fields' line, a space between two, or the error that the plain function names. Condition: the escapes lie as the program lays them. -/
import Derived.Test.YtkhggnfhhafkjaaDoorJoinP
import Derived.Deep.RegionHeld3
namespace Go.Proofs
namespace YtkhggnfhhafkjaaDoor
open Go.RowKit

set_option maxRecDepth 100000 in
set_option maxHeartbeats 1000000 in
theorem af51 (w W : World) (v : Value) (l t : List UInt8) (q : Bool) (hE : Hid (EscLaid w)) (hB : Below w.heap.size w W) (hown : Row w.heap.size W v l) (hl : l.length ≤ 10000000000) (ht : t.length ≤ 1000000) :
    Calls Tryd.prog 51 #[v, .agg #[.string ⟨t.toArray⟩, .bool q]] W fun e W' => ∃ v', e = .returned v' ∧ Row w.heap.size W' v' (l ++ txt (t, q)) ∧ Below w.heap.size w W' := by
  have h1 := hown.below ((Below.refl _ _).alloc (Nat.le_refl _) (.cells #[.string ⟨t.toArray⟩, .bool q] 50))
  have hB1 := hB.alloc hB.size (.cells #[.string ⟨t.toArray⟩, .bool q] 50)
  have hsz : (⟨t.toArray⟩ : ByteArray).size = t.length := by simp [ByteArray.size]
  have H46 := Lib.hid (aq46 w (W.alloc (.cells #[.string ⟨t.toArray⟩, .bool q] 50)) v l ⟨t.toArray⟩ hE hB1 h1 (by omega) (by omega))
  clear hsz hown
  cases q with
  | true =>
    go_enter Tryd.func51, Tryd.ntmps51
    go_wp2_with (go_at_call 46; refine H46.out.mono ?_; rintro e w2 ⟨v2, rfl, hr2, hb2⟩)
    exact bodyPost_ret (v := v2) (by simp [results, Tryd.f51, go_sem]) rfl ⟨v2, rfl, hr2, hb2⟩
  | false =>
    go_enter Tryd.func51, Tryd.ntmps51
    go_wp2_with (at_builtin; refine push_text h1 hB1 t rfl (.tmp 11) (.tmp 13) rfl rfl rfl (Nat.le_refl _) (by omega) ?_; intro v2 W2 hr2 hb2)
    exact bodyPost_ret (v := v2) (by simp [results, Tryd.f51, go_sem]) rfl ⟨v2, rfl, hr2, hb2⟩

theorem push_sp {ops : Array Oper} {rest : List Oper} {o : Oper} {a : Act} {Q : Exit → Act → World → Prop} {W W0 w : World} {B : Nat} {v : Value} {l : List UInt8} (hown : Row B W v l) (hB : Below B w W) (t : List UInt8) (hgd : o.guard = none) (s x : Operand)
    (ho : o.op = .call { callee := .builtin .append, args := #[s, x], argTypes := #[38, 38] }) (hs : a.eval s = v) (H : Nat) (hx : a.eval x = .slice (some ⟨H, 0, none⟩) t.length t.length) (hH : H = W.heap.size)
    (hW : W0 = W.alloc (.cells (bc t).toArray 5)) (hBs : B ≤ w.heap.size) (hl : l.length + t.length ≤ 100000000000000)
    (h : ∀ v' W', Row B W' v' (l ++ t) → Below B w W' → (W.alloc (.cells (bc t).toArray 5)).grownBy W' v.ownBlock → wpList Tryd.prog ops Q rest (a.put o.dst v') W') : wpList Tryd.prog ops Q (o :: rest) a W0 := by
  subst hW
  subst hH
  obtain ⟨i0, hi, hz0, hz1, hz2⟩ := info_parts info5
  have hBW : B ≤ W.heap.size := Nat.le_trans hBs hB.size
  refine wpList_append_own _ hgd s x 38 ho B 5 i0 (.int .u8 0) 1 1 Tryd.underlying38 hi hz0 hz1 hz2 rfl (by decide) v l.length (bc l) hs (hown.alloc _) ⟨W.heap.size, 0, none⟩ t.length t.length (bc t) hx (by rw [bc_length, Nat.mul_one]) ?_ ?_ ?_ ?_ ?_ ?_
  · intro j u hj
    have e : (⟨W.heap.size, 0, none⟩ : Addr).add j = ⟨W.heap.size, j, none⟩ := by unfold Addr.add; split <;> simp_all
    rw [e, cell_of_row _ _ _ _ _ _ (heap_alloc_new W _)]
    simpa using hj
  · intro u hu
    simp only [bc, List.mem_map] at hu
    obtain ⟨c, _, rfl⟩ := hu
    rfl
  · unfold maxLen; omega
  · omega
  · simp; omega
  · intro v' W' h1 h2 _
    refine h v' W' ?_ ?_ h2
    · unfold Row; rw [bc_append, List.length_append]; exact h1
    · exact (hB.alloc hBW _).grown h2 (by simp; omega) (fun k hk => (hown.lt k hk).1)
theorem sp_far {W W' : World} {v x : Value} {o : Obj} {g i : Nat} (h : W.cell? ⟨g, i, none⟩ = some x) (hne : v.ownBlock ≠ some g) (hg : (W.drew.alloc o).grownBy W' v.ownBlock) : W'.cell? ⟨g, i, none⟩ = some x := by
  have hlt : g < W.heap.size := cell_lt h
  have hlt' : g < W.drew.heap.size := hlt
  rw [hg.cell_far ⟨g, i, none⟩ (by simp; omega) (fun e => hne e.symm), World.cell?_alloc_past _ _ _ hlt']
  exact h

set_option maxRecDepth 100000 in
theorem join27_many (v : Value) (fs : List Fld) (w : World) (hF : FAt w v fs) (h64 : 64 < fs.length) :
    Calls Tryd.prog 27 #[v] w fun e w' => e = .returned (.tuple #[.string ⟨#[]⟩, .int .i64 3]) ∧ Below w.heap.size w w' := by
  obtain ⟨A, cap, rfl, _⟩ := hF
  have q0 : decide ((64 : Int) < (fs.length : Int)) = true := decide_eq_true (by omega)
  go_enter Tryd.func27, Tryd.ntmps27
  go_wp2
  go_ret2
  exact ⟨rfl, Below.refl _ _⟩

set_option maxRecDepth 100000 in
set_option maxHeartbeats 4000000 in
theorem join27_few (v : Value) (fs : List Fld) (w : World) (hE : EscLaid w) (hF : FAt w v fs) (h64 : ¬ 64 < fs.length) (hsz : ∀ (j : Nat) (f : Fld), fs[j]? = some f → f.1.length ≤ 1000000) :
    Calls Tryd.prog 27 #[v] w fun e w' => e = .returned (joinV (joinF fs)) ∧ Below w.heap.size w w' := by
  have HE := Lib.hid hE
  have HZ := Lib.hid hsz
  clear hE hsz
  obtain ⟨A, cap, rfl, hA⟩ := hF
  have HA := Lib.hid hA
  clear hA
  have q0 : decide ((64 : Int) < (fs.length : Int)) = false := decide_eq_false (by omega)
  go_enter Tryd.func27, Tryd.ntmps27
  go_wp2
  go_loopw [14] (fun i wr => ∃ k : Nat, k ≤ fs.length ∧ i = .int .i64 k ∧ Below w.heap.size w wr ∧ Hid (∀ (j : Nat) (f : Fld), j < k → fs[j]? = some f → ¬ 2000 < f.1.length)) (fun i _ => fs.length - (intOf i).toNat)
  case atStart => exact ⟨0, by omega, rfl, Below.refl _ _, Lib.hid (fun j f hj => by omega)⟩
  case round =>
    obtain ⟨k, hk, rfl, hB, HJ⟩ := hrel
    by_cases hlt : k < fs.length
    · obtain ⟨b, off, rfl, hA⟩ := HA.out (by omega)
      obtain ⟨t, q, hx⟩ := get_pair hlt
      obtain ⟨d1, d2⟩ := fcells hB hA hx
      have HX := Lib.hid hx
      have hlt' : (k : Int) < (fs.length : Int) := by omega
      clear hx hA
      by_cases hl : 2000 < t.length
      · have q1 : decide ((2000 : Int) < (t.length : Int)) = true := decide_eq_true (by omega)
        have F := Lib.hid (show joinF fs = ([], 3) by unfold joinF; rw [if_neg h64, if_pos (show longB fs = true from any_of (p := fun f => decide (2000 < f.1.length)) HX.out (by simpa using hl))])
        go_wp2
        go_ret2
        exact ⟨by rw [F.out]; rfl, hB.alloc hB.size _⟩
      · have q1 : decide ((2000 : Int) < (t.length : Int)) = false := decide_eq_false (by omega)
        have HJ2 := Lib.hid (show ∀ (j : Nat) (f : Fld), j < k + 1 → fs[j]? = some f → ¬ 2000 < f.1.length from fun j f hj hf => by
          rcases Nat.lt_or_ge j k with h | h
          · exact HJ.out j f h hf
          · obtain rfl : j = k := by omega
            rw [HX.out] at hf
            cases hf
            exact hl)
        go_wp2
        go_roundw
        case rel => exact ⟨k + 1, by omega, by go_num, hB.alloc hB.size _, HJ2⟩
        case measure => simp [intOf]; omega
    · have ek : k = fs.length := by omega
      subst ek
      have NL := Lib.hid (show longB fs = false from any_none (p := fun f => decide (2000 < f.1.length)) (fun j f hj => by have := HJ.out j f (List.getElem?_eq_some_iff.1 hj).1 hj; simpa using this))
      have HS := Lib.hid (fun (j : Nat) (f : Fld) (hj : fs[j]? = some f) => HJ.out j f (List.getElem?_eq_some_iff.1 hj).1 hj)
      clear HJ
      obtain ⟨wo, rfl⟩ : ∃ wo : World, wo = wr := ⟨_, rfl⟩
      go_wp2
      go_loopw [6, 25] (fun bv i wr => ∃ k : Nat, k ≤ fs.length ∧ i = .int .i64 k ∧ Row w.heap.size wr bv (joinT (fs.take k)) ∧ (joinT (fs.take k)).length ≤ 8003 * k ∧ Below w.heap.size w wr ∧ Hid (∀ (j : Nat) (f : Fld), j < k → fs[j]? = some f → badF f = false)) (fun _ i _ => fs.length - (intOf i).toNat)
      case atStart => exact ⟨0, by omega, rfl, Row.nil _ _, by simp [joinT], hB, Lib.hid (fun j f hj => by omega)⟩
      case round =>
        clear hB
        obtain ⟨k, hk, rfl, hrow, hjl, hB, HJ⟩ := hrel
        by_cases hlt : k < fs.length
        · obtain ⟨b, off, rfl, hA⟩ := HA.out (by omega)
          obtain ⟨t, q, hx⟩ := get_pair hlt
          obtain ⟨d1, d2⟩ := fcells hB hA hx
          have HX := Lib.hid hx
          have HT := Lib.hid (joinT_step hx)
          have htl : t.length ≤ 2000 := Nat.le_of_not_lt (HS.out k (t, q) hx)
          have hlt' : (k : Int) < (fs.length : Int) := by omega
          clear hx hA
          have g0 : (wr.alloc (.cells #[.string ⟨t.toArray⟩, .bool q] 50)).cell? ⟨wr.heap.size, 0, none⟩ = some (.string ⟨t.toArray⟩) := by simp
          have g1 : (wr.alloc (.cells #[.string ⟨t.toArray⟩, .bool q] 50)).cell? ⟨wr.heap.size, 1, none⟩ = some (.bool q) := by simp
          have rA := hrow.below ((Below.refl _ _).alloc (Nat.le_refl _) (.cells #[.string ⟨t.toArray⟩, .bool q] 50)).drew
          have bA := (hB.alloc hB.size (.cells #[.string ⟨t.toArray⟩, .bool q] 50)).drew
          have hne : u6.ownBlock ≠ some wr.heap.size := fun e => absurd (hrow.lt _ e).2 (Nat.lt_irrefl _)
          have tl := txt_len (t, q) htl
          have hcase : (q = true ∨ (q = false ∧ t ≠ [] ∧ bareN t = t.length)) ∨ (q = false ∧ t = []) ∨ (q = false ∧ t ≠ [] ∧ bareN t ≠ t.length) := by
            cases q with
            | true => exact .inl (.inl rfl)
            | false =>
              by_cases h1 : t = []
              · exact .inr (.inl ⟨rfl, h1⟩)
              · by_cases h2 : bareN t = t.length
                · exact .inl (.inr ⟨rfl, h1, h2⟩)
                · exact .inr (.inr ⟨rfl, h1, h2⟩)
          rcases hcase with hgood | ⟨rfl, rfl⟩ | ⟨rfl, h1, h2⟩
          · have HJ2 := Lib.hid (show ∀ (j : Nat) (f : Fld), j < k + 1 → fs[j]? = some f → badF f = false from fun j f hj hf => by
              rcases Nat.lt_or_ge j k with h | h
              · exact HJ.out j f h hf
              · obtain rfl : j = k := by omega
                rw [HX.out] at hf
                cases hf
                rcases hgood with rfl | ⟨rfl, h1, h2⟩
                · rfl
                · have hp : 0 < t.length := by rcases t with _ | ⟨c, r⟩ <;> simp at h1 ⊢
                  simp [badF, bareA, (bareN_eq t).1 h2, hp])
            have HL := Lib.hid (show (joinT (fs.take (k + 1))).length ≤ 8003 * (k + 1) by
              rw [HT.out, List.length_append, List.length_append]
              have : (if k = 0 then ([] : List UInt8) else [32]).length ≤ 1 := by split <;> simp
              omega)
            rcases hgood with rfl | ⟨rfl, h1, h2⟩
            · have HB50 := Lib.hid (fun W : World => bare50 ⟨t.toArray⟩ W (by simp [ByteArray.size]; omega))
              go_upto_region 13 with (fail)
              go_region
              by_cases hk0 : k = 0
              · have HT0 := Lib.hid (show joinT (fs.take (k + 1)) = joinT (fs.take k) ++ txt (t, true) by rw [HT.out, if_pos hk0]; rfl)
                have p0 : decide ((0 : Int) < (k : Int)) = false := decide_eq_false (by omega)
                have p0n : decide (0 < k) = false := decide_eq_false (by omega)
                have p0m : ¬ 0 < k := by omega
                clear hk0
                go_wp2_with (go_at_call 51; refine (af51 w _ _ _ t true HE bA rA (by omega) (by omega)).mono ?_; rintro e w4 ⟨v4, rfl, hr4, hb4⟩)
                go_roundw
                case rel => exact ⟨k + 1, by omega, by go_num, by rw [HT0.out]; exact hr4, HL.out, hb4, HJ2⟩
                case measure => simp [intOf]; omega
              · have HT0 := Lib.hid (show joinT (fs.take (k + 1)) = (joinT (fs.take k) ++ [32]) ++ txt (t, true) by rw [HT.out, if_neg hk0, List.append_assoc])
                have p0 : decide ((0 : Int) < (k : Int)) = true := decide_eq_true (by omega)
                have p0n : decide (0 < k) = true := decide_eq_true (by omega)
                have p0m : 0 < k := by omega
                clear hk0
                go_wp2_with (first
                  | (at_builtin; refine push_sp (W := (wr.alloc (.cells #[.string ⟨t.toArray⟩, .bool true] 50)).drew) rA bA [32] rfl (.tmp 49) (.tmp 50) rfl rfl (wr.heap.size + 1) rfl (by simp) rfl (Nat.le_refl _) (by simp; omega) ?_; intro v3 W3 hr3 hb3 hg3; have m0 := sp_far g0 hne hg3; have m1 := sp_far g1 hne hg3)
                  | (go_at_call 51; refine (af51 w _ _ _ t true HE hb3 hr3 (by simp; omega) (by omega)).mono ?_; rintro e w4 ⟨v4, rfl, hr4, hb4⟩))
                go_roundw
                case rel => exact ⟨k + 1, by omega, by go_num, by rw [HT0.out]; exact hr4, HL.out, hb4, HJ2⟩
                case measure => simp [intOf]; omega
            · have p1 : decide ((bareN t : Int) < (t.length : Int)) = false := decide_eq_false (by omega)
              have p1n : decide (bareN t < t.length) = false := decide_eq_false (by omega)
              have t0 : (t == []) = false := by simpa using h1
              have t1 : ((⟨t.toArray⟩ : ByteArray).toList == []) = false := by rw [ByteArray.toList_eq]; simpa using h1
              have t2 : t.isEmpty = false := by simpa using h1
              have HB50 := Lib.hid (fun W : World => by have h := bare50 ⟨t.toArray⟩ W (by simp [ByteArray.size]; omega); exact h)
              clear h1 h2
              go_upto_region 13 with (fail)
              go_region_held3 (fun W => W.cell? ⟨wr.heap.size, 0, none⟩ = some (.string ⟨t.toArray⟩) ∧ W.cell? ⟨wr.heap.size, 1, none⟩ = some (.bool false)) (first | exact ⟨g0, g1⟩)
                (first | (go_at_call 50; refine (HB50.out _).mono ?_; rintro e w' ⟨rfl, rfl⟩))
              by_cases hk0 : k = 0
              · have HT0 := Lib.hid (show joinT (fs.take (k + 1)) = joinT (fs.take k) ++ txt (t, false) by rw [HT.out, if_pos hk0]; rfl)
                have p0 : decide ((0 : Int) < (k : Int)) = false := decide_eq_false (by omega)
                have p0n : decide (0 < k) = false := decide_eq_false (by omega)
                have p0m : ¬ 0 < k := by omega
                clear hk0
                go_wp2_with (go_at_call 51; refine (af51 w _ _ _ t false HE bA rA (by omega) (by omega)).mono ?_; rintro e w4 ⟨v4, rfl, hr4, hb4⟩)
                go_roundw
                case rel => exact ⟨k + 1, by omega, by go_num, by rw [HT0.out]; exact hr4, HL.out, hb4, HJ2⟩
                case measure => simp [intOf]; omega
              · have HT0 := Lib.hid (show joinT (fs.take (k + 1)) = (joinT (fs.take k) ++ [32]) ++ txt (t, false) by rw [HT.out, if_neg hk0, List.append_assoc])
                have p0 : decide ((0 : Int) < (k : Int)) = true := decide_eq_true (by omega)
                have p0n : decide (0 < k) = true := decide_eq_true (by omega)
                have p0m : 0 < k := by omega
                clear hk0
                go_wp2_with (first
                  | (at_builtin; refine push_sp (W := (wr.alloc (.cells #[.string ⟨t.toArray⟩, .bool false] 50)).drew) rA bA [32] rfl (.tmp 49) (.tmp 50) rfl rfl (wr.heap.size + 1) rfl (by simp) rfl (Nat.le_refl _) (by simp; omega) ?_; intro v3 W3 hr3 hb3 hg3; have m0 := sp_far g0 hne hg3; have m1 := sp_far g1 hne hg3)
                  | (go_at_call 51; refine (af51 w _ _ _ t false HE hb3 hr3 (by simp; omega) (by omega)).mono ?_; rintro e w4 ⟨v4, rfl, hr4, hb4⟩))
                go_roundw
                case rel => exact ⟨k + 1, by omega, by go_num, by rw [HT0.out]; exact hr4, HL.out, hb4, HJ2⟩
                case measure => simp [intOf]; omega
          · have F := Lib.hid (show joinF fs = ([], 6) by unfold joinF; rw [if_neg h64, NL.out, if_neg (by simp), if_pos (any_of HX.out (by rfl))])
            go_upto_region 13 with (fail)
            go_region
            go_wp2
            go_ret2
            exact ⟨by rw [F.out]; rfl, bA⟩
          · have F := Lib.hid (show joinF fs = ([], 6) by
              unfold joinF
              rw [if_neg h64, NL.out, if_neg (by simp), if_pos (any_of HX.out (by
                have : t.all bareC = false := by
                  cases hh : t.all bareC with
                  | true => exact absurd ((bareN_eq t).2 hh) h2
                  | false => rfl
                simp [badF, bareA, this]))])
            have hbn := bareN_le t
            have p1 : decide ((bareN t : Int) < (t.length : Int)) = true := decide_eq_true (by omega)
            have p1n : decide (bareN t < t.length) = true := decide_eq_true (by omega)
            have t0 : (t == []) = false := by simpa using h1
            have t1 : ((⟨t.toArray⟩ : ByteArray).toList == []) = false := by rw [ByteArray.toList_eq]; simpa using h1
            have t2 : t.isEmpty = false := by simpa using h1
            have HB50 := Lib.hid (fun W : World => by have h := bare50 ⟨t.toArray⟩ W (by simp [ByteArray.size]; omega); exact h)
            clear h1 h2
            go_upto_region 13 with (fail)
            go_region_held3 (fun W => W.cell? ⟨wr.heap.size, 0, none⟩ = some (.string ⟨t.toArray⟩) ∧ W.cell? ⟨wr.heap.size, 1, none⟩ = some (.bool false)) (first | exact ⟨g0, g1⟩)
              (first | (go_at_call 50; refine (HB50.out _).mono ?_; rintro e w' ⟨rfl, rfl⟩))
            go_wp2
            go_ret2
            exact ⟨by rw [F.out]; rfl, bA⟩
        · have ek : k = fs.length := by omega
          subst ek
          rw [List.take_length] at hrow hjl
          have NB := Lib.hid (show fs.any badF = false from any_none (fun j f hj => HJ.out j f (List.getElem?_eq_some_iff.1 hj).1 hj))
          have hc := string_of_row hrow
          obtain ⟨A', c', rfl⟩ := own_form hrow
          by_cases hlong : 8192 < (joinT fs).length
          · have q9 : decide ((8192 : Int) < ((joinT fs).length : Int)) = true := decide_eq_true (by omega)
            have F := Lib.hid (show joinF fs = ([], 3) by unfold joinF; rw [if_neg h64, NL.out, if_neg (by simp), NB.out, if_neg (by simp), if_pos hlong])
            go_wp2
            go_ret2
            exact ⟨by rw [F.out]; rfl, hB⟩
          · have q9 : decide ((8192 : Int) < ((joinT fs).length : Int)) = false := decide_eq_false (by omega)
            have F := Lib.hid (show joinF fs = (joinT fs, 0) by unfold joinF; rw [if_neg h64, NL.out, if_neg (by simp), NB.out, if_neg (by simp), if_neg hlong])
            go_wp2
            go_ret2
            exact ⟨by rw [F.out]; rfl, hB⟩
theorem join27 (v : Value) (fs : List Fld) (w : World) (hE : EscLaid w) (hF : FAt w v fs) (hsz : ∀ (j : Nat) (f : Fld), fs[j]? = some f → f.1.length ≤ 1000000) :
    Calls Tryd.prog 27 #[v] w fun e w' => e = .returned (joinV (joinF fs)) ∧ Below w.heap.size w w' := by
  by_cases h64 : 64 < fs.length
  · have F : joinF fs = ([], 3) := by unfold joinF; rw [if_pos h64]
    rw [F]
    exact join27_many v fs w hF h64
  · exact join27_few v fs w hE hF h64 hsz
end YtkhggnfhhafkjaaDoor
end Go.Proofs
