/- listed: the runs of a list are written. -/
import Derived.Test.YtkhggnfhhafkjaaDoorListP
namespace Go.Proofs
namespace YtkhggnfhhafkjaaDoor
open Go.RowKit

theorem Row.form {B : Nat} {W : World} {v : Value} {l : List UInt8} (h : Row B W v l) : ∃ A cap, v = .slice A l.length cap := by
  rcases h.2 with ⟨rfl, h0⟩ | ⟨gg, cap, cur, rfl, _⟩
  · rw [h0]; exact ⟨none, 0, rfl⟩
  · exact ⟨_, cap, rfl⟩
theorem IntsAt.below {w w' : World} {b off : Nat} {zs : List Int} (h : IntsAt w b off zs) (hb : Below w.heap.size w w') (hlt : b < w.heap.size) : IntsAt w' b off zs :=
  fun k z hz => (hb.cell (p := ⟨b, off + k, none⟩) hlt).trans (h k z hz)
theorem IntsAt.drop {w : World} {b off : Nat} {zs : List Int} (h : IntsAt w b off zs) (j : Nat) : IntsAt w b (off + j) (zs.drop j) := fun k z hz => by
  rw [List.getElem?_drop] at hz
  have := h (j + k) z hz
  rwa [← Nat.add_assoc] at this
theorem run76b (b off cap n : Nat) (zs : List Int) (p : Nat) (hp : runN zs = p + 1) (hn : n = zs.length) (hc : zs.length ≤ cap) (hm : cap ≤ 9223372036854775807) (hb : Hid (∀ z ∈ zs, Big z)) (w : World) (hw : IntsAt w b off zs) :
    Calls Tryd.prog 76 #[.slice (some ⟨b, off, none⟩) n cap] w fun e w' => e = .returned (.int .i64 ((p : Int) + 1)) ∧ Below w.heap.size w w' := by
  subst hn
  have h0 : 0 < zs.length := by
    have := runN_le zs
    omega
  refine (run76 b off cap zs h0 hc hm hb.out w hw).mono fun e w' h => ?_
  obtain ⟨rfl, k, rfl⟩ := h
  exact ⟨by rw [hp]; rfl, below_drewN (Below.refl _ _) k⟩
def slen : Value → Nat
  | .slice _ n _ => n
  | _ => 0
theorem itoa_big {z : Int} (h : Big z) : (Lib.itoa z).length ≤ 21 := by
  obtain ⟨h0, h1⟩ := h
  exact Lib.itoa_length_le z (by omega) (by omega)
theorem dig17b (z : Int) (h : Big z) (w : World) (hL : Hid (Laid w)) :
    Calls Tryd.prog 17 #[.int .i64 z] w fun e w' => e = .returned (.string ⟨(Lib.itoa z).toArray⟩) ∧ Below w.heap.size w w' := by
  obtain ⟨h0, h1⟩ := h
  exact digits17 z (by omega) (by omega) w hL

set_option maxRecDepth 100000 in
set_option maxHeartbeats 4000000 in
theorem listed54 (b0 off cap : Nat) (zs : List Int) (hz : zs.length ≤ 1000000) (hc : zs.length ≤ cap) (hm : cap ≤ 9223372036854775807) (hb : ∀ z ∈ zs, Big z) (w : World) (hw : IntsAt w b0 off zs) (hbl : b0 < w.heap.size) (hL : Laid w) :
    Calls Tryd.prog 54 #[.slice (some ⟨b0, off, none⟩) zs.length cap] w fun e w' => e = .returned (.string ⟨(listedL zs).toArray⟩) ∧ Below w.heap.size w w' := by
  have HB := Lib.hid hb
  have HW := Lib.hid hw
  have HL := Lib.hid hL
  clear hb hw hL
  go_enter Tryd.func54, Tryd.ntmps54
  go_wp2
  go_loopw [0, 3] (fun l b wr => ∃ (j c : Nat) (A : Option Addr) (acc : List UInt8), j ≤ zs.length ∧ l = .slice A (zs.length - j) c ∧ (j < zs.length → A = some ⟨b0, off + j, none⟩ ∧ zs.length - j ≤ c) ∧ c ≤ 9223372036854775807 ∧
      Row w.heap.size wr b acc ∧ acc.length ≤ 60 * j ∧ Below w.heap.size w wr ∧ Hid (listedL zs = acc ++ toCome acc (zs.drop j))) (fun l _ _ => slen l)
  case atStart => exact ⟨0, cap, _, [], by omega, rfl, fun _ => ⟨rfl, by omega⟩, hm, Row.nil _ _, by simp, Below.refl _ _, Lib.hid (by simp [toCome])⟩
  case round =>
    obtain ⟨j, c, A, acc, hj, rfl, hA, hcm, hrow, hal, hB, H⟩ := hrel
    by_cases hlt : j < zs.length
    · obtain ⟨rfl, hjc⟩ := hA hlt
      clear hA
      have S := Lib.hid (toCome_step acc zs j hlt)
      have hrs : (zs.drop j).length = zs.length - j := by simp
      have hle := runN_le (zs.drop j)
      have HWj := (HW.out.below hB hbl).drop j
      have HBj : Hid (∀ z ∈ zs.drop j, Big z) := Lib.hid fun z hz => HB.out z (List.mem_of_mem_drop hz)
      obtain ⟨p, hp⟩ : ∃ p, runN (zs.drop j) = p + 1 := by
        have : 1 ≤ runN (zs.drop j) := by rw [List.drop_eq_getElem_cons hlt]; exact runN_pos _ _
        exact ⟨runN (zs.drop j) - 1, by omega⟩
      have hpl : p + 1 ≤ zs.length - j := by omega
      have f0 : (zs.drop j)[0]? = some ((zs.drop j)[0]?.getD 0) := by rw [List.getElem?_eq_getElem (by omega)]; rfl
      have fp : (zs.drop j)[p]? = some ((zs.drop j)[p]?.getD 0) := by rw [List.getElem?_eq_getElem (by omega)]; rfl
      have B0 : Big ((zs.drop j)[0]?.getD 0) := HBj.out _ (List.mem_of_getElem? f0)
      have Bp : Big ((zs.drop j)[p]?.getD 0) := HBj.out _ (List.mem_of_getElem? fp)
      have RS : ¬ 1 < runN (zs.drop j) → runL (zs.drop j) = Lib.itoa ((zs.drop j)[0]?.getD 0) := runL_short
      have RL : 1 < runN (zs.drop j) → runL (zs.drop j) = Lib.itoa ((zs.drop j)[0]?.getD 0) ++ ([45] ++ Lib.itoa ((zs.drop j)[p]?.getD 0)) := fun h => by
        rw [runL_long h, hp]; rfl
      have HC : ∀ W : World, Below w.heap.size w W → W.cell? ⟨b0, off + j, none⟩ = some (.int .i64 ((zs.drop j)[0]?.getD 0)) := fun W h => ((HW.out.below h hbl).drop j) 0 _ f0
      have HP : ∀ W : World, Below w.heap.size w W → W.cell? ⟨b0, off + j + p, none⟩ = some (.int .i64 ((zs.drop j)[p]?.getD 0)) := fun W h => ((HW.out.below h hbl).drop j) p _ fp
      have HC' := Lib.hid HC
      have HP' := Lib.hid HP
      clear HC HP f0 fp
      rw [hp] at RS RL
      have S' : acc ++ toCome acc (zs.drop j) = (comma acc ++ runL (zs.drop j)) ++ toCome (comma acc ++ runL (zs.drop j)) (zs.drop (j + (p + 1))) := by rw [← hp]; exact S.out
      have HS := Lib.hid S'
      have HR := Lib.hid hp
      have RS' := Lib.hid RS
      have RL' := Lib.hid RL
      have HRS := Lib.hid hrs
      clear S S' hp hle RS RL hrs
      generalize (zs.drop j)[0]?.getD 0 = x at *
      generalize (zs.drop j)[p]?.getD 0 = y at *
      obtain ⟨Av, cv, rfl⟩ := hrow.form
      by_cases hacc : acc = []
      case' pos =>
        have K := Lib.hid (show comma acc = [] by unfold comma; rw [if_pos hacc])
        subst hacc
        go_wp2_with (go_at_call 76; refine (run76b b0 (off + j) c _ (zs.drop j) p HR.out HRS.out.symm (by rw [HRS.out]; exact hjc) hcm HBj _ HWj).mono ?_; rintro e W1 ⟨rfl, hba⟩; have hb1 := hB.trans (hba.mono hB.size); have hr1 : Row w.heap.size W1 _ [] := hrow.below hba; have hl1 : ([] : List UInt8).length ≤ 60 * j + 1 := (by simp); have c1 := HC'.out _ hb1; clear hba)
      case' neg =>
        have K := Lib.hid (show comma acc = acc ++ [44] by unfold comma; rw [if_neg hacc])
        have hpos : 0 < acc.length := List.length_pos_iff.2 hacc
        clear hacc
        go_wp2_with (first
          | (go_at_call 76; refine (run76b b0 (off + j) c _ (zs.drop j) p HR.out HRS.out.symm (by rw [HRS.out]; exact hjc) hcm HBj _ HWj).mono ?_; rintro e Wa ⟨rfl, hba⟩; have hBa := hB.trans (hba.mono hB.size); have hra := hrow.below hba)
          | (at_builtin; refine push_new hra hBa [44] rfl (.tmp 13) (.tmp 14) rfl rfl rfl rfl (Nat.le_refl _) (by simp; omega) ?_; intro v1 W1 hr1 hb1; have hl1 : (acc ++ [44]).length ≤ 60 * j + 1 := (by simp; omega); have c1 := HC'.out _ hb1; clear hba hBa hra))
      all_goals
        refine (dig17b x B0 _ (Lib.hid (HL.out.self hb1))).mono ?_
        rintro e W2 ⟨rfl, hb2⟩
        have hB2 := hb1.trans (hb2.mono hb1.size)
        have hr2 := hr1.below hb2
        have lx := itoa_big B0
        clear hb2 hr1 c1
        by_cases hp1 : 0 < p
        case' neg =>
          have R := Lib.hid (RS'.out (by omega))
          have q1 : decide (0 < p) = false := decide_eq_false hp1
          go_wp2_with (at_builtin; refine push_text hr2 hB2 (Lib.itoa x) rfl (.tmp 16) (.tmp 20) rfl rfl rfl (Nat.le_refl _) (by simp at hl1 ⊢; omega) ?_; intro v3 W3 hr3 hb3; clear hr2 hB2)
        case' pos =>
          have R := Lib.hid (RL'.out (by omega))
          have ly := itoa_big Bp
          have q1 : decide (0 < p) = true := decide_eq_true hp1
          go_wp2_with (first
            | (at_builtin; refine push_text hr2 hB2 (Lib.itoa x) rfl (.tmp 16) (.tmp 20) rfl rfl rfl (Nat.le_refl _) (by simp at hl1 ⊢; omega) ?_; intro v4 W4 hr4 hb4; clear hr2 hB2)
            | (at_builtin; refine push_new hr4 hb4 [45] rfl (.tmp 24) (.tmp 25) rfl rfl rfl rfl (Nat.le_refl _) (by simp at hl1 ⊢; omega) ?_; intro v5 W5 hr5 hb5; have c5 := HP'.out _ hb5; clear hr4 hb4)
            | (go_at_call 17; refine (dig17b y Bp _ (Lib.hid (HL.out.self hb5))).mono ?_; rintro e W6 ⟨rfl, hb6⟩; have hB6 := hb5.trans (hb6.mono hb5.size); have hr6 := hr5.below hb6; clear hb6 hr5 c5)
            | (at_builtin; refine push_text hr6 hB6 (Lib.itoa y) rfl (.tmp 27) (.tmp 33) rfl rfl rfl (Nat.le_refl _) (by simp at hl1 ⊢; omega) ?_; intro v3 W3 hr3 hb3; clear hr6 hB6))
        all_goals
          refine ⟨⟨j + (p + 1), c - (p + 1), _, _, by omega, by rw [Nat.sub_sub], fun h => ⟨by rw [if_neg (by omega), Nat.add_assoc], by omega⟩, by omega, hr3, by simp at hl1 ⊢; omega, hb3, ?_⟩, by simp only [slen]; omega⟩
          refine Lib.hid ?_
          rw [H.out, HS.out, K.out, R.out]
          try simp only [List.append_assoc]
    · have E : toCome acc (zs.drop j) = [] := by rw [List.drop_of_length_le (by omega)]; exact toCome_nil _
      have T := Lib.hid (show listedL zs = acc by rw [H.out, E, List.append_nil])
      have hconv := string_of_row hrow
      have q : decide (0 < zs.length - j) = false := decide_eq_false (by omega)
      have q2 : zs.length - j = 0 := by omega
      clear E hA
      go_wp2
      go_ret
      exact ⟨by rw [T.out]; rfl, hB⟩
end YtkhggnfhhafkjaaDoor
end Go.Proofs
