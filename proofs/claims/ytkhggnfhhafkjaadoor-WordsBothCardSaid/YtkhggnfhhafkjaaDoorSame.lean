/- Split's contract for every line, and Same. -/
import Derived.Test.YtkhggnfhhafkjaaDoorSplit
import Derived.Laws.StructEq
import Derived.BigQuiet
import Derived.ChangeKeysEq
import Derived.Deep.QuietTactic
namespace Go.Proofs
namespace YtkhggnfhhafkjaaDoor
open Go.RowKit

/-- v is a slice whose cells are the fields fs -/
def FAt (W : World) (v : Value) (fs : List Fld) : Prop := ∃ A cap, v = .slice A fs.length cap ∧ (0 < fs.length → ∃ b off, A = some ⟨b, off, none⟩ ∧ ∀ j u, (fc fs)[j]? = some u → W.cell? ⟨b, off + j, none⟩ = some u)
theorem FAt.of_own {W : World} {base : Nat} {v : Value} {fs : List Fld} (h : W.ownsRow base 50 2 v fs.length (fc fs)) : FAt W v fs := by
  rcases h.2 with ⟨rfl, h0⟩ | ⟨gg, cap, cur, rfl, _⟩
  · exact ⟨none, 0, by rw [h0], fun h => by omega⟩
  · refine ⟨_, cap, rfl, fun _ => ⟨gg, 0, rfl, fun j u hu => ?_⟩⟩
    have := h.cells (g := gg) rfl j u hu
    rw [Nat.zero_add]
    have e : (⟨gg, 0, none⟩ : Addr).add j = ⟨gg, j, none⟩ := by unfold Addr.add; split <;> simp_all
    rwa [e] at this
theorem FAt.keep {W W' : World} {v : Value} {fs : List Fld} (h : FAt W v fs) (hb : ∀ p u, W.cell? p = some u → W'.cell? p = some u) : FAt W' v fs := by
  obtain ⟨A, cap, rfl, h⟩ := h
  exact ⟨A, cap, rfl, fun h0 => let ⟨b, off, hA, hc⟩ := h h0; ⟨b, off, hA, fun j u hu => hb _ _ (hc j u hu)⟩⟩
theorem cell_lt {W : World} {p : Addr} {u : Value} (h : W.cell? p = some u) : p.block < W.heap.size := by
  rcases Nat.lt_or_ge p.block W.heap.size with hl | hl
  · exact hl
  · simp [World.cell?, Array.getElem?_eq_none hl] at h
theorem FAt.below {W W' : World} {v : Value} {fs : List Fld} (h : FAt W v fs) (hb : Below W.heap.size W W') : FAt W' v fs := h.keep fun _ _ hc => (hb.cell (cell_lt hc)).trans hc

theorem fc_get (fs : List Fld) (k : Nat) (hk : k < fs.length) : (fc fs)[k * 2]? = some (.string ⟨fs[k].1.toArray⟩) ∧ (fc fs)[k * 2 + 1]? = some (.bool fs[k].2) := by
  have h : fs = fs.take k ++ fs[k] :: fs.drop (k + 1) := by rw [← List.drop_eq_getElem_cons hk, List.take_append_drop]
  have e : fc fs = fc (fs.take k) ++ (.string ⟨fs[k].1.toArray⟩ :: .bool fs[k].2 :: fc (fs.drop (k + 1))) := by
    conv => lhs; rw [h]
    simp only [fc, List.flatMap_append, List.flatMap_cons]; rfl
  have hl : (fc (fs.take k)).length = k * 2 := by rw [fc_length, List.length_take]; omega
  rw [e]
  constructor
  · rw [List.getElem?_append_right (by omega), hl]; simp
  · rw [List.getElem?_append_right (by omega), hl]; simp

theorem neq50 (a b : List UInt8) (p q : Bool) (W : World) : (binOp .neq 50 (.agg #[.string ⟨a.toArray⟩, .bool p]) (.agg #[.string ⟨b.toArray⟩, .bool q])).run Tryd.prog W = .ok (.bool (!(decide ((a, p) = (b, q))))) W := by
  rw [run_neq_struct]
  show (((Op.equalIn (9999+1) 50 _ _).run Tryd.prog W).andThen _) = _
  rw [run_equalIn_agg W 9999 50 _ _ (by kernel_rfl) Tryd.stoodInHeld50]
  have hf : (Tryd.prog.fieldsOf 50).toList = [(Tryd.prog.fieldsOf 50).toList[0]!, (Tryd.prog.fieldsOf 50).toList[1]!] := by kernel_rfl
  rw [hf]
  have n0 : ((Tryd.prog.fieldsOf 50).toList[0]!).name = "S" := by kernel_rfl
  have n1 : ((Tryd.prog.fieldsOf 50).toList[1]!).name = "Quoted" := by kernel_rfl
  have t0 : ((Tryd.prog.fieldsOf 50).toList[0]!).type = 9 := by kernel_rfl
  have t1 : ((Tryd.prog.fieldsOf 50).toList[1]!).type = 4 := by kernel_rfl
  have o0 : ((Tryd.prog.fieldsOf 50).toList[0]!).offset = 0 := by kernel_rfl
  have o1 : ((Tryd.prog.fieldsOf 50).toList[1]!).offset = 1 := by kernel_rfl
  have P9 : Tryd.prog.plainKey 9 = true := by kernel_rfl
  have P4 : Tryd.prog.plainKey 4 = true := by kernel_rfl
  have e1 : ∀ (x : List UInt8) (y : Bool), (part 9 #[.string ⟨x.toArray⟩, .bool y] 0).run Tryd.prog W = .ok (.string ⟨x.toArray⟩) W := fun x y => run_part_plain W P9 rfl
  have e2 : ∀ (x : List UInt8) (y : Bool), (part 4 #[.string ⟨x.toArray⟩, .bool y] 1).run Tryd.prog W = .ok (.bool y) W := fun x y => run_part_plain W P4 rfl
  have e3 : (Op.equalIn 9999 9 (.string ⟨a.toArray⟩) (.string ⟨b.toArray⟩)).run Tryd.prog W = .ok ((⟨a.toArray⟩ : ByteArray).toList == (⟨b.toArray⟩ : ByteArray).toList) W := run_equalIn_string W 9998 9 _ _ (by kernel_rfl)
  have e4 : (Op.equalIn 9999 4 (.bool p) (.bool q)).run Tryd.prog W = .ok (p == q) W := run_equalIn_bool' W 9998 4 _ _ (by kernel_rfl)
  have m1 : ("S" ≠ "_") = True := by decide
  have m2 : ("Quoted" ≠ "_") = True := by decide
  simp only [Op.eqFields, n0, n1, t0, t1, o0, o1, m1, m2, if_true, Sem.run_bind, e1, e2, e3, e4, Result.andThen_ok, Sem.run_ite, ByteArray.toList_eq]
  by_cases hab : a = b
  · subst hab
    cases p <;> cases q <;> simp [Sem.run_pure]
  · have : (a == b) = false := by simp [hab]
    simp [this, hab, Sem.run_pure]

theorem split23 (s : ByteArray) (w : World) (hE : EscLaid w) :
    Calls Tryd.prog 23 #[.string s] w fun e w' => ∃ v, e = .returned (.tuple #[v, .int .i64 (splitF s.data.toList).2]) ∧ FAt w' v (splitF s.data.toList).1 ∧ Below w.heap.size w w' := by
  by_cases hs : s.size ≤ 8192
  · refine (callsIn_wide.1 (split_in s w hs hE)).mono fun e w' h => ?_
    obtain ⟨v, h1, h2, h3⟩ := h
    exact ⟨v, h1, FAt.of_own h2, h3⟩
  · have T : splitF s.data.toList = ([], 3) := by unfold splitF; rw [if_pos (by simp; omega)]
    rw [T]
    exact (split_long s w (by omega)).mono fun e w' h => ⟨_, h.1, ⟨none, 0, rfl, fun h => by simp at h⟩, h.2⟩

set_option maxRecDepth 100000 in
set_option maxHeartbeats 1000000 in
theorem same25_loop (A1 : Option Addr) (c1 : Nat) (A2 : Option Addr) (c2 : Nat) (fs hs : List Fld) (hlen : fs.length = hs.length) (hmax : fs.length ≤ 1000000) (w : World)
    (h1 : 0 < fs.length → ∃ b off, A1 = some ⟨b, off, none⟩ ∧ ∀ j u, (fc fs)[j]? = some u → w.cell? ⟨b, off + j, none⟩ = some u)
    (h2 : 0 < hs.length → ∃ b off, A2 = some ⟨b, off, none⟩ ∧ ∀ j u, (fc hs)[j]? = some u → w.cell? ⟨b, off + j, none⟩ = some u) :
    Calls Tryd.prog 25 #[.slice A1 fs.length c1, .slice A2 hs.length c2] w fun e w' => e = .returned (.bool (decide (fs = hs))) ∧ Below w.heap.size w w' := by
  have HA1 := Lib.hid h1
  have HA2 := Lib.hid h2
  clear h1 h2
  have HL := Lib.hid hlen
  have q0 : ((fs.length : Int) != (hs.length : Int)) = false := by simp; omega
  rw [← hlen]
  clear hlen
  have HQ := Lib.hid q0
  clear q0
  have hN := neq50
  go_enter Tryd.func25, Tryd.ntmps25
  go_wp2
  go_goals
  go_loopw [5] (fun i wr => ∃ k q : Nat, k ≤ fs.length ∧ i = .int .i64 k ∧ Hid (wr = w.drewN q) ∧ Hid (fs.take k = hs.take k)) (fun i _ => fs.length - (intOf i).toNat)
  case atStart => exact ⟨0, 0, by omega, rfl, Lib.hid rfl, Lib.hid rfl⟩
  case round =>
    obtain ⟨k, q, hk, rfl, hq, H⟩ := hrel
    by_cases hlt : k < fs.length
    · obtain ⟨b1, o1, rfl, h1⟩ := HA1.out (by omega)
      obtain ⟨b2, o2, rfl, h2⟩ := HA2.out (by have := HL.out; omega)
      have H1 := Lib.hid h1
      have H2 := Lib.hid h2
      clear h1 h2
      obtain ⟨e1, e2⟩ := fc_get fs k hlt
      obtain ⟨e3, e4⟩ := fc_get hs k (by rw [← HL.out]; exact hlt)
      have d1 : wr.cell? ⟨b1, o1 + k * 2, none⟩ = some (.string ⟨fs[k].1.toArray⟩) := by rw [hq.out]; exact H1.out _ _ e1
      have d2 : wr.cell? ⟨b1, o1 + k * 2 + 1, none⟩ = some (.bool fs[k].2) := by rw [hq.out, Nat.add_assoc]; exact H1.out _ _ e2
      have d3 : wr.cell? ⟨b2, o2 + k * 2, none⟩ = some (.string ⟨(hs[k]'(by rw [← HL.out]; exact hlt)).1.toArray⟩) := by rw [hq.out]; exact H2.out _ _ e3
      have d4 : wr.cell? ⟨b2, o2 + k * 2 + 1, none⟩ = some (.bool (hs[k]'(by rw [← HL.out]; exact hlt)).2) := by rw [hq.out, Nat.add_assoc]; exact H2.out _ _ e4
      clear e1 e2 e3 e4
      have hlt' : (k : Int) < (fs.length : Int) := by omega
      have hk' : k < hs.length := by rw [← HL.out]; exact hlt
      by_cases hg : fs[k] = hs[k]
      · have qn : (!decide (fs[k].fst = hs[k].fst) || !decide (fs[k].snd = hs[k].snd)) = false := by simp [hg]
        have Hn : Hid (fs.take (k + 1) = hs.take (k + 1)) := Lib.hid (by rw [List.take_add_one, List.take_add_one, H.out, List.getElem?_eq_getElem hlt, List.getElem?_eq_getElem hk', hg])
        have QN := Lib.hid qn
        clear qn hg
        go_wp2_with fail
        go_quiet (fail)
        rw [QN.out]
        go_ways
        go_wp2
        refine ⟨⟨k + 1, q + nq, by omega, by simp, Lib.hid (by rw [hq.out]; exact World.drewN_drewN ..), Hn⟩, ?_⟩
        show fs.length - ((k : Int) + 1).toNat < fs.length - ((k : Int)).toNat
        omega
      · have qn : (!decide (fs[k].fst = hs[k].fst) || !decide (fs[k].snd = hs[k].snd)) = true := by
          rcases Decidable.em (fs[k].1 = hs[k].1) with h1 | h1
          · rcases Decidable.em (fs[k].2 = hs[k].2) with h2 | h2
            · exact absurd (Prod.ext h1 h2) hg
            · simp [h2]
          · simp [h1]
        have QN := Lib.hid qn
        have HF : Hid (decide (fs = hs) = false) := Lib.hid (by simp; intro h; subst h; exact hg rfl)
        clear qn hg
        go_wp2_with fail
        go_quiet (fail)
        rw [QN.out]
        go_ways
        go_wp2
        refine bodyPost_ret (v := .bool false) (by simp [results, Tryd.f25, go_sem]) rfl ⟨by rw [HF.out], ?_⟩
        rw [hq.out]
        exact below_drewN (below_drewN (Below.refl _ _) _) _
    · have HE : Hid (fs = hs) := Lib.hid (by have := H.out; rwa [List.take_of_length_le (by omega), List.take_of_length_le (by have := HL.out; omega)] at this)
      have ek : k = fs.length := by omega
      subst ek
      go_wp2
      refine bodyPost_ret (v := .bool true) (by simp [results, Tryd.f25, go_sem]) rfl ⟨by rw [HE.out]; simp, ?_⟩
      rw [hq.out]
      exact below_drewN (Below.refl _ _) _

theorem same25_off (A1 : Option Addr) (n1 c1 : Nat) (A2 : Option Addr) (n2 c2 : Nat) (h : n1 ≠ n2) (w : World) :
    Calls Tryd.prog 25 #[.slice A1 n1 c1, .slice A2 n2 c2] w fun e w' => e = .returned (.bool false) ∧ Below w.heap.size w w' := by
  have q0 : ((n1 : Int) != (n2 : Int)) = true := by simp; omega
  go_enter Tryd.func25, Tryd.ntmps25
  go_wp2
  go_goals
  refine bodyPost_ret (v := .bool false) (by simp [results, Tryd.f25, go_sem]) rfl ⟨rfl, Below.refl _ _⟩

/-- Same on two lists of fields -/
theorem same25 (v1 v2 : Value) (fs hs : List Fld) (hmax : fs.length ≤ 1000000) (w : World) (h1 : FAt w v1 fs) (h2 : FAt w v2 hs) :
    Calls Tryd.prog 25 #[v1, v2] w fun e w' => e = .returned (.bool (decide (fs = hs))) ∧ Below w.heap.size w w' := by
  obtain ⟨A1, c1, rfl, h1⟩ := h1
  obtain ⟨A2, c2, rfl, h2⟩ := h2
  by_cases hl : fs.length = hs.length
  · exact same25_loop A1 c1 A2 c2 fs hs hl hmax w h1 h2
  · have hd : decide (fs = hs) = false := by simp; intro e; exact hl (by rw [e])
    rw [hd]
    exact same25_off A1 _ c1 A2 _ c2 hl w
end YtkhggnfhhafkjaaDoor
end Go.Proofs
