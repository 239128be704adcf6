/- The law's lines answers true of a text of which words.Lines answers what the plain function names. -/
import Derived.Test.YtkhggnfhhafkjaaDoorRLines
import Derived.Test.YtkhggnfhhafkjaaDoorSplits
import Derived.BigQuiet
namespace Go.Proofs
namespace YtkhggnfhhafkjaaDoor
open Go.RowKit

theorem sc_get (ls : List (List UInt8)) (k : Nat) (h : k < ls.length) : (sc ls)[k]? = some (.string ⟨ls[k].toArray⟩) := by
  unfold sc; rw [List.getElem?_map, List.getElem?_eq_getElem h]; rfl

set_option maxRecDepth 100000 in
set_option maxHeartbeats 1000000 in
theorem lines29_of (s : ByteArray) (w : World)
    (h52 : Calls Tryd.prog 52 #[.string s] w fun e w' => ∃ v, e = .returned (.tuple #[v, .int .i64 (linesF s.data.toList).2]) ∧ SAt w' v (linesF s.data.toList).1 ∧ Below w.heap.size w w') :
    Calls Tryd.prog 29 #[.string s] w fun e w' => e = .returned (.bool true) ∧ Below w.heap.size w w' := by
  have H52 := Lib.hid h52
  have H53 := Lib.hid (fun W => rlines53 s W)
  have hlen : (linesF s.data.toList).1.length ≤ 5000 := by
    unfold linesF
    split
    · simp
    · split
      · simp
      · split
        · split
          · simp
          · simp only; omega
        · simp
  clear h52
  generalize linesF s.data.toList = R at *
  obtain ⟨ls, z⟩ := R
  go_enter Tryd.func29, Tryd.ntmps29
  go_wp2_with (first
    | (go_at_call 52; refine H52.out.mono ?_; rintro e w1 ⟨v1, rfl, ⟨A1, c1, rfl, hc1⟩, hB1⟩; have HC1 := Lib.hid hc1; clear hc1)
    | (go_at_call 53; refine (H53.out _).mono ?_; rintro e w2 ⟨v2, rfl, ⟨A2, c2, rfl, hc2⟩, hB2⟩; have HC2 := Lib.hid hc2; clear hc2; have hB3 := below_end hB1 hB2))
  go_goals
  go_loopw [7] (fun i wr => ∃ k q : Nat, k ≤ ls.length ∧ i = .int .i64 k ∧ Hid (wr = w2.drewN q)) (fun i _ => ls.length - (intOf i).toNat)
  case atStart => exact ⟨0, 0, by omega, rfl, Lib.hid rfl⟩
  case round =>
    obtain ⟨k, q, hk, rfl, hq⟩ := hrel
    by_cases hlt : k < ls.length
    · obtain ⟨b1, o1, rfl, h1⟩ := HC1.out (by omega)
      obtain ⟨b2, o2, rfl, h2⟩ := HC2.out (by omega)
      have g1 := h1 k _ (sc_get ls k hlt)
      have g2 := h2 k _ (sc_get ls k hlt)
      have d1 : wr.cell? ⟨b1, o1 + k, none⟩ = some (.string ⟨ls[k].toArray⟩) := by rw [hq.out]; exact (hB2.cell (cell_lt g1)).trans g1
      have d2 : wr.cell? ⟨b2, o2 + k, none⟩ = some (.string ⟨ls[k].toArray⟩) := by rw [hq.out]; exact g2
      have hlt' : (k : Int) < (ls.length : Int) := by omega
      clear h1 h2 g1 g2
      go_wp2_with fail
      go_quiet (fail)
      go_ways
      go_wp2
      refine ⟨⟨k + 1, q + nq, by omega, by simp, Lib.hid (by rw [hq.out]; exact World.drewN_drewN ..)⟩, ?_⟩
      show ls.length - ((k : Int) + 1).toNat < ls.length - ((k : Int)).toNat
      omega
    · go_wp2
      refine bodyPost_ret (v := .bool true) (by simp [results, Tryd.f29, go_sem]) rfl ⟨rfl, ?_⟩
      rw [hq.out]
      exact below_drewN hB3 _
end YtkhggnfhhafkjaaDoor
end Go.Proofs
