/- Drawn hashes: spec.digest, spec.HashOf. -/
import Derived.Test.YtnaoccndghnmpaaDoorLvs
namespace Go.Proofs.YtnaoccndghnmpaaDoor
open Go.ChangeShapes Go.WideShapes Go.ChangeAt Go.RowKit Sha
set_option linter.unusedVariables false
set_option linter.unusedSimpArgs false

theorem two_bytes (w : World) (x y : Int) (h0 : 0 ≤ x) (h1 : x ≤ 255) (h2 : 0 ≤ y) (h3 : y ≤ 255) : Bytes (w.alloc (.cells #[.int .u8 x, .int .u8 y] 5)) (.slice (some ⟨w.heap.size, 0, none⟩) ([x, y] : List Int).length 2) [x, y] := by
  refine ⟨_, _, rfl, by unfold maxLen; simp, .inr ⟨w.heap.size, 0, rfl, by simp, fun i hi => ?_⟩, fun i => ?_⟩
  · rw [World.cell?_alloc_at _ _ _ _ rfl]
    match i, hi with
    | 0, _ => rfl
    | 1, _ => rfl
  · match i with
    | 0 => exact ⟨h0, h1⟩
    | 1 => exact ⟨h2, h3⟩
    | i + 2 => simp
set_option maxRecDepth 100000 in
set_option maxHeartbeats 1000000 in
theorem digest_any (w : World) (b : Nat) (a : Option Addr) (cap : Nat) (l : List Int) (M : Int) (h : Src w b a cap l M) (hM : M ≤ 100000000) :
    Calls Tryd.prog 52 #[.pointer (some ⟨b, 0, none⟩)] w fun e w' => ∃ s : ByteArray, e = .returned (.string s) ∧ s.size = 32 ∧ Below b w w' := by
  have hbl : b < w.heap.size := h.lt
  have H := hide h
  clear h
  go_enter Tryd.func52, Tryd.ntmps52
  go_wp2_with fail
  refine (srcNext_any 256 w b a cap l M (unhide H) (by omega) (by omega) (by omega)).mono ?_
  rintro e w1 ⟨x, rfl, hx0, hx1, hS1, hO1⟩
  have R1 := hide (And.intro hS1 (And.intro (hO1.below (Below.refl b w) (Nat.le_refl _) (Nat.le_of_lt hbl)) hO1.1))
  clear hS1 hO1 H
  go_wp2_with fail
  refine (srcNext_any 4 w1 b a cap l _ (unhide R1).1 (by omega) (by omega) (by omega)).mono ?_
  rintro e w2 ⟨y, rfl, hy0, hy1, hS2, hO2⟩
  have hb1 : b ≤ w1.heap.size := Nat.le_of_lt (unhide R1).1.lt
  have B2 := hide (hO2.below (unhide R1).2.1 (Nat.le_refl _) hb1)
  have hb2 : b ≤ w2.heap.size := Nat.le_of_lt hS2.lt
  have B3 := hide ((unhide B2).alloc hb2 (.cells #[.int .u8 x, .int .u8 y] 5))
  have HH := hide (l01Hash_any _ _ _ _ (two_bytes w2 x y hx0 (by omega) hy0 (by omega)) (by simp))
  have HV := hide (hash_size (l := [x, y]) (by simp))
  have hV := hide (hashV_yes (l := [x, y]) (by simp))
  have hbs : b ≤ (w2.alloc (.cells #[.int .u8 x, .int .u8 y] 5)).heap.size := by simp; omega
  clear hS2 hO2 R1 B2
  go_wp2_with fail
  refine (unhide HH).mono ?_
  rintro e w4 ⟨rfl, hb4⟩
  have B4 := hide ((unhide B3).trans (hb4.mono hbs))
  clear hb4
  rw [← unhide hV]
  go_wp2_with fail
  go_ret
  exact ⟨_, rfl, unhide HV, unhide B4⟩
set_option maxRecDepth 100000 in
theorem hashOf_any (a : Option Addr) (cap : Nat) (l : List Int) (w : World) (h : Bytes w (.slice a l.length cap) l) (hl : l.length ≤ 2097152) :
    Calls Tryd.prog 19 #[.slice a l.length cap] w fun e w' => ∃ s : ByteArray, e = .returned (.string s) ∧ s.size = 32 ∧ Below w.heap.size w w' := by
  have HS := hide (l00Source_any a cap l w h hl)
  clear h
  go_enter Tryd.func19, Tryd.ntmps19
  go_wp2_with fail
  refine (unhide HS).mono ?_
  rintro e w1 ⟨rfl, hS1, hb1⟩
  have HD := hide (digest_any w1 w.heap.size a cap l 0 hS1 (by omega))
  have B1 := hide hb1
  clear hS1 hb1 HS
  go_wp2_with fail
  refine (unhide HD).mono ?_
  rintro e w2 ⟨s, rfl, hs, hb2⟩
  have R := hide (And.intro hs ((unhide B1).trans hb2))
  clear hs hb2
  go_wp2_with fail
  go_ret
  exact ⟨s, rfl, (unhide R).1, (unhide R).2⟩
end Go.Proofs.YtnaoccndghnmpaaDoor
