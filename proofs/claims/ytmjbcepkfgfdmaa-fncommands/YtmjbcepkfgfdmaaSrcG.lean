/- A command and an entry of a code. -/
import Derived.Test.YtmjbcepkfgfdmaaSrcE
namespace Go.Proofs.Ytmjbcepkfgfdmaa
open Go.ChangeShapes Go.WideShapes Go.ChangeAt Go.RowKit
set_option linter.unusedVariables false
set_option linter.unusedSimpArgs false

set_option maxRecDepth 100000 in
set_option maxHeartbeats 4000000 in
theorem commandOf_any (HC : CmdDrawn) (a : Option Addr) (cap : Nat) (l : List Int) (w : World) (h : Bytes w (.slice a l.length cap) l) (hl : l.length ≤ 2097152) :
    Calls Try.prog 6 #[.slice a l.length cap] w fun e w' => ∃ (k s q : Int) (key val : ByteArray), e = .returned (.agg #[.int .i64 k, .int .i64 s, .int .i64 q, .string key, .string val]) ∧ cmdOK k s q key val = true ∧ Below w.heap.size w w' := by
  have HB := hide (h.below ((Below.refl w.heap.size w).alloc (Nat.le_refl _) (.cells #[.int .i64 0, .int .i64 0, .int .i64 0, .string ⟨#[]⟩, .string ⟨#[]⟩] 24)))
  have B0 := hide ((Below.refl w.heap.size w).alloc (Nat.le_refl _) (.cells #[.int .i64 0, .int .i64 0, .int .i64 0, .string ⟨#[]⟩, .string ⟨#[]⟩] 24))
  have R0 := hide (Blk.new w #[.int .i64 0, .int .i64 0, .int .i64 0, .string ⟨#[]⟩, .string ⟨#[]⟩] 24 w.heap.size rfl)
  have hz : w.heap.size < (w.alloc (.cells #[.int .i64 0, .int .i64 0, .int .i64 0, .string ⟨#[]⟩, .string ⟨#[]⟩] 24)).heap.size := by simp
  clear h
  go_enter Try.func6, Try.ntmps6
  go_wp2_with fail
  generalize w.alloc (.cells #[.int .i64 0, .int .i64 0, .int .i64 0, .string ⟨#[]⟩, .string ⟨#[]⟩] 24) = w0 at *
  refine (l00Source_any a cap l w0 (unhide HB) hl).mono ?_
  rintro e w1 ⟨rfl, hS, hb1⟩
  have S1 := hide hS
  have B1 := hide ((unhide B0).trans (hb1.mono (unhide B0).size))
  have R1 := hide ((unhide R0).below hb1)
  clear hS hb1 B0 R0
  generalize w0.heap.size = b at *
  go_wp2_with fail
  refine (HC w1 b a cap l 0 (unhide S1) (by omega)).mono ?_
  rintro e w2 ⟨k, s, q, key, val, rfl, hok, hsz, hS2, hTT⟩
  have B2 := hide ((unhide B1).trans (hTT.below (unhide B1).size (fun k hk e => by omega)))
  have R2 := hide ((unhide R1).kept hTT (by omega))
  have HK := hide hok
  clear hTT B1 R1 hok
  have r0 := (unhide R2).cell 0 rfl
  have f0 := (unhide R2).fro 0
  have r1 := (unhide R2).cell 1 rfl
  have f1 := (unhide R2).fro 1
  have r2 := (unhide R2).cell 2 rfl
  have f2 := (unhide R2).fro 2
  have r3 := (unhide R2).cell 3 rfl
  have f3 := (unhide R2).fro 3
  have r4 := (unhide R2).cell 4 rfl
  have f4 := (unhide R2).fro 4
  go_wp2_with fail
  have Z0 := hide ((((((unhide R2).set 0 (.int .i64 k) (by simp)).set 1 (.int .i64 s) (by simp)).set 2 (.int .i64 q) (by simp)).set 3 (.string key) (by simp)).set 4 (.string val) (by simp))
  have B3 := hide (Below.setCell (Below.setCell (Below.setCell (Below.setCell (Below.setCell (unhide B2) (p := ⟨w.heap.size, 0, none⟩) (Nat.le_refl _) (.int .i64 k)) (p := ⟨w.heap.size, 1, none⟩) (Nat.le_refl _) (.int .i64 s)) (p := ⟨w.heap.size, 2, none⟩) (Nat.le_refl _) (.int .i64 q)) (p := ⟨w.heap.size, 3, none⟩) (Nat.le_refl _) (.string key)) (p := ⟨w.heap.size, 4, none⟩) (Nat.le_refl _) (.string val))
  clear r0 f0 r1 f1 r2 f2 r3 f3 r4 f4 R2 B2
  generalize (((((w2.setCell ⟨w.heap.size, 0, none⟩ (.int .i64 k)).setCell ⟨w.heap.size, 1, none⟩ (.int .i64 s)).setCell ⟨w.heap.size, 2, none⟩ (.int .i64 q)).setCell ⟨w.heap.size, 3, none⟩ (.string key)).setCell ⟨w.heap.size, 4, none⟩ (.string val)) = wz at *
  have k0 := (unhide Z0).cell 0 rfl
  have k1 := (unhide Z0).cell 1 rfl
  have k2 := (unhide Z0).cell 2 rfl
  have k3 := (unhide Z0).cell 3 rfl
  have k4 := (unhide Z0).cell 4 rfl
  refine bodyPost_ret (v := .agg #[.int .i64 k, .int .i64 s, .int .i64 q, .string key, .string val]) (by simp [results, Try.results6, go_sem, k0, k1, k2, k3, k4]) rfl ?_
  exact ⟨_, _, _, _, _, rfl, unhide HK, unhide B3⟩
set_option maxRecDepth 100000 in
set_option maxHeartbeats 4000000 in
theorem entryOf_any (HC : CmdDrawn) (a : Option Addr) (cap : Nat) (l : List Int) (w : World) (h : Bytes w (.slice a l.length cap) l) (hl : l.length ≤ 2097152) :
    Calls Try.prog 10 #[.slice a l.length cap] w fun e w' => ∃ (t k : Int) (d : ByteArray), e = .returned (.agg #[.int .i64 t, .int .i64 k, .string d]) ∧ entOK t k d = true ∧ Below w.heap.size w w' := by
  have HB := hide (h.below ((Below.refl w.heap.size w).alloc (Nat.le_refl _) (.cells #[.int .i64 0, .int .i64 0, .string ⟨#[]⟩] 31)))
  have B0 := hide ((Below.refl w.heap.size w).alloc (Nat.le_refl _) (.cells #[.int .i64 0, .int .i64 0, .string ⟨#[]⟩] 31))
  have R0 := hide (Blk.new w #[.int .i64 0, .int .i64 0, .string ⟨#[]⟩] 31 w.heap.size rfl)
  have hz : w.heap.size < (w.alloc (.cells #[.int .i64 0, .int .i64 0, .string ⟨#[]⟩] 31)).heap.size := by simp
  clear h
  go_enter Try.func10, Try.ntmps10
  go_wp2_with fail
  generalize w.alloc (.cells #[.int .i64 0, .int .i64 0, .string ⟨#[]⟩] 31) = w0 at *
  refine (l00Source_any a cap l w0 (unhide HB) hl).mono ?_
  rintro e w1 ⟨rfl, hS, hb1⟩
  have S1 := hide hS
  have B1 := hide ((unhide B0).trans (hb1.mono (unhide B0).size))
  have R1 := hide ((unhide R0).below hb1)
  clear hS hb1 B0 R0
  generalize w0.heap.size = b at *
  go_wp2_with fail
  refine (srcEntry_any HC w1 b a cap l 0 (unhide S1) (by omega)).mono ?_
  rintro e w2 ⟨t, k, d, rfl, hok, hTT⟩
  have B2 := hide ((unhide B1).trans (hTT.below (unhide B1).size (fun k hk e => by omega)))
  have R2 := hide ((unhide R1).kept hTT (by omega))
  have HK := hide hok
  clear hTT B1 R1 hok
  have r0 := (unhide R2).cell 0 rfl
  have f0 := (unhide R2).fro 0
  have r1 := (unhide R2).cell 1 rfl
  have f1 := (unhide R2).fro 1
  have r2 := (unhide R2).cell 2 rfl
  have f2 := (unhide R2).fro 2
  go_wp2_with fail
  have Z0 := hide ((((unhide R2).set 0 (.int .i64 t) (by simp)).set 1 (.int .i64 k) (by simp)).set 2 (.string d) (by simp))
  have B3 := hide (Below.setCell (Below.setCell (Below.setCell (unhide B2) (p := ⟨w.heap.size, 0, none⟩) (Nat.le_refl _) (.int .i64 t)) (p := ⟨w.heap.size, 1, none⟩) (Nat.le_refl _) (.int .i64 k)) (p := ⟨w.heap.size, 2, none⟩) (Nat.le_refl _) (.string d))
  clear r0 f0 r1 f1 r2 f2 R2 B2
  generalize (((w2.setCell ⟨w.heap.size, 0, none⟩ (.int .i64 t)).setCell ⟨w.heap.size, 1, none⟩ (.int .i64 k)).setCell ⟨w.heap.size, 2, none⟩ (.string d)) = wz at *
  have k0 := (unhide Z0).cell 0 rfl
  have k1 := (unhide Z0).cell 1 rfl
  have k2 := (unhide Z0).cell 2 rfl
  refine bodyPost_ret (v := .agg #[.int .i64 t, .int .i64 k, .string d]) (by simp [results, Try.results10, go_sem, k0, k1, k2]) rfl ?_
  exact ⟨_, _, _, rfl, unhide HK, unhide B3⟩
end Go.Proofs.Ytmjbcepkfgfdmaa
