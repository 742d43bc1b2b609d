/- What the laws do with a map's proof: eqMapProof, markMapProof, heldMapProof. -/
import Derived.Test.YtdkljgkpogcjeaaDoorMsM
import Derived.Test.YtdkljgkpogcjeaaDoorBlk
namespace Go.Proofs.YtdkljgkpogcjeaaDoor
open Go.ChangeShapes Go.WideShapes Go.ChangeAt Go.RowKit
set_option linter.unusedVariables false
set_option linter.unusedSimpArgs false

theorem Pks.shape {w : World} {v : Value} {l : List Pk} (h : Pks w v l) : ∃ a cap, v = .slice a l.length cap := by
  obtain ⟨a, cap, e, _⟩ := h
  exact ⟨a, cap, e⟩
set_option maxRecDepth 100000 in
set_option maxHeartbeats 1000000 in
theorem eqMapProof_any (f : Bool) (k v : ByteArray) (u1 u2 : Value) (l : List Pk) (w : World) (h1 : Pks w u1 l) (h2 : Pks w u2 l) (hl : l.length ≤ 1048576) :
    Calls Tryd.prog 36 #[.agg #[.bool f, .string k, .string v, u1], .agg #[.bool f, .string k, .string v, u2]] w fun e w' => e = .returned (.bool true) ∧ Below w.heap.size w w' := by
  obtain ⟨a1, c1, rfl⟩ := h1.shape
  obtain ⟨a2, c2, rfl⟩ := h2.shape
  have B1 := hide (((Below.refl w.heap.size w).alloc (Nat.le_refl _) (.cells #[.bool f, .string k, .string v, .slice a1 l.length c1] 51)).alloc (by simp) (.cells #[.bool f, .string k, .string v, .slice a2 l.length c2] 51))
  have HE := hide (eqMapStepS_any _ _ l _ (h1.below (unhide B1)) (h2.below (unhide B1)) hl)
  clear h1 h2
  go_enter Tryd.func36, Tryd.ntmps36
  go_wp2_with fail
  refine (unhide HE).mono ?_
  rintro e w2 ⟨rfl, hb2⟩
  have B2 := hide ((unhide B1).trans (hb2.mono (unhide B1).size))
  clear hb2 HE
  go_wp2_with fail
  go_ret
  exact ⟨rfl, unhide B2⟩
set_option maxRecDepth 100000 in
set_option maxHeartbeats 1000000 in
theorem markMapProof_any (f : Bool) (k v : ByteArray) (u : Value) (B : Nat) (l : List Pk) (w : World) (h : OwnP B w u l) (hl : l.length ≤ 1048576) :
    Calls Tryd.prog 37 #[.agg #[.bool f, .string k, .string v, u], .int .i64 1] w fun e w' => e = .returned (.int .i64 (1 + 2 * (l.length : Int))) ∧ OwnP B w' u (mkPks 1 l.length) ∧ Touch (fun x => u.ownBlock = some x) w w' := by
  obtain ⟨a1, c1, rfl⟩ := h.pks.shape
  have T1 := hide ((Touch.refl (fun x => (Value.slice a1 l.length c1).ownBlock = some x) w).alloc (.cells #[.bool f, .string k, .string v, .slice a1 l.length c1] 51))
  have HE := hide (markMapStepS_any 1 (by omega) (by omega) B _ l _ (h.below ((Below.refl w.heap.size w).alloc (Nat.le_refl _) (.cells #[.bool f, .string k, .string v, .slice a1 l.length c1] 51))) hl)
  clear h
  go_enter Tryd.func37, Tryd.ntmps37
  go_wp2_with fail
  refine (unhide HE).mono ?_
  rintro e w2 ⟨rfl, hO2, hT2⟩
  have R := hide (And.intro hO2 ((unhide T1).trans hT2 (fun _ _ h => h)))
  clear hO2 hT2 HE
  go_wp2_with fail
  go_ret
  exact ⟨rfl, (unhide R).1, (unhide R).2⟩
set_option maxRecDepth 100000 in
set_option maxHeartbeats 1000000 in
theorem heldMapProof_any (f : Bool) (k v : ByteArray) (u : Value) (B : Nat) (n : Nat) (w : World) (h : OwnP B w u (mkPks 1 n)) (hl : n ≤ 1048576) :
    Calls Tryd.prog 38 #[.agg #[.bool f, .string k, .string v, u], .int .i64 1] w fun e w' => e = .returned (.int .i64 (1 + 2 * (n : Int))) ∧ Below w.heap.size w w' := by
  obtain ⟨a1, c1, rfl⟩ := h.pks.shape
  have B1 := hide ((Below.refl w.heap.size w).alloc (Nat.le_refl _) (.cells #[.bool f, .string k, .string v, .slice a1 (mkPks 1 n).length c1] 51))
  have HE := hide (heldMapStepS_any 1 (by omega) (by omega) B _ n _ (h.below (unhide B1)) hl)
  clear h
  rw [mkPks_len] at *
  go_enter Tryd.func38, Tryd.ntmps38
  go_wp2_with fail
  refine (unhide HE).mono ?_
  rintro e w2 ⟨rfl, hb2⟩
  have B2 := hide ((unhide B1).trans (hb2.mono (unhide B1).size))
  clear hb2 HE
  have hn : ¬ (1 + 2 * (n : Int)) < 0 := by omega
  go_wp2_with fail
  go_ret
  exact ⟨rfl, unhide B2⟩
end Go.Proofs.YtdkljgkpogcjeaaDoor
