/- A leaf put behind peaks: spec.AddPeak. -/
import Derived.Test.YthabemlcabmmaaaDoorPkB
namespace Go.Proofs.YthabemlcabmmaaaDoor
open Go.ChangeShapes Go.WideShapes Go.ChangeAt Go.RowKit Sha Go.Deep
set_option linter.unusedVariables false
set_option linter.unusedSimpArgs false

theorem add_long (l : List Pk) (leaf : ByteArray) (h : 65536 < leaf.size ∨ 4096 < l.length) : addOut l leaf = ([], 2) := by
  have e : mxI (pfC l) (hfC leaf) = 2 := by
    unfold mxI pfC hfC
    rcases h with h | h
    · simp only [h, if_true]; repeat' split <;> omega
    · simp only [h, if_true]; repeat' split <;> omega
  unfold addOut
  rw [e]; rfl
theorem add_bad (l : List Pk) (leaf : ByteArray) (h1 : ¬ 65536 < leaf.size) (h2 : ¬ 4096 < l.length) (h : peaksB l = false ∨ leaf.size ≠ 32) : addOut l leaf = ([], 1) := by
  have e : mxI (pfC l) (hfC leaf) = 1 := by
    unfold mxI pfC hfC
    simp only [h1, h2, if_false]
    rcases h with h | h
    · simp only [h]; repeat' split <;> simp_all
    · simp only [h, if_false]; repeat' split <;> simp_all
  unfold addOut
  rw [e]; rfl
theorem add_good (l : List Pk) (leaf : ByteArray) (h2 : ¬ 4096 < l.length) (h : peaksB l = true) (h1 : leaf.size = 32) : addOut l leaf = if sumTo l l.length = 64 then ([], 7) else (mrg l l.length ⟨1, leaf⟩, 0) := by
  have e : mxI (pfC l) (hfC leaf) = 0 := by
    unfold mxI pfC hfC
    simp [h, h1, h2]
  unfold addOut
  rw [e]; rfl
set_option maxRecDepth 100000 in
set_option maxHeartbeats 2000000 in
theorem specAdd_any (l : List Pk) (leaf : ByteArray) (b off cap : Nat) (w : World) (hs : PA w b off cap l) (hz : ∀ i, (l.getD i default).h.size ≤ 1048576) (hlf : leaf.size ≤ 1048576) :
    Calls Tryd.prog 30 #[.slice (some ⟨b, off, none⟩) l.length cap, .string leaf] w fun e w' => ∃ v, e = .returned (.tuple #[v, .int .i64 (addOut l leaf).2]) ∧ OwnP w.heap.size w' v (addOut l leaf).1 ∧ Below w.heap.size w w' := by
  have hle : l.length ≤ 9223372036854775807 := by have := hs.le; have := hs.mx; unfold maxLen at this; omega
  have hcap : l.length ≤ cap := hs.le
  have hcm : cap ≤ 9223372036854775807 := by have := hs.mx; unfold maxLen at this; omega
  have BN := hide (fun (_ : Nat) => ((Below.refl w.heap.size w).alloc (Nat.le_refl _) (.cells #[] 103)))
  have ON := hide (own_noneP w w.heap.size w.heap.size rfl (Nat.le_refl _))
  have s1 : (leaf.size : Int) ≤ 1048576 := by omega
  by_cases h1 : 65536 < leaf.size
  · have HO := hide (add_long l leaf (.inl h1))
    have h1i : (65536 : Int) < (leaf.size : Int) := by omega
    clear hs hz
    go_enter Tryd.func30, Tryd.ntmps30
    go_wp2_with fail
    go_ret2
    exact ⟨_, by rw [unhide HO]; rfl, by rw [unhide HO]; exact unhide ON, unhide BN 0⟩
  have h1i : ¬ (65536 : Int) < (leaf.size : Int) := by omega
  by_cases h2 : 4096 < l.length
  · have HO := hide (add_long l leaf (.inr h2))
    have h2i : (4096 : Int) < (l.length : Int) := by omega
    clear hs hz
    go_enter Tryd.func30, Tryd.ntmps30
    go_wp2_with fail
    go_ret2
    exact ⟨_, by rw [unhide HO]; rfl, by rw [unhide HO]; exact unhide ON, unhide BN 0⟩
  have h2i : ¬ (4096 : Int) < (l.length : Int) := by omega
  have HB := hide (add_bad l leaf h1 h2)
  have HG := hide (add_good l leaf h2)
  have HC := hide (specPeaks_any l b off cap w hs hz)
  have HS := hide hs
  have HL := hide (fun (h : peaksB l = true) (hl : leaf.size = 32) wx (hx : Below w.heap.size w wx) => l06Add_any l leaf b off cap wx (hs.below hx) (by unfold peaksB at h; simp only [Bool.and_eq_true] at h; exact h.1) hl)
  have HOK : Hid (peaksB l = true → okTo l l.length = true) := hide (fun h => by unfold peaksB at h; simp only [Bool.and_eq_true] at h; exact h.1)
  clear hs hz
  generalize peaksB l = al at *
  go_enter Tryd.func30, Tryd.ntmps30
  go_wp2_with fail
  refine (unhide HC).mono ?_
  rintro e w9 ⟨rfl, hw9⟩
  subst w9
  clear HC
  cases al
  · have HO := hide (unhide HB (.inl rfl))
    go_wp2_with fail
    go_ret2
    exact ⟨_, by rw [unhide HO]; rfl, by rw [unhide HO]; exact unhide ON, unhide BN 0⟩
  by_cases h3 : leaf.size = 32
  case neg =>
    have HO := hide (unhide HB (.inr h3))
    have h3i : ¬ (leaf.size : Int) = 32 := by omega
    go_wp2_with fail
    go_ret2
    exact ⟨_, by rw [unhide HO]; rfl, by rw [unhide HO]; exact unhide ON, unhide BN 0⟩
  have HO := hide (unhide HG rfl h3)
  have HLL := hide (unhide HL rfl h3)
  have hok := unhide HOK rfl
  have hll := ok_len hok
  have hsm := fun k (hk : k ≤ l.length) => sum_in l k (ok_down l _ _ hk hok)
  have HSM := hide hsm
  have HOKK := hide hok
  have h3i : (leaf.size : Int) = 32 := by omega
  clear HB HG HL HOK hok hsm
  go_wp2_with fail
  go_loop [6, 7] (fun n i => ∃ k : Nat, k ≤ l.length ∧ n = .int .i64 (sumTo l k) ∧ i = .int .i64 k) (fun _ i => l.length - (intOf i).toNat)
  case atStart => exact ⟨0, Nat.zero_le _, rfl, rfl⟩
  case round =>
    obtain ⟨k, hk, rfl, rfl⟩ := hrel
    by_cases hlt : k < l.length
    · have c0 := ((unhide HS).cell k hlt).1
      have q0 := unhide HSM k hk
      have q1 := unhide HSM (k + 1) hlt
      have hE : Hid (sumTo l (k + 1) = sumTo l k + (l.getD k default).s) := rfl
      rw [unhide hE] at q1
      have k0 : (0 : Int) ≤ (k : Int) := by omega
      have k1 : (k : Int) < (l.length : Int) := by omega
      have k2 : IntKind.i64.wrap (sumTo l k + (l.getD k default).s) = sumTo l k + (l.getD k default).s := wrapMm _ (by omega) (by omega)
      generalize (l.getD k default).s = x at *
      generalize sumTo l k = y at *
      go_wp2_with fail
      refine ⟨⟨k + 1, by omega, by rw [unhide hE], by go_num⟩, ?_⟩
      simp [intOf]; omega
    · obtain rfl : k = l.length := by omega
      have q0 := unhide HSM l.length (Nat.le_refl _)
      generalize sumTo l l.length = sm at *
      by_cases h64 : sm = 64
      · rw [if_pos h64] at HO
        go_wp2_with fail
        go_ret2
        exact ⟨_, by rw [unhide HO]; rfl, by rw [unhide HO]; exact unhide ON, unhide BN 0⟩
      · rw [if_neg h64] at HO
        have HLW := hide (unhide HLL w (Below.refl _ _))
        go_wp2_with fail
        refine (unhide HLW).mono ?_
        rintro e w5 ⟨v, rfl, hO5, hb5⟩
        have R := hide (And.intro hO5 hb5)
        clear hO5 hb5
        go_wp2_with fail
        go_ret2
        exact ⟨v, by rw [unhide HO]; rfl, by rw [unhide HO]; exact (unhide R).1, (unhide R).2⟩
end Go.Proofs.YthabemlcabmmaaaDoor
