/- A console's line: a word's number. -/
import Derived.Test.YtihhbngpajephaaDoorCnW
import Derived.Lib.AtoiErrMem
import Derived.Lib.SmallJoins
import Derived.Test.YtihhbngpajephaaDoorIn
import Derived.Test.YtihhbngpajephaaDoorTk
import Derived.Deep.RegionHeld3
namespace Go.Proofs.YtihhbngpajephaaDoor.Sha
open Go.ChangeShapes Go.WideShapes Go.ChangeAt Go.RowKit
set_option linter.unusedVariables false
set_option linter.unusedSimpArgs false

def isEv (v : Value) : Prop := v = .nilIface ∨ ∃ te pe, v = .iface te pe
/-- What is asked of the world: the library's variables. -/
structure Cns (w : World) : Prop where
  syn : ∃ ev, w.cell? ⟨0, 0, none⟩ = some ev ∧ isEv ev
  rng : ∃ ev, w.cell? ⟨1, 0, none⟩ = some ev ∧ isEv ev
  tab : Lib.TabIs Tryd.prog w "internal/strconv.uint64pow10" .u64 Lib.pow10Tab
theorem Cns.below {w w' : World} (h : Cns w) (hb : Below w.heap.size w w') : Cns w' := by
  obtain ⟨⟨a, ha, ha2⟩, ⟨b, hb1, hb2⟩, ht⟩ := h
  exact ⟨⟨a, (hb.cell (p := ⟨0, 0, none⟩) (World.block_lt_of_cell? _ _ ha)).trans ha, ha2⟩, ⟨b, (hb.cell (p := ⟨1, 0, none⟩) (World.block_lt_of_cell? _ _ hb1)).trans hb1, hb2⟩,
    Go.Joins.var_stays (g := 2) (by kernel_rfl) ht hb (Nat.le_refl _)⟩
set_option maxHeartbeats 1000000 in
theorem atoiC_any (s : ByteArray) (w : World) (hs : s.size ≤ 1048576) (h : Cns w) :
    Calls Tryd.prog 45 #[.string s] w fun e w' => (∃ v, e = .returned (.tuple #[.int .i64 (atoiN s.data.toList), v])) ∧ Below w.heap.size w w' := by
  obtain ⟨⟨a, ha, ha2⟩, ⟨b, hb1, hb2⟩, _⟩ := h
  cases hE : Lib.atoiAll s.data.toList with
  | ok v =>
    have e : atoiN s.data.toList = v := by unfold atoiN; rw [hE]
    refine (Tryd.strconv_Atoi_ok s (by omega) v hE w).mono ?_
    rintro e w' ⟨rfl, hw⟩
    refine ⟨⟨_, by rw [e]⟩, ?_⟩
    rcases hw with rfl | ⟨t, rfl⟩
    · exact Below.refl _ _
    · exact Lib.bytesWorld_below w 5 t
  | «syntax» =>
    have e : atoiN s.data.toList = 0 := by unfold atoiN; rw [hE]
    refine (Tryd.strconv_Atoi_syntax s (by omega) hE a w ha ha2).mono ?_
    rintro e w' ⟨N, rfl, _, _, hb⟩
    exact ⟨⟨_, by rw [e]⟩, hb⟩
  | range =>
    have e : atoiN s.data.toList = Lib.atoiSat s.data.toList := by unfold atoiN; rw [hE]
    refine (Tryd.strconv_Atoi_range s (by omega) hE b w hb1 hb2).mono ?_
    rintro e w' ⟨N, rfl, _, _, hb⟩
    exact ⟨⟨_, by rw [e]⟩, hb⟩
theorem sat_in (l : List UInt8) : -9223372036854775808 ≤ Lib.atoiSat l ∧ Lib.atoiSat l ≤ 9223372036854775807 := by
  unfold Lib.atoiSat; split <;> exact ⟨by decide, by decide⟩
theorem atoiN_in (l : List UInt8) : -9223372036854775808 ≤ atoiN l ∧ atoiN l ≤ 9223372036854775807 := by
  unfold atoiN
  split
  · rename_i v h
    unfold Lib.atoiAll at h
    split at h
    · cases h
    · rename_i c r
      simp only at h
      split at h
      · cases h
      · cases h
      · rename_i u hu
        split at h
        · cases h
        · rename_i h1
          split at h
          · cases h
          · rename_i h2
            injection h with h
            subst h
            by_cases hc : c.toNat = 45
            · rw [if_pos hc]
              have : ¬ (9223372036854775808 < u) := fun h3 => h2 ⟨hc, h3⟩
              omega
            · rw [if_neg hc]
              have : ¬ (9223372036854775808 ≤ u) := fun h3 => h1 ⟨hc, h3⟩
              omega
  · exact ⟨by decide, by decide⟩
  · exact sat_in l
theorem itoaC_any (n : Int) (h0 : -9223372036854775808 ≤ n) (h1 : n ≤ 9223372036854775807) (w : World) (h : Cns w) :
    Calls Tryd.prog 46 #[.int .i64 n] w fun e w' => e = .returned (.string ⟨(Lib.itoa n).toArray⟩) ∧ Below w.heap.size w w' := by
  refine (Tryd.strconv_Itoa n h0 h1 w h.tab).mono ?_
  rintro e w' ⟨rfl, k, os, rfl⟩
  refine ⟨rfl, ?_⟩
  refine ⟨rfl, rfl, rfl, by simp [Go.Sort.grow, World.drewN], fun i hi => ?_⟩
  show (w.heap ++ os)[i]? = w.heap[i]?
  rw [Array.getElem?_append_left hi]
/-- A number's reader. -/
def NumE (t : ByteArray) (w : World) (e : Ending) (w' : World) : Prop := Below w.heap.size w w' ∧ ((numT t).2 = true → e = .returned (.int .i64 (numT t).1)) ∧ ((numT t).2 = false → e = flt 3)
set_option maxRecDepth 100000 in
set_option maxHeartbeats 4000000 in
theorem mustBeNumber_any (t : ByteArray) (w : World) (ht : t.size ≤ 1048576) (h : Cns w) :
    Calls Tryd.prog 41 #[.string t] w fun e w' => NumE t w e w' := by
  unfold NumE
  obtain ⟨hA, hV⟩ := num_same t
  have HI := hide (atoiN_in t.data.toList)
  have HR := hide (fun wx => raise_any 3 wx)
  have HC := hide (atoiC_any t w ht h)
  have HI2 := hide (fun wx (hx : Cns wx) => itoaC_any (atoiN t.data.toList) (unhide HI).1 (unhide HI).2 wx hx)
  have HX := hide h
  have HV := hide hV
  have HA := hide hA
  clear h hA hV
  generalize atoiN t.data.toList = n at *
  generalize hN : numT t = nt at *
  obtain ⟨nv, nb⟩ := nt
  dsimp only at HV HA
  clear hN
  go_enter Tryd.func41, Tryd.ntmps41
  go_wp2_with fail
  refine (unhide HC).mono ?_
  rintro e w2 ⟨⟨v, rfl⟩, hb⟩
  have B2 := hide hb
  have X2 := hide ((unhide HX).below hb)
  clear hb HC HX
  have hu2 : (⟨(Lib.itoa n).toArray⟩ : ByteArray).data.toList = Lib.itoa n := rfl
  generalize (⟨(Lib.itoa n).toArray⟩ : ByteArray) = u at *
  rw [← hu2] at HA
  clear hu2
  by_cases hE : u = t
  · subst hE
    have hA2 := unhide HA
    have hw : inB n (-999999999999999999) 999999999999999999 = nb := by
      cases nb with
      | true => exact inB_iff.2 (hA2.1 rfl).2
      | false =>
        cases hq : inB n (-999999999999999999) 999999999999999999 with
        | false => rfl
        | true => have := hA2.2 ⟨rfl, inB_iff.1 hq⟩; cases this
    have hy : (u.toList == u.toList) = true := beq_self_eq_true _
    clear hA2 HA HI
    go_wp2_with fail
    refine (unhide HI2 _ (unhide X2)).mono ?_
    rintro e w3 ⟨rfl, hb3⟩
    have B3 := hide ((unhide B2).trans (hb3.mono (unhide B2).size))
    clear hb3 B2 X2 HI2
    go_wp2_with fail
    refine (within_any _ _ _ _).mono ?_
    rintro e w4 ⟨rfl, hw4⟩
    subst w4
    rw [hw]
    clear hw
    cases nb with
    | true =>
      have e9 := unhide HV rfl
      clear HV HR
      go_wp2_with fail
      go_ret
      refine ⟨unhide B3, ?_⟩
      simp [e9]
    | false =>
      clear HV
      go_wp2_with fail
      refine (unhide HR _).mono ?_
      rintro e w9 ⟨rfl, hw9⟩
      subst w9
      unfold flt
      go_wp2_with fail
      refine ⟨rfl, unhide B3, ?_⟩
      simp [flt]
  · have hnb : nb = false := by
      cases nb with
      | false => rfl
      | true =>
        have h9 := ((unhide HA).1 rfl).1
        exact absurd (by cases u; cases t; simp only [ByteArray.mk.injEq]; exact Array.toList_inj.1 h9) hE
    subst hnb
    have hy : (u.toList == t.toList) = false := by
      rw [beq_eq_false_iff_ne]
      intro h9
      have e1 : ∀ x : ByteArray, x.toList = x.data.toList := fun x => ByteArray.toList_eq x
      rw [e1, e1] at h9
      exact hE (by cases u; cases t; simp only [ByteArray.mk.injEq]; exact Array.toList_inj.1 h9)
    clear HA HV HI
    go_wp2_with fail
    refine (unhide HI2 _ (unhide X2)).mono ?_
    rintro e w3 ⟨rfl, hb3⟩
    have B3 := hide ((unhide B2).trans (hb3.mono (unhide B2).size))
    clear hb3 B2 X2 HI2
    go_wp2_with fail
    refine (unhide HR _).mono ?_
    rintro e w9 ⟨rfl, hw9⟩
    subst w9
    unfold flt
    go_wp2_with fail
    refine ⟨rfl, unhide B3, ?_⟩
    simp [flt]
set_option maxRecDepth 100000 in
set_option maxHeartbeats 4000000 in
theorem number_any (b off cap : Nat) (l : List ByteArray) (i : Nat) (w : World) (hi : i < l.length) (hm : l.length ≤ maxLen) (hb0 : b < w.heap.size) (hc : w.cell? ⟨b, off + i, none⟩ = some (.string (l.getD i ByteArray.empty))) (ht : (l.getD i ByteArray.empty).size ≤ 1048576) (h : Cns w) :
    Calls Tryd.prog 36 #[.slice (some ⟨b, off, none⟩) l.length cap, .int .i64 i] w fun e w' => NumE (l.getD i ByteArray.empty) w e w' := by
  generalize l.getD i ByteArray.empty = t at *
  have HM := hide (mustBeNumber_any t w ht h)
  have hi0 : (0 : Int) ≤ (i : Int) := by omega
  have hi1 : (i : Int) < (l.length : Int) := by omega
  unfold maxLen at hm
  clear h ht
  go_enter Tryd.func36, Tryd.ntmps36
  go_wp2_with fail
  refine (unhide HM).mono ?_
  rintro e w2 h2
  clear HM hc
  cases hN : (numT t).2 with
  | true =>
    obtain rfl := h2.2.1 hN
    go_wp2_with fail
    go_ret
    exact ⟨h2.1, fun _ => rfl, fun e => by rw [hN] at e; cases e⟩
  | false =>
    obtain rfl := h2.2.2 hN
    unfold flt
    go_wp2_with fail
    exact ⟨rfl, h2.1, fun e => (by rw [hN] at e; cases e), fun _ => rfl⟩
end Go.Proofs.YtihhbngpajephaaDoor.Sha
