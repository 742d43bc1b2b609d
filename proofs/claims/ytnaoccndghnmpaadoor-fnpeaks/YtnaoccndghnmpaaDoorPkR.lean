/- The hash of all leaves below peaks: PeaksRoot. -/
import Derived.Test.YtnaoccndghnmpaaDoorPkV
import Derived.Test.YtnaoccndghnmpaaDoorMkV
namespace Go.Proofs.YtnaoccndghnmpaaDoor.Sha
open Go.ChangeShapes Go.WideShapes Go.ChangeAt Go.RowKit
set_option linter.unusedVariables false
set_option linter.unusedSimpArgs false

def joinV (h : ByteArray) (f : Pk) : ByteArray := nodeV f.h h
/-- The hash of all leaves below peaks. -/
def rootV (l : List Pk) : ByteArray := if l.length = 0 then hashV [] else ((l.take (l.length - 1)).reverse).foldl joinV (l.getD (l.length - 1) default).h
theorem ok_hash (l : List Pk) {k : Nat} (h : okTo l (k + 1) = true) : (l.getD k default).h.size = 32 := by
  have e : okTo l (k + 1) = (okTo l k && (pow7 (l.getD k default).s && (decide ((l.getD k default).h.size = 32) && (decide (k = 0) || decide ((l.getD k default).s < (l.getD (k - 1) default).s))))) := rfl
  rw [e] at h
  simp only [Bool.and_eq_true, decide_eq_true_eq] at h
  exact h.2.2.1
theorem ok_hashes {l : List Pk} (h : okTo l l.length = true) (i : Nat) (hi : i < l.length) : (l.getD i default).h.size = 32 := ok_hash l (ok_down l _ _ (by omega) h)
theorem joins_size (l : List Pk) (x : ByteArray) (hx : x.size = 32) (hs : ∀ i, i < l.length → (l.getD i default).h.size = 32) : ∀ k, k ≤ l.length → ((l.take k).foldl joinV x).size = 32 := by
  intro k
  induction k with
  | zero => intro _; simpa using hx
  | succ k ih =>
    intro hk
    rw [foldl_next joinV x l default k (by omega)]
    exact node_size (hs k (by omega)) (ih (by omega))
theorem rev_get (l : List Pk) (i : Nat) (hi : i < l.length) : (l.reverse).getD i default = l.getD (l.length - 1 - i) default := by
  rw [List.getD_eq_getElem?_getD, List.getElem?_reverse hi, ← List.getD_eq_getElem?_getD]

set_option maxRecDepth 100000 in
theorem join_any (h : ByteArray) (f : Pk) (w : World) (hh : h.size = 32) (hx : f.h.size = 32) (ht : Tab w) :
    Calls Tryd.prog 63 #[.string h, .agg #[.int .i64 f.s, .string f.h]] w fun e w' => e = .returned (.string (joinV h f)) ∧ Below w.heap.size w w' := by
  obtain ⟨s, x⟩ := f
  dsimp only at *
  have HT := hide ht
  have B0 := hide ((Below.refl w.heap.size w).alloc (Nat.le_refl _) (.cells #[.int .i64 s, .string x] 81))
  have HH := hide (And.intro hh hx)
  clear ht hh hx
  go_enter Tryd.func63, Tryd.ntmps63
  go_wp2_with fail
  refine (nodeHash_any x h _ (unhide HH).2 (unhide HH).1 ((unhide HT).below (unhide B0))).mono ?_
  rintro e w2 ⟨rfl, hb2⟩
  have K := hide ((unhide B0).trans (hb2.mono (unhide B0).size))
  clear hb2
  go_wp2_with fail
  go_ret
  exact ⟨rfl, unhide K⟩
set_option maxRecDepth 100000 in
set_option maxHeartbeats 2000000 in
theorem foldPS_any (g c : Nat) (l : List Pk) (x : ByteArray) (B : Nat) (w : World) (hO : OwnP B w (.slice (some ⟨g, 0, none⟩) l.length c) l) (hll : l.length ≤ 64) (hs : ∀ i, i < l.length → (l.getD i default).h.size = 32) (hl : x.size = 32) (ht : Tab w) :
    Calls Tryd.prog 62 #[.slice (some ⟨g, 0, none⟩) l.length c, .string x, .func (.func 63) #[] #[]] w fun e w' => e = .returned (.string (l.foldl joinV x)) ∧ Below w.heap.size w w' := by
  have HW := hide (PA.own hO)
  have HS := hide hs
  have HT := hide ht
  have HF := hide (joins_size l x hl hs)
  clear hO hs ht
  go_enter Tryd.func62, Tryd.ntmps62
  go_wp2_with fail
  go_loopw [1, 11] (fun ov i wr => ∃ k : Nat, k ≤ l.length ∧ i = .int .i64 k ∧ ov = .string ((l.take k).foldl joinV x) ∧ Below w.heap.size w wr) (fun _ i _ => l.length - (intOf i).toNat)
  case atStart => exact ⟨0, Nat.zero_le _, rfl, rfl, Below.refl _ _⟩
  case round =>
    obtain ⟨k, hk, rfl, rfl, hb⟩ := hrel
    by_cases hlt : k < l.length
    · obtain ⟨c0, c1⟩ := ((unhide HW).below hb).cell k hlt
      rw [Nat.zero_add] at c0 c1
      have hk0 : (0 : Int) ≤ (k : Int) := by omega
      have hk1 : (k : Int) < (l.length : Int) := by omega
      have HE := hide (foldl_next joinV x l default k hlt)
      have z1 := unhide HF k (by omega)
      have z2 := unhide HS k hlt
      have HB := hide hb
      have hbs := hb.size
      clear hb
      generalize (l.take k).foldl joinV x = h at *
      generalize l.getD k default = t at *
      have HC := hide (fun wx hx => join_any h t wx z1 z2 hx)
      obtain ⟨s, y⟩ := t
      dsimp only at c0 c1 HE HC
      clear z1 z2
      have B1 := hide ((unhide HB).alloc hbs (.cells #[.int .i64 s, .string y] 81))
      go_wp2_with fail
      generalize wr.alloc (.cells #[.int .i64 s, .string y] 81) = w1 at *
      refine (unhide HC w1 ((unhide HT).below (unhide B1))).mono ?_
      rintro e w2 ⟨rfl, hb2⟩
      have B2 := hide ((unhide B1).trans (hb2.mono (unhide B1).size))
      clear hb2
      go_wp2_with fail
      refine ⟨⟨k + 1, by omega, by go_num, by rw [unhide HE], unhide B2⟩, ?_⟩
      simp [intOf]; omega
    · obtain rfl : k = l.length := by omega
      have R := hide hb
      clear hb
      rw [List.take_length]
      go_wp2_with fail
      go_ret
      exact ⟨rfl, unhide R⟩
/-- The code of peaks that were handed in. -/
def pfC (l : List Pk) : Int := if 4096 < l.length then 2 else if peaksB l = true then 0 else 1
set_option maxRecDepth 100000 in
theorem peaksFault_any (l : List Pk) (b off cap : Nat) (w : World) (hs : PA w b off cap l) (hz : ∀ i, (l.getD i default).h.size ≤ 1048576) :
    Calls Tryd.prog 54 #[.slice (some ⟨b, off, none⟩) l.length cap] w fun e w' => e = .returned (.int .i64 (pfC l)) ∧ Below w.heap.size w w' := by
  have hle : l.length ≤ 9223372036854775807 := by have := hs.le; have := hs.mx; unfold maxLen at this; omega
  have HC := hide (implPeaks_any l b off cap w hs hz)
  clear hs hz
  by_cases h1 : 4096 < l.length
  · have H : Hid (pfC l = 2) := hide (by unfold pfC; rw [if_pos h1])
    go_enter Tryd.func54, Tryd.ntmps54
    go_wp2_with fail
    go_ret
    exact ⟨ret_int (unhide H).symm, Below.refl _ _⟩
  · have H : Hid (pfC l = if peaksB l = true then 0 else 1) := hide (by unfold pfC; rw [if_neg h1])
    generalize peaksB l = al at *
    go_enter Tryd.func54, Tryd.ntmps54
    go_wp2_with fail
    refine (unhide HC).mono ?_
    rintro e w1 ⟨rfl, hb1⟩
    have K := hide hb1
    clear hb1
    cases al
    · go_wp2_with fail
      go_ret
      exact ⟨ret_int (unhide H).symm, unhide K⟩
    · go_wp2_with fail
      go_ret
      exact ⟨ret_int (unhide H).symm, unhide K⟩
theorem pfC_ok {l : List Pk} (h : pfC l = 0) : okTo l l.length = true ∧ peaksB l = true := by
  unfold pfC at h
  split at h
  · cases h
  · split at h
    · rename_i h2
      refine ⟨?_, h2⟩
      unfold peaksB at h2
      simp only [Bool.and_eq_true] at h2
      exact h2.1
    · cases h
/-- What PeaksRoot answers. -/
def prOut (l : List Pk) : ByteArray × Int := if pfC l = 0 then (rootV l, 0) else (⟨#[]⟩, pfC l)
set_option maxRecDepth 100000 in
set_option maxHeartbeats 2000000 in
theorem implPR_any (l : List Pk) (b off cap : Nat) (w : World) (hs : PA w b off cap l) (hz : ∀ i, (l.getD i default).h.size ≤ 1048576) (ht : Tab w) :
    Calls Tryd.prog 23 #[.slice (some ⟨b, off, none⟩) l.length cap] w fun e w' => e = .returned (.tuple #[.string (prOut l).1, .int .i64 (prOut l).2]) ∧ Below w.heap.size w w' := by
  have hle : l.length ≤ 9223372036854775807 := by have := hs.le; have := hs.mx; unfold maxLen at this; omega
  have hcap : l.length ≤ cap := hs.le
  have hcm : cap ≤ 9223372036854775807 := by have := hs.mx; unfold maxLen at this; omega
  have HC := hide (peaksFault_any l b off cap w hs hz)
  have HO : Hid (prOut l = if pfC l = 0 then (rootV l, 0) else (⟨#[]⟩, pfC l)) := rfl
  have HK := hide (pfC_ok (l := l))
  have HT := hide ht
  have HS := hide hs
  clear ht hs hz
  generalize pfC l = c at *
  go_enter Tryd.func23, Tryd.ntmps23
  go_wp2_with fail
  refine (unhide HC).mono ?_
  rintro e w1 ⟨rfl, hb1⟩
  have B1 := hide hb1
  clear hb1 HC
  rcases (show ¬ c = 0 ∨ c = 0 by omega) with hc | hc
  · rw [if_neg hc] at HO
    go_wp2_with fail
    go_ret2
    exact ⟨by rw [unhide HO]; rfl, unhide B1⟩
  have hok := (unhide HK hc).1
  have hll := ok_len hok
  have HOK := hide hok
  subst hc
  rw [if_pos rfl] at HO
  clear hok HK
  rcases (show l.length = 0 ∨ 0 < l.length by omega) with h0 | h0
  · have HH := hide (implHash_any (.slice none 0 0) [] w1 ⟨none, 0, rfl, by unfold maxLen; simp, .inl rfl, fun i => by simp⟩ ((unhide HT).below (unhide B1)).2 ((unhide HT).below (unhide B1)).1)
    have HV : Hid (rootV l = hashV []) := hide (if_pos h0)
    rw [unhide HV] at HO
    rw [h0]
    go_wp2_with fail
    refine (unhide HH).mono ?_
    rintro e w2 ⟨rfl, hb2⟩
    have K := hide ((unhide B1).trans (hb2.mono (unhide B1).size))
    clear hb2
    go_wp2_with fail
    go_ret2
    exact ⟨by rw [unhide HO]; rfl, unhide K⟩
  obtain ⟨m, hm⟩ : ∃ m : Nat, l.length = m + 1 := ⟨l.length - 1, by omega⟩
  have HV : Hid (rootV l = ((l.take m).reverse).foldl joinV (l.getD m default).h) := hide (by unfold rootV; rw [if_neg (by omega), show l.length - 1 = m by omega])
  rw [unhide HV] at HO
  have htl : (l.take m).length = m := by rw [List.length_take]; omega
  have hrl : (l.take m).reverse.length = m := by rw [List.length_reverse]; exact htl
  have HCL := hide (clone_any (l.take m) b off cap w1 (((unhide HS).below (unhide B1)).take m (by omega)) (by omega))
  rw [htl] at HCL
  have k1 : ((m + 1 : Nat) : Int) - 1 = (m : Int) := by omega
  have k2 : (0 : Int) ≤ (m : Int) := by omega
  have k3 : (m : Int) ≤ (cap : Int) := by omega
  have k4 : ¬ ((m + 1 : Nat) : Int) = 0 := by omega
  have k5 : (m : Int) < ((m + 1 : Nat) : Int) := by omega
  have HHR := hide (And.intro htl hrl)
  have HHM := hide hm
  have z0 := ok_hashes (unhide HOK) m (by omega)
  have HZ : Hid (∀ i, i < ((l.take m).reverse).length → (((l.take m).reverse).getD i default).h.size = 32) := hide (fun i hi => by
    rw [hrl] at hi
    rw [rev_get _ i (by omega), take_get l m _ (by omega)]
    exact ok_hashes (unhide HOK) _ (by omega))
  rw [hm]
  clear htl hrl h0
  go_wp2_with fail
  refine (unhide HCL).mono ?_
  rintro e w2 ⟨g, cc, rfl, hO2, hg, hb2⟩
  have B2 := hide ((unhide B1).trans (hb2.mono (unhide B1).size))
  have HR := hide (reverse_any w1.heap.size g cc (l.take m) w2 (by rw [(unhide HHR).1]; exact hO2) (by rw [(unhide HHR).1]; omega))
  rw [(unhide HHR).1] at HR
  have hgB : w.heap.size ≤ g := Nat.le_trans (unhide B1).size hg
  have HS1 := hide (((unhide HS).below (unhide B2)).cell m (by rw [unhide HHM]; omega)).2
  have hbg : Hid (b < w1.heap.size ∧ b < w2.heap.size) := hide ⟨((unhide HS).below (unhide B1)).lt, ((unhide HS).below (unhide B2)).lt⟩
  clear hO2 hb2 HCL
  go_wp2_with fail
  refine (unhide HR).mono ?_
  rintro e w3 ⟨rfl, hO3, hT3⟩
  have B3 := hide ((unhide B2).trans (hT3.below (unhide B2).size (fun k hk e => by omega)))
  have cl := (hT3.cell (p := ⟨b, off + m * 2 + 1, none⟩) (unhide hbg).2 (fun e => by have := (unhide hbg).1; have e' : b = g := e; omega)).trans (unhide HS1)
  have HF := hide (foldPS_any g cc ((l.take m).reverse) (l.getD m default).h _ w3 (by rw [(unhide HHR).2]; exact hO3) (by rw [(unhide HHR).2]; omega) (unhide HZ) z0 ((unhide HT).below (unhide B3)))
  rw [(unhide HHR).2] at HF
  generalize (l.getD m default).h = x at *
  generalize ((l.take m).reverse).foldl joinV x = res at *
  clear hO3 hT3 HR HS1
  go_wp2_with fail
  refine (unhide HF).mono ?_
  rintro e w4 ⟨rfl, hb4⟩
  have B4 := hide ((unhide B3).trans (hb4.mono (unhide B3).size))
  clear hb4
  go_wp2_with fail
  go_ret2
  exact ⟨by rw [unhide HO]; rfl, unhide B4⟩
end Go.Proofs.YtnaoccndghnmpaaDoor.Sha
