/- The hash of all leaves below peaks: PeaksRoot. -/
import Derived.Test.YthabemlcabmmaaaDoorPkV
import Derived.Test.YthabemlcabmmaaaDoorMkV
namespace Go.Proofs.YthabemlcabmmaaaDoor.Sha
open Go.ChangeShapes Go.WideShapes Go.ChangeAt Go.RowKit
set_option linter.unusedVariables false
set_option linter.unusedSimpArgs false

def joinV (h : ByteArray) (f : Pk) : ByteArray := nodeV f.h h
/-- The hash of all leaves below peaks. -/
def rootV (l : List Pk) : ByteArray := if l.length = 0 then hashV [] else ((l.take (l.length - 1)).reverse).foldl joinV (l.getD (l.length - 1) default).h
theorem ok_hash (l : List Pk) {k : Nat} (h : okTo l (k + 1) = true) : (l.getD k default).h.size = 32 := by
  have e : okTo l (k + 1) = (okTo l k && (pow7 (l.getD k default).s && (decide ((l.getD k default).h.size = 32) && (decide (k = 0) || decide ((l.getD k default).s < (l.getD (k - 1) default).s))))) := rfl
  rw [e] at h
  simp only [Bool.and_eq_true, decide_eq_true_eq] at h
  exact h.2.2.1
theorem ok_hashes {l : List Pk} (h : okTo l l.length = true) (i : Nat) (hi : i < l.length) : (l.getD i default).h.size = 32 := ok_hash l (ok_down l _ _ (by omega) h)
theorem joins_size (l : List Pk) (x : ByteArray) (hx : x.size = 32) (hs : ∀ i, i < l.length → (l.getD i default).h.size = 32) : ∀ k, k ≤ l.length → ((l.take k).foldl joinV x).size = 32 := by
  intro k
  induction k with
  | zero => intro _; simpa using hx
  | succ k ih =>
    intro hk
    rw [foldl_next joinV x l default k (by omega)]
    exact node_size (hs k (by omega)) (ih (by omega))
theorem rev_get (l : List Pk) (i : Nat) (hi : i < l.length) : (l.reverse).getD i default = l.getD (l.length - 1 - i) default := by
  rw [List.getD_eq_getElem?_getD, List.getElem?_reverse hi, ← List.getD_eq_getElem?_getD]

set_option maxRecDepth 100000 in
theorem join_any (h : ByteArray) (f : Pk) (w : World) (hh : h.size = 32) (hx : f.h.size = 32) (ht : Tab w) :
    Calls Tryd.prog 83 #[.string h, .agg #[.int .i64 f.s, .string f.h]] w fun e w' => e = .returned (.string (joinV h f)) ∧ Below w.heap.size w w' := by
  obtain ⟨s, x⟩ := f
  dsimp only at *
  have HT := hide ht
  have B0 := hide ((Below.refl w.heap.size w).alloc (Nat.le_refl _) (.cells #[.int .i64 s, .string x] 103))
  have HH := hide (And.intro hh hx)
  clear ht hh hx
  go_enter Tryd.func83, Tryd.ntmps83
  go_wp2_with fail
  refine (nodeHash_any x h _ (unhide HH).2 (unhide HH).1 ((unhide HT).below (unhide B0))).mono ?_
  rintro e w2 ⟨rfl, hb2⟩
  have K := hide ((unhide B0).trans (hb2.mono (unhide B0).size))
  clear hb2
  go_wp2_with fail
  go_ret
  exact ⟨rfl, unhide K⟩
set_option maxRecDepth 100000 in
set_option maxHeartbeats 2000000 in
theorem foldPS_any (g c : Nat) (l : List Pk) (x : ByteArray) (B : Nat) (w : World) (hO : OwnP B w (.slice (some ⟨g, 0, none⟩) l.length c) l) (hll : l.length ≤ 64) (hs : ∀ i, i < l.length → (l.getD i default).h.size = 32) (hl : x.size = 32) (ht : Tab w) :
    Calls Tryd.prog 82 #[.slice (some ⟨g, 0, none⟩) l.length c, .string x, .func (.func 83) #[] #[]] w fun e w' => e = .returned (.string (l.foldl joinV x)) ∧ Below w.heap.size w w' := by
  have HW := hide (PA.own hO)
  have HS := hide hs
  have HT := hide ht
  have HF := hide (joins_size l x hl hs)
  clear hO hs ht
  go_enter Tryd.func82, Tryd.ntmps82
  go_wp2_with fail
  go_loopw [1, 11] (fun ov i wr => ∃ k : Nat, k ≤ l.length ∧ i = .int .i64 k ∧ ov = .string ((l.take k).foldl joinV x) ∧ Below w.heap.size w wr) (fun _ i _ => l.length - (intOf i).toNat)
  case atStart => exact ⟨0, Nat.zero_le _, rfl, rfl, Below.refl _ _⟩
  case round =>
    obtain ⟨k, hk, rfl, rfl, hb⟩ := hrel
    by_cases hlt : k < l.length
    · obtain ⟨c0, c1⟩ := ((unhide HW).below hb).cell k hlt
      rw [Nat.zero_add] at c0 c1
      have hk0 : (0 : Int) ≤ (k : Int) := by omega
      have hk1 : (k : Int) < (l.length : Int) := by omega
      have HE := hide (foldl_next joinV x l default k hlt)
      have z1 := unhide HF k (by omega)
      have z2 := unhide HS k hlt
      have HB := hide hb
      have hbs := hb.size
      clear hb
      generalize (l.take k).foldl joinV x = h at *
      generalize l.getD k default = t at *
      have HC := hide (fun wx hx => join_any h t wx z1 z2 hx)
      obtain ⟨s, y⟩ := t
      dsimp only at c0 c1 HE HC
      clear z1 z2
      have B1 := hide ((unhide HB).alloc hbs (.cells #[.int .i64 s, .string y] 103))
      go_wp2_with fail
      generalize wr.alloc (.cells #[.int .i64 s, .string y] 103) = w1 at *
      refine (unhide HC w1 ((unhide HT).below (unhide B1))).mono ?_
      rintro e w2 ⟨rfl, hb2⟩
      have B2 := hide ((unhide B1).trans (hb2.mono (unhide B1).size))
      clear hb2
      go_wp2_with fail
      refine ⟨⟨k + 1, by omega, by go_num, by rw [unhide HE], unhide B2⟩, ?_⟩
      simp [intOf]; omega
    · obtain rfl : k = l.length := by omega
      have R := hide hb
      clear hb
      rw [List.take_length]
      go_wp2_with fail
      go_ret
      exact ⟨rfl, unhide R⟩
/-- The code of peaks that were handed in. -/
def pfC (l : List Pk) : Int := if 4096 < l.length then 2 else if peaksB l = true then 0 else 1
set_option maxRecDepth 100000 in
theorem peaksFault_any (l : List Pk) (b off cap : Nat) (w : World) (hs : PA w b off cap l) (hz : ∀ i, (l.getD i default).h.size ≤ 1048576) :
    Calls Tryd.prog 74 #[.slice (some ⟨b, off, none⟩) l.length cap] w fun e w' => e = .returned (.int .i64 (pfC l)) ∧ Below w.heap.size w w' := by
  have hle : l.length ≤ 9223372036854775807 := by have := hs.le; have := hs.mx; unfold maxLen at this; omega
  have HC := hide (implPeaks_any l b off cap w hs hz)
  clear hs hz
  by_cases h1 : 4096 < l.length
  · have H : Hid (pfC l = 2) := hide (by unfold pfC; rw [if_pos h1])
    go_enter Tryd.func74, Tryd.ntmps74
    go_wp2_with fail
    go_ret
    exact ⟨ret_int (unhide H).symm, Below.refl _ _⟩
  · have H : Hid (pfC l = if peaksB l = true then 0 else 1) := hide (by unfold pfC; rw [if_neg h1])
    generalize peaksB l = al at *
    go_enter Tryd.func74, Tryd.ntmps74
    go_wp2_with fail
    refine (unhide HC).mono ?_
    rintro e w1 ⟨rfl, hb1⟩
    have K := hide hb1
    clear hb1
    cases al
    · go_wp2_with fail
      go_ret
      exact ⟨ret_int (unhide H).symm, unhide K⟩
    · go_wp2_with fail
      go_ret
      exact ⟨ret_int (unhide H).symm, unhide K⟩
theorem pfC_ok {l : List Pk} (h : pfC l = 0) : okTo l l.length = true ∧ peaksB l = true := by
  unfold pfC at h
  split at h
  · cases h
  · split at h
    · rename_i h2
      refine ⟨?_, h2⟩
      unfold peaksB at h2
      simp only [Bool.and_eq_true] at h2
      exact h2.1
    · cases h
/-- What PeaksRoot answers. -/
def prOut (l : List Pk) : ByteArray × Int := if pfC l = 0 then (rootV l, 0) else (⟨#[]⟩, pfC l)
set_option maxRecDepth 100000 in
set_option maxHeartbeats 2000000 in
theorem implPR_any (l : List Pk) (b off cap : Nat) (w : World) (hs : PA w b off cap l) (hz : ∀ i, (l.getD i default).h.size ≤ 1048576) (ht : Tab w) :
    Calls Tryd.prog 37 #[.slice (some ⟨b, off, none⟩) l.length cap] w fun e w' => e = .returned (.tuple #[.string (prOut l).1, .int .i64 (prOut l).2]) ∧ Below w.heap.size w w' := by
  have hle : l.length ≤ 9223372036854775807 := by have := hs.le; have := hs.mx; unfold maxLen at this; omega
  have hcap : l.length ≤ cap := hs.le
  have hcm : cap ≤ 9223372036854775807 := by have := hs.mx; unfold maxLen at this; omega
  have HC := hide (peaksFault_any l b off cap w hs hz)
  have HO : Hid (prOut l = if pfC l = 0 then (rootV l, 0) else (⟨#[]⟩, pfC l)) := rfl
  have HK := hide (pfC_ok (l := l))
  have HT := hide ht
  have HS := hide hs
  clear ht hs hz
  generalize pfC l = c at *
  go_enter Tryd.func37, Tryd.ntmps37
  go_wp2_with fail
  refine (unhide HC).mono ?_
  rintro e w1 ⟨rfl, hb1⟩
  have B1 := hide hb1
  clear hb1 HC
  rcases (show ¬ c = 0 ∨ c = 0 by omega) with hc | hc
  · rw [if_neg hc] at HO
    go_wp2_with fail
    go_ret2
    exact ⟨by rw [unhide HO]; rfl, unhide B1⟩
  have hok := (unhide HK hc).1
  have hll := ok_len hok
  have HOK := hide hok
  subst hc
  rw [if_pos rfl] at HO
  clear hok HK
  rcases (show l.length = 0 ∨ 0 < l.length by omega) with h0 | h0
  · have HH := hide (implHash_any (.slice none 0 0) [] w1 ⟨none, 0, rfl, by unfold maxLen; simp, .inl rfl, fun i => by simp⟩ ((unhide HT).below (unhide B1)).2 ((unhide HT).below (unhide B1)).1)
    have HV : Hid (rootV l = hashV []) := hide (if_pos h0)
    rw [unhide HV] at HO
    rw [h0]
    go_wp2_with fail
    refine (unhide HH).mono ?_
    rintro e w2 ⟨rfl, hb2⟩
    have K := hide ((unhide B1).trans (hb2.mono (unhide B1).size))
    clear hb2
    go_wp2_with fail
    go_ret2
    exact ⟨by rw [unhide HO]; rfl, unhide K⟩
  obtain ⟨m, hm⟩ : ∃ m : Nat, l.length = m + 1 := ⟨l.length - 1, by omega⟩
  have HV : Hid (rootV l = ((l.take m).reverse).foldl joinV (l.getD m default).h) := hide (by unfold rootV; rw [if_neg (by omega), show l.length - 1 = m by omega])
  rw [unhide HV] at HO
  have htl : (l.take m).length = m := by rw [List.length_take]; omega
  have hrl : (l.take m).reverse.length = m := by rw [List.length_reverse]; exact htl
  have HCL := hide (clone_any (l.take m) b off cap w1 (((unhide HS).below (unhide B1)).take m (by omega)) (by omega))
  rw [htl] at HCL
  have k1 : ((m + 1 : Nat) : Int) - 1 = (m : Int) := by omega
  have k2 : (0 : Int) ≤ (m : Int) := by omega
  have k3 : (m : Int) ≤ (cap : Int) := by omega
  have k4 : ¬ ((m + 1 : Nat) : Int) = 0 := by omega
  have k5 : (m : Int) < ((m + 1 : Nat) : Int) := by omega
  have HHR := hide (And.intro htl hrl)
  have HHM := hide hm
  have z0 := ok_hashes (unhide HOK) m (by omega)
  have HZ : Hid (∀ i, i < ((l.take m).reverse).length → (((l.take m).reverse).getD i default).h.size = 32) := hide (fun i hi => by
    rw [hrl] at hi
    rw [rev_get _ i (by omega), take_get l m _ (by omega)]
    exact ok_hashes (unhide HOK) _ (by omega))
  rw [hm]
  clear htl hrl h0
  go_wp2_with fail
  refine (unhide HCL).mono ?_
  rintro e w2 ⟨g, cc, rfl, hO2, hg, hb2⟩
  have B2 := hide ((unhide B1).trans (hb2.mono (unhide B1).size))
  have HR := hide (reverse_any w1.heap.size g cc (l.take m) w2 (by rw [(unhide HHR).1]; exact hO2) (by rw [(unhide HHR).1]; omega))
  rw [(unhide HHR).1] at HR
  have hgB : w.heap.size ≤ g := Nat.le_trans (unhide B1).size hg
  have HS1 := hide (((unhide HS).below (unhide B2)).cell m (by rw [unhide HHM]; omega)).2
  have hbg : Hid (b < w1.heap.size ∧ b < w2.heap.size) := hide ⟨((unhide HS).below (unhide B1)).lt, ((unhide HS).below (unhide B2)).lt⟩
  clear hO2 hb2 HCL
  go_wp2_with fail
  refine (unhide HR).mono ?_
  rintro e w3 ⟨rfl, hO3, hT3⟩
  have B3 := hide ((unhide B2).trans (hT3.below (unhide B2).size (fun k hk e => by omega)))
  have cl := (hT3.cell (p := ⟨b, off + m * 2 + 1, none⟩) (unhide hbg).2 (fun e => by have := (unhide hbg).1; have e' : b = g := e; omega)).trans (unhide HS1)
  have HF := hide (foldPS_any g cc ((l.take m).reverse) (l.getD m default).h _ w3 (by rw [(unhide HHR).2]; exact hO3) (by rw [(unhide HHR).2]; omega) (unhide HZ) z0 ((unhide HT).below (unhide B3)))
  rw [(unhide HHR).2] at HF
  generalize (l.getD m default).h = x at *
  generalize ((l.take m).reverse).foldl joinV x = res at *
  clear hO3 hT3 HR HS1
  go_wp2_with fail
  refine (unhide HF).mono ?_
  rintro e w4 ⟨rfl, hb4⟩
  have B4 := hide ((unhide B3).trans (hb4.mono (unhide B3).size))
  clear hb4
  go_wp2_with fail
  go_ret2
  exact ⟨by rw [unhide HO]; rfl, unhide B4⟩
set_option maxRecDepth 100000 in
set_option maxHeartbeats 2000000 in
theorem l06Root_any (l : List Pk) (b off cap : Nat) (w : World) (hs : PA w b off cap l) (hok : okTo l l.length = true) :
    Calls Tryd.prog 78 #[.slice (some ⟨b, off, none⟩) l.length cap] w fun e w' => e = .returned (.string (rootV l)) ∧ Below w.heap.size w w' := by
  have hll := ok_len hok
  rcases (show l.length = 0 ∨ 0 < l.length by omega) with h0 | h0
  · have hV : Hid (hashV [] = strOfNums (textL (stAt [] (padLen 0 / 64)))) := hide (hashV_yes (by simp))
    have HH := hide (l01Hash_any ⟨w.heap.size, 0, none⟩ 0 [] (w.alloc (.cells #[] 5)) (own_empty w w.heap.size w.heap.size rfl (Nat.le_refl _)).bytes (by simp))
    have B0 := hide ((Below.refl w.heap.size w).alloc (Nat.le_refl _) (.cells #[] 5))
    simp only [List.length_nil] at HH
    have HV : Hid (rootV l = hashV []) := hide (if_pos h0)
    clear hs hok
    rw [h0, unhide HV]
    go_enter Tryd.func78, Tryd.ntmps78
    go_wp2_with fail
    refine (unhide HH).mono ?_
    rintro e w1 ⟨rfl, hb1⟩
    have K := hide ((unhide B0).trans (hb1.mono (unhide B0).size))
    clear hb1
    rw [← unhide hV]
    go_wp2_with fail
    go_ret
    exact ⟨rfl, unhide K⟩
  obtain ⟨m, hm⟩ : ∃ m : Nat, l.length = m + 1 := ⟨l.length - 1, by omega⟩
  have HV : Hid (rootV l = ((l.take m).reverse).foldl joinV (l.getD m default).h) := hide (by unfold rootV; rw [if_neg (by omega), show l.length - 1 = m by omega])
  rw [unhide HV]
  have htl : (l.take m).length = m := by rw [List.length_take]; omega
  have hrl : (l.take m).reverse.length = m := by rw [List.length_reverse]; exact htl
  have HG : Hid (∀ i, i < m → ((l.take m).reverse).getD i default = l.getD (m - 1 - i) default) := hide (fun i hi => by
    rw [rev_get _ i (by omega), htl, take_get l m _ (by omega)])
  have HZ := hide (joins_size ((l.take m).reverse) (l.getD m default).h (ok_hashes hok m (by omega)) (fun i hi => by
    rw [hrl] at hi
    rw [unhide HG i hi]
    exact ok_hashes hok _ (by omega)))
  have HOK := hide hok
  have HS := hide hs
  have c0 := (hs.cell m (by omega)).2
  have HLM := hide hm
  have HHR := hide hrl
  have HN := hide (foldl_next joinV (l.getD m default).h ((l.take m).reverse) default)
  have HA : Hid (((l.take m).reverse).take m = (l.take m).reverse) := hide (List.take_of_length_le (by omega))
  have HCE := hide (fun i (hi : i < m) => (hs.cell i (by omega)).2)
  have hcl : Hid (∀ i, i < m → (l.getD i default).h.size = 32) := hide (fun i hi => ok_hashes hok i (by omega))
  rw [hm] at hll ⊢
  clear hs hok htl hrl h0
  generalize (l.take m).reverse = rv at *
  generalize hx0 : (l.getD m default).h = x0 at *
  clear hx0
  have k1 : ((m + 1 : Nat) : Int) - 1 = (m : Int) := by omega
  have k2 : (0 : Int) ≤ (m : Int) := by omega
  have k3 : (m : Int) < ((m + 1 : Nat) : Int) := by omega
  have k4 : ¬ ((m + 1 : Nat) : Int) = 0 := by omega
  have k5 : ((m + 1 : Nat) : Int) - 2 = (m : Int) - 1 := by omega
  have k6 : ((m : Int) + 1 == 0) = false := beq_eq_false_iff_ne.2 (by omega)
  go_enter Tryd.func78, Tryd.ntmps78
  go_wp2_with fail
  go_loopw [3, 4] (fun hv iv wr => ∃ j : Nat, j ≤ m ∧ iv = .int .i64 ((m : Int) - 1 - (j : Int)) ∧ hv = .string ((rv.take j).foldl joinV x0) ∧ Below w.heap.size w wr) (fun _ iv _ => (intOf iv + 1).toNat)
  case atStart => exact ⟨0, Nat.zero_le _, by go_num, rfl, Below.refl _ _⟩
  case round =>
    obtain ⟨j, hj, rfl, rfl, hb⟩ := hrel
    by_cases hlt : j < m
    · obtain ⟨i, hi⟩ : ∃ i : Nat, i = m - 1 - j := ⟨_, rfl⟩
      have hie : (m : Int) - 1 - (j : Int) = (i : Int) := by omega
      have c1 := ((hb.cell (p := ⟨b, off + i * 2 + 1, none⟩) (unhide HS).lt)).trans (unhide HCE i (by omega))
      have z1 := unhide HZ j (by rw [unhide HHR]; omega)
      have z2 := unhide hcl i (by omega)
      have HE : Hid ((rv.take (j + 1)).foldl joinV x0 = nodeV (l.getD i default).h ((rv.take j).foldl joinV x0)) := hide (by
        rw [unhide HN j (by rw [unhide HHR]; omega), unhide HG j hlt, ← hi]; rfl)
      have HB := hide hb
      have hbs := hb.size
      rw [hie]
      have g1 : (0 : Int) ≤ (i : Int) := by omega
      have g2 : (i : Int) < ((m + 1 : Nat) : Int) := by omega
      have hij : j + i + 1 = m := by omega
      have HIJ := hide hij
      clear hb c0 hi hij hie
      generalize (rv.take j).foldl joinV x0 = h at *
      generalize (l.getD i default).h = y at *
      have HC := hide (fun wx => l06Node_any y h wx z2 z1)
      clear z1 z2
      go_wp2_with fail
      refine (unhide HC wr).mono ?_
      rintro e w2 ⟨rfl, hb2⟩
      have B2 := hide ((unhide HB).trans (hb2.mono hbs))
      clear hb2
      go_wp2_with fail
      have hij := unhide HIJ
      refine ⟨⟨j + 1, by omega, by go_num, by rw [unhide HE], unhide B2⟩, ?_⟩
      simp [intOf]
    · obtain rfl : j = m := by omega
      have R := hide hb
      clear hb c0
      rw [unhide HA]
      have g3 : ¬ (0 : Int) ≤ (j : Int) - 1 - (j : Int) := by omega
      go_wp2_with fail
      go_ret
      exact ⟨rfl, unhide R⟩
set_option maxRecDepth 100000 in
set_option maxHeartbeats 1000000 in
theorem specPR_any (l : List Pk) (b off cap : Nat) (w : World) (hs : PA w b off cap l) (hz : ∀ i, (l.getD i default).h.size ≤ 1048576) :
    Calls Tryd.prog 36 #[.slice (some ⟨b, off, none⟩) l.length cap] w fun e w' => e = .returned (.tuple #[.string (prOut l).1, .int .i64 (prOut l).2]) ∧ Below w.heap.size w w' := by
  have hle : l.length ≤ 9223372036854775807 := by have := hs.le; have := hs.mx; unfold maxLen at this; omega
  have HO : Hid (prOut l = if pfC l = 0 then (rootV l, 0) else (⟨#[]⟩, pfC l)) := rfl
  by_cases h4 : 4096 < l.length
  · have e : pfC l = 2 := by unfold pfC; rw [if_pos h4]
    rw [e, if_neg (by omega)] at HO
    clear hs hz e
    go_enter Tryd.func36, Tryd.ntmps36
    go_wp2_with fail
    go_ret2
    exact ⟨by rw [unhide HO]; rfl, Below.refl _ _⟩
  have HC := hide (specPeaks_any l b off cap w hs hz)
  have HP : Hid (pfC l = if peaksB l = true then 0 else 1) := hide (by unfold pfC; rw [if_neg h4])
  have HK := hide (fun h : peaksB l = true => l06Root_any l b off cap w hs (by unfold peaksB at h; simp only [Bool.and_eq_true] at h; exact h.1))
  clear hs hz
  generalize peaksB l = al at *
  go_enter Tryd.func36, Tryd.ntmps36
  go_wp2_with fail
  refine (unhide HC).mono ?_
  rintro e w9 ⟨rfl, hw9⟩
  subst w9
  cases al
  · rw [unhide HP, if_neg (by simp)] at HO
    go_wp2_with fail
    go_ret2
    exact ⟨by rw [unhide HO]; rfl, Below.refl _ _⟩
  · rw [unhide HP, if_pos (by simp)] at HO
    have HG := hide (unhide HK rfl)
    go_wp2_with fail
    refine (unhide HG).mono ?_
    rintro e w2 ⟨rfl, hb2⟩
    have K := hide hb2
    clear hb2
    go_wp2_with fail
    go_ret2
    exact ⟨by rw [unhide HO]; rfl, unhide K⟩
end Go.Proofs.YthabemlcabmmaaaDoor.Sha
