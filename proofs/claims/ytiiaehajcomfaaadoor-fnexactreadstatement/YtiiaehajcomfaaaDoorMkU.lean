/- What a proof of a leaf leads to: wayUp, turnsOf, climb, fold; l06Up; InclusionRoot. -/
import Derived.Test.YtiiaehajcomfaaaDoorMkN
import Derived.Test.YtiiaehajcomfaaaDoorMkT
import Derived.Test.YtiiaehajcomfaaaDoorStrL
import Derived.Deep.Fields
namespace Go.Proofs.YtiiaehajcomfaaaDoor.Sha
open Go.ChangeShapes Go.WideShapes Go.ChangeAt Go.RowKit
set_option linter.unusedVariables false
set_option linter.unusedSimpArgs false

/-- The sides of the hashes beside the way from a leaf up: 0 ahead, 1 behind. -/
def wayV (p n : Nat) : List Int :=
  if h : n < 2 ∨ 64 < n then []
  else if p < half n then wayV p (half n) ++ [1] else wayV (p - half n) (n - half n) ++ [0]
termination_by n
decreasing_by
  · have := half_facts (n := n) (by omega) (by omega); omega
  · have := half_facts (n := n) (by omega) (by omega); omega
theorem wayV_one (p : Nat) : wayV p 1 = [] := by rw [wayV, dif_pos (by omega)]
theorem wayV_lo {p n : Nat} (h : 2 ≤ n) (h2 : n ≤ 64) (hp : p < half n) : wayV p n = wayV p (half n) ++ [1] := by rw [wayV, dif_neg (by omega), if_pos hp]
theorem wayV_hi {p n : Nat} (h : 2 ≤ n) (h2 : n ≤ 64) (hp : ¬ p < half n) : wayV p n = wayV (p - half n) (n - half n) ++ [0] := by rw [wayV, dif_neg (by omega), if_neg hp]
theorem way_len : ∀ (n p : Nat), 1 ≤ n → (wayV p n).length < n := by
  intro n
  induction n using Nat.strongRecOn with
  | ind n ih =>
    intro p h1
    by_cases h : n < 2 ∨ 64 < n
    · rw [wayV, dif_pos h]; simp; omega
    · have hf := half_facts (n := n) (by omega) (by omega)
      by_cases hp : p < half n
      · rw [wayV_lo (by omega) (by omega) hp]
        have := ih (half n) (by omega) p (by omega)
        simp; omega
      · rw [wayV_hi (by omega) (by omega) hp]
        have := ih (n - half n) (by omega) (p - half n) (by omega)
        simp; omega
/-- One turn further up. -/
def climbV (h : ByteArray) (t : Int × ByteArray) : ByteArray := if t.1 = 0 then nodeV t.2 h else nodeV h t.2
/-- What the specification says of a proof: where it leads, and if it is as long as it must be. -/
def upV (leaf : ByteArray) (p n : Nat) (pr : List ByteArray) : ByteArray × Bool :=
  if h : n < 2 ∨ 64 < n then (leaf, decide (pr.length = 0))
  else if pr.length = 0 then (⟨#[]⟩, false)
  else if p < half n then (nodeV (upV leaf p (half n) (pr.take (pr.length - 1))).1 (pr.getD (pr.length - 1) ByteArray.empty), (upV leaf p (half n) (pr.take (pr.length - 1))).2)
  else (nodeV (pr.getD (pr.length - 1) ByteArray.empty) (upV leaf (p - half n) (n - half n) (pr.take (pr.length - 1))).1, (upV leaf (p - half n) (n - half n) (pr.take (pr.length - 1))).2)
termination_by n
decreasing_by
  all_goals
    have := half_facts (n := n) (by omega) (by omega)
    omega
theorem upV_one (leaf : ByteArray) (p : Nat) (pr : List ByteArray) : upV leaf p 1 pr = (leaf, decide (pr.length = 0)) := by rw [upV, dif_pos (by omega)]
theorem upV_none {leaf : ByteArray} {p n : Nat} {pr : List ByteArray} (h : 2 ≤ n) (h2 : n ≤ 64) (h0 : pr.length = 0) : upV leaf p n pr = (⟨#[]⟩, false) := by rw [upV, dif_neg (by omega), if_pos h0]
theorem upV_lo {leaf : ByteArray} {p n : Nat} {pr : List ByteArray} (h : 2 ≤ n) (h2 : n ≤ 64) (h0 : ¬ pr.length = 0) (hp : p < half n) : upV leaf p n pr = (nodeV (upV leaf p (half n) (pr.take (pr.length - 1))).1 (pr.getD (pr.length - 1) ByteArray.empty), (upV leaf p (half n) (pr.take (pr.length - 1))).2) := by rw [upV, dif_neg (by omega), if_neg h0, if_pos hp]
theorem upV_hi {leaf : ByteArray} {p n : Nat} {pr : List ByteArray} (h : 2 ≤ n) (h2 : n ≤ 64) (h0 : ¬ pr.length = 0) (hp : ¬ p < half n) : upV leaf p n pr = (nodeV (pr.getD (pr.length - 1) ByteArray.empty) (upV leaf (p - half n) (n - half n) (pr.take (pr.length - 1))).1, (upV leaf (p - half n) (n - half n) (pr.take (pr.length - 1))).2) := by rw [upV, dif_neg (by omega), if_neg h0, if_neg hp]
theorem node_le {a b : ByteArray} (ha : a.size ≤ 32) (hb : b.size ≤ 32) : (nodeV a b).size = 32 := hash_size (by simp [bytesI_len]; omega)
theorem up_size : ∀ (n : Nat) (leaf : ByteArray) (p : Nat) (pr : List ByteArray), 1 ≤ n → n ≤ 64 → leaf.size = 32 → AllH pr → (upV leaf p n pr).1.size ≤ 32 := by
  intro n
  induction n using Nat.strongRecOn with
  | ind n ih =>
    intro leaf p pr h1 hn hl ha
    rcases (show n = 1 ∨ 2 ≤ n by omega) with h | h
    · subst h; rw [upV_one]; simp; omega
    · have hf := half_facts (n := n) h hn
      by_cases h0 : pr.length = 0
      · rw [upV_none h hn h0]; show (0 : Nat) ≤ 32; omega
      · have hx := ha (pr.length - 1) (by omega)
        by_cases hp : p < half n
        · rw [upV_lo h hn h0 hp]
          have := ih (half n) (by omega) leaf p (pr.take (pr.length - 1)) (by omega) (by omega) hl (ha.take _)
          exact Nat.le_of_eq (node_le this (by omega))
        · rw [upV_hi h hn h0 hp]
          have := ih (n - half n) (by omega) leaf (p - half n) (pr.take (pr.length - 1)) (by omega) (by omega) hl (ha.take _)
          exact Nat.le_of_eq (node_le (by omega) this)
/-- Both say the same. -/
theorem up_way : ∀ (n : Nat) (leaf : ByteArray) (p : Nat) (pr : List ByteArray), 1 ≤ n → n ≤ 64 →
    (upV leaf p n pr).2 = decide (pr.length = (wayV p n).length) ∧ (pr.length = (wayV p n).length → (upV leaf p n pr).1 = ((wayV p n).zip pr).foldl climbV leaf) := by
  intro n
  induction n using Nat.strongRecOn with
  | ind n ih =>
    intro leaf p pr h1 hn
    rcases (show n = 1 ∨ 2 ≤ n by omega) with h | h
    · subst h; rw [upV_one, wayV_one]; simp
    · have hf := half_facts (n := n) h hn
      by_cases h0 : pr.length = 0
      · rw [upV_none h hn h0]
        have hw : (wayV p n).length ≠ 0 := by
          by_cases hp : p < half n
          · rw [wayV_lo h hn hp]; simp
          · rw [wayV_hi h hn hp]; simp
        refine ⟨?_, fun e => by omega⟩
        simp; omega
      · have hpr : pr = pr.take (pr.length - 1) ++ [pr.getD (pr.length - 1) ByteArray.empty] := by
          have hlt : pr.length - 1 < pr.length := by omega
          rw [List.getD_eq_getElem?_getD, List.getElem?_eq_getElem hlt]
          simp only [Option.getD_some]
          rw [List.take_append_getElem hlt]
          rw [show pr.length - 1 + 1 = pr.length by omega, List.take_length]
        have hl : (pr.take (pr.length - 1)).length = pr.length - 1 := by rw [List.length_take]; omega
        by_cases hp : p < half n
        · rw [upV_lo h hn h0 hp, wayV_lo h hn hp]
          obtain ⟨i1, i2⟩ := ih (half n) (by omega) leaf p (pr.take (pr.length - 1)) (by omega) (by omega)
          rw [hl] at i1 i2
          refine ⟨?_, fun e => ?_⟩
          · rw [i1]; simp; omega
          · simp at e
            have e2 : pr.length - 1 = (wayV p (half n)).length := by omega
            rw [i2 e2]
            conv => rhs; rw [hpr]
            rw [List.zip_append (by rw [hl]; exact e2.symm), List.foldl_append]
            simp [climbV]
        · rw [upV_hi h hn h0 hp, wayV_hi h hn hp]
          obtain ⟨i1, i2⟩ := ih (n - half n) (by omega) leaf (p - half n) (pr.take (pr.length - 1)) (by omega) (by omega)
          rw [hl] at i1 i2
          refine ⟨?_, fun e => ?_⟩
          · rw [i1]; simp; omega
          · simp at e
            have e2 : pr.length - 1 = (wayV (p - half n) (n - half n)).length := by omega
            rw [i2 e2]
            conv => rhs; rw [hpr]
            rw [List.zip_append (by rw [hl]; exact e2.symm), List.foldl_append]
            simp [climbV]

set_option maxRecDepth 100000 in
set_option maxHeartbeats 1000000 in
theorem l06Node_le (a b : ByteArray) (w : World) (ha2 : a.size ≤ 32) (hb2 : b.size ≤ 32) :
    Calls Tryd.prog 59 #[.string a, .string b] w fun e w' => e = .returned (.string (nodeV a b)) ∧ Below w.heap.size w w' := by
  obtain ⟨i0, hi, hz0, hz1, hz2⟩ := info_parts info5
  have O0 : Hid ((w.alloc (.cells #[.int .u8 1] 5)).ownsRow w.heap.size 5 1 (.slice (some ⟨w.heap.size, 0, none⟩) 1 1) 1 [.int .u8 1]) := hide (own_lit (heap_new rfl) (Nat.le_refl _) rfl (by unfold maxLen; omega))
  have B0 := hide ((Below.refl w.heap.size w).alloc (Nat.le_refl _) (.cells #[.int .u8 1] 5))
  have hlen : Hid ((1 :: (bytesI a ++ bytesI b)).length ≤ 65) := hide (by simp [bytesI_len]; omega)
  have hV : Hid (nodeV a b = strOfNums (textL (stAt (1 :: (bytesI a ++ bytesI b)) (padLen (1 :: (bytesI a ++ bytesI b)).length / 64)))) := hide (hashV_yes (by have := unhide hlen; omega))
  go_enter Tryd.func59, Tryd.ntmps59
  go_wp2_with (at_builtin; first
    | (refine wpList_append_str _ rfl _ _ _ _ rfl w.heap.size 5 i0 Tryd.underlying81 Tryd.underlying9 hi hz0 hz1 hz2 _ (1 + a.size) _ rfl (unhide O1) b rfl (by omega) (by omega) (by have := (unhide B1).size; omega) ?_; intro g2 cap2 w2 hown2 hgrow2 hat2; have O2 := hide hown2; have B2 := hide ((unhide B1).grown hgrow2 (by have := (unhide B1).size; omega) (fun r hr => ((unhide O1).lt r hr).1)); clear hown2 hgrow2 hat2)
    | (refine wpList_append_str _ rfl _ _ _ _ rfl w.heap.size 5 i0 Tryd.underlying81 Tryd.underlying9 hi hz0 hz1 hz2 _ 1 _ rfl (unhide O0) a rfl (by omega) (by omega) (by simp) ?_; intro g1 cap1 w1 hown1 hgrow1 hat1; have O1 := hide hown1; have B1 := hide ((unhide B0).grown hgrow1 (by simp) (fun r hr => ((unhide O0).lt r hr).1)); clear hown1 hgrow1 hat1))
  have hx : Bytes w2 (.slice (some ⟨g2, 0, none⟩) (1 :: (bytesI a ++ bytesI b)).length cap2) (1 :: (bytesI a ++ bytesI b)) := by
    refine OwnB.bytes (B := w.heap.size) ⟨?_, range_cons (by omega) (by omega) (range_append (bytesI_range a) (bytesI_range b))⟩
    have h := unhide O2
    rw [strCells_eq, strCells_eq] at h
    rw [show (1 :: (bytesI a ++ bytesI b)).length = 1 + a.size + b.size by simp [bytesI_len]; omega]
    simpa using h
  have HL := hide (l01Hash_any _ _ _ w2 hx (by have := unhide hlen; omega))
  rw [show (1 :: (bytesI a ++ bytesI b)).length = 1 + a.size + b.size by simp [bytesI_len]; omega] at HL hV
  clear hx
  refine (unhide HL).mono ?_
  rintro e w3 ⟨rfl, hb3⟩
  have K := hide ((unhide B2).trans (hb3.mono (unhide B2).size))
  clear hb3
  rw [← unhide hV]
  go_wp2_with fail
  go_ret
  exact ⟨rfl, unhide K⟩

set_option maxRecDepth 100000 in
set_option maxHeartbeats 2000000 in
theorem l06Up_any : ∀ (n : Nat) (leaf : ByteArray) (p : Nat) (pr : List ByteArray) (m b off cap : Nat) (w : World), 1 ≤ n → n ≤ 64 → p < n → pr.length = m → m ≤ 64 → leaf.size = 32 → AllH pr → SA w b off cap pr →
    Calls Tryd.prog 36 #[.string leaf, .int .i64 p, .int .i64 n, .slice (some ⟨b, off, none⟩) m cap] w fun e w' => e = .returned (.tuple #[.string (upV leaf p n pr).1, .bool (upV leaf p n pr).2]) ∧ Below w.heap.size w w' := by
  intro n
  induction n using Nat.strongRecOn with
  | ind n ih =>
    intro leaf p pr m b off cap w h1 hn hpn hm hm2 hl ha hs
    have hcap : m ≤ cap := by have := hs.le; omega
    have hcm : cap ≤ 9223372036854775807 := by have := hs.mx; unfold maxLen at this; omega
    rcases (show n = 1 ∨ 2 ≤ n by omega) with h | h
    · subst h
      have HV := hide (upV_one leaf p pr)
      rw [hm] at HV
      clear ih hl ha hs hm
      by_cases hm0 : m = 0
      · subst hm0
        go_enter Tryd.func36, Tryd.ntmps36
        go_wp2_with fail
        go_ret2
        exact ⟨by rw [unhide HV]; rfl, Below.refl _ _⟩
      · have hm1 : ¬ (m : Int) = 0 := by omega
        go_enter Tryd.func36, Tryd.ntmps36
        go_wp2_with fail
        go_ret2
        exact ⟨by rw [unhide HV]; simp [hm0], Below.refl _ _⟩
    by_cases hm0 : m = 0
    · have HV := hide (upV_none (leaf := leaf) (p := p) (n := n) (pr := pr) h hn (by omega))
      clear ih hl ha hs hm
      subst hm0
      go_enter Tryd.func36, Tryd.ntmps36
      go_wp2_with fail
      go_ret2
      exact ⟨by rw [unhide HV]; rfl, Below.refl _ _⟩
    have hf := half_facts (n := n) h hn
    have HP := hide (l06Half_any n w h hn)
    have c0 := hs.cell (m - 1) (by omega)
    have hxs := ha (m - 1) (by omega)
    have et : (pr.take (m - 1)).length = m - 1 := by rw [List.length_take]; omega
    obtain ⟨j, hj⟩ : ∃ j : Nat, m = j + 1 := ⟨m - 1, by omega⟩
    by_cases hp : p < half n
    · have HV := hide (upV_lo (leaf := leaf) (p := p) (n := n) (pr := pr) h hn (by omega) hp)
      have HI := hide (ih (half n) (by omega) leaf p (pr.take (m - 1)) (m - 1) b off cap w (by omega) (by omega) hp et (by omega) hl (ha.take _) (hs.take _ (by omega)))
      have z1 := up_size (half n) leaf p (pr.take (m - 1)) (by omega) (by omega) hl (ha.take _)
      rw [hm] at HV
      clear ih hl ha hs hm et
      generalize pr.getD (m - 1) ByteArray.empty = x at *
      generalize (upV leaf p (half n) (pr.take (m - 1))).1 = u1 at *
      generalize (upV leaf p (half n) (pr.take (m - 1))).2 = u2 at *
      generalize half n = k at *
      subst hj
      simp only [Nat.add_sub_cancel] at *
      have HN := hide (fun wx => l06Node_le u1 x wx z1 (by omega))
      have k0 : (p : Int) < (k : Int) := by omega
      have k1 : (0 : Int) ≤ (j : Int) := by omega
      have k2 : (j : Int) < ((j + 1 : Nat) : Int) := by omega
      have k3 : ((j + 1 : Nat) : Int) - 1 = (j : Int) := by omega
      have k4 : (j : Int) ≤ (cap : Int) := by omega
      have k5 : ¬ ((j + 1 : Nat) : Int) = 0 := by omega
      go_enter Tryd.func36, Tryd.ntmps36
      go_wp2_with fail
      refine (unhide HP).mono ?_
      rintro e w9 ⟨rfl, hw9⟩
      subst w9
      go_wp2_with fail
      refine (unhide HI).mono ?_
      rintro e w1 ⟨rfl, hb1⟩
      have B1 := hide hb1
      clear hb1 c0
      go_wp2_with fail
      refine (unhide HN w1).mono ?_
      rintro e w2 ⟨rfl, hb2⟩
      have B2 := hide ((unhide B1).trans (hb2.mono (unhide B1).size))
      clear hb2
      go_wp2_with fail
      go_ret2
      exact ⟨by rw [unhide HV]; rfl, unhide B2⟩
    · have HV := hide (upV_hi (leaf := leaf) (p := p) (n := n) (pr := pr) h hn (by omega) hp)
      have HI := hide (ih (n - half n) (by omega) leaf (p - half n) (pr.take (m - 1)) (m - 1) b off cap w (by omega) (by omega) (by omega) et (by omega) hl (ha.take _) (hs.take _ (by omega)))
      have z1 := up_size (n - half n) leaf (p - half n) (pr.take (m - 1)) (by omega) (by omega) hl (ha.take _)
      rw [hm] at HV
      clear ih hl ha hs hm et
      generalize pr.getD (m - 1) ByteArray.empty = x at *
      generalize (upV leaf (p - half n) (n - half n) (pr.take (m - 1))).1 = u1 at *
      generalize (upV leaf (p - half n) (n - half n) (pr.take (m - 1))).2 = u2 at *
      generalize half n = k at *
      obtain ⟨q, hq⟩ : ∃ q : Nat, q = p - k := ⟨_, rfl⟩
      obtain ⟨n2, hn2⟩ : ∃ n2 : Nat, n2 = n - k := ⟨_, rfl⟩
      have k6 : (p : Int) - (k : Int) = (q : Int) := by omega
      have k7 : (n : Int) - (k : Int) = (n2 : Int) := by omega
      rw [← hq, ← hn2] at HI
      clear hq hn2
      subst hj
      simp only [Nat.add_sub_cancel] at *
      have HN := hide (fun wx => l06Node_le x u1 wx (by omega) z1)
      have k0 : ¬ (p : Int) < (k : Int) := by omega
      have k1 : (0 : Int) ≤ (j : Int) := by omega
      have k2 : (j : Int) < ((j + 1 : Nat) : Int) := by omega
      have k3 : ((j + 1 : Nat) : Int) - 1 = (j : Int) := by omega
      have k4 : (j : Int) ≤ (cap : Int) := by omega
      have k5 : ¬ ((j + 1 : Nat) : Int) = 0 := by omega
      go_enter Tryd.func36, Tryd.ntmps36
      go_wp2_with fail
      refine (unhide HP).mono ?_
      rintro e w9 ⟨rfl, hw9⟩
      subst w9
      go_wp2_with fail
      refine (unhide HI).mono ?_
      rintro e w1 ⟨rfl, hb1⟩
      have B1 := hide hb1
      clear hb1 c0
      go_wp2_with fail
      refine (unhide HN w1).mono ?_
      rintro e w2 ⟨rfl, hb2⟩
      have B2 := hide ((unhide B1).trans (hb2.mono (unhide B1).size))
      clear hb2
      go_wp2_with fail
      go_ret2
      exact ⟨by rw [unhide HV]; rfl, unhide B2⟩

/-- A slice of the call's own that holds these sides. -/
def OwnW (B : Nat) (w : World) (v : Value) (l : List Int) : Prop := w.ownsRow B 104 1 v l.length (l.map (Value.int .i64))
theorem OwnW.below {B : Nat} {w w' : World} {v : Value} {l : List Int} (h : OwnW B w v l) (hb : Below w.heap.size w w') : OwnW B w' v l := own_kept (T := fun _ => False) h (Touch.ofBelow hb) (fun _ _ h => h)
theorem OwnW.pushed {B g cap n : Nat} {w : World} {l : List Int} {t : Int} (h : w.ownsRow B 104 1 (.slice (some ⟨g, 0, none⟩) n cap) n (l.map (Value.int .i64) ++ [.int .i64 t])) : OwnW B w (.slice (some ⟨g, 0, none⟩) n cap) (l ++ [t]) := by
  have hn : n = (l ++ [t]).length := by have := h.1; simp at this; simp; omega
  unfold OwnW
  rw [← hn]
  simpa using h
theorem OwnW.cell {B : Nat} {w : World} {g cap n : Nat} {l : List Int} (h : OwnW B w (.slice (some ⟨g, 0, none⟩) n cap) l) (i : Nat) (hi : i < l.length) : w.cell? ⟨g, i, none⟩ = some (.int .i64 (l.getD i 0)) := by
  have hn : n = l.length := by
    rcases h.2 with ⟨hv, _⟩ | ⟨g', cap', cur, hv, _⟩
    · cases hv
    · cases hv; rfl
  subst hn
  rw [h.cellAt i (by omega)]
  simp [List.getD, hi]
theorem infoW : (Tryd.prog.info? 104).map (fun i => (i.zero, i.size, i.bytes)) = some (some (.int .i64 0), 1, 8) := by kernel_rfl
set_option maxRecDepth 100000 in
set_option maxHeartbeats 2000000 in
theorem wayUp_any : ∀ (n p : Nat) (w : World), 1 ≤ n → n ≤ 64 → p < n →
    Calls Tryd.prog 45 #[.int .i64 p, .int .i64 n] w fun e w' => ∃ v, e = .returned v ∧ OwnW w.heap.size w' v (wayV p n) ∧ Below w.heap.size w w' := by
  intro n
  induction n using Nat.strongRecOn with
  | ind n ih =>
    intro p w h1 hn hpn
    obtain ⟨i0, hi, hz0, hz1, hz2⟩ := info_parts infoW
    rcases (show n = 1 ∨ 2 ≤ n by omega) with h | h
    · subst h
      have HV := hide (wayV_one p)
      clear ih
      go_enter Tryd.func45, Tryd.ntmps45
      go_wp2_with fail
      go_ret
      exact ⟨_, rfl, by rw [unhide HV]; exact World.ownsRow_nil w _ 104 1, Below.refl _ _⟩
    have hf := half_facts (n := n) h hn
    have HP := hide (splitPlace_any n w h hn)
    by_cases hp : p < half n
    · have HV := hide (wayV_lo h hn hp)
      have HI := hide (ih (half n) (by omega) p w (by omega) (by omega) hp)
      have hpl := way_len (half n) p (by omega)
      clear ih
      generalize wayV p (half n) = p1 at *
      generalize half n = k at *
      have k0 : (p : Int) < (k : Int) := by omega
      go_enter Tryd.func45, Tryd.ntmps45
      go_wp2_with fail
      refine (unhide HP).mono ?_
      rintro e w9 ⟨rfl, hw9⟩
      subst w9
      go_wp2_with fail
      refine (unhide HI).mono ?_
      rintro e w2 ⟨v1, rfl, hO2, hb2⟩
      have O2 := hide hO2
      have B2 := hide hb2
      clear hO2 hb2
      go_wp2_with (at_builtin; refine wpList_append_lies _ rfl _ _ _ rfl w.heap.size 104 i0 _ 1 8 Tryd.underlying73 hi hz0 hz1 hz2 rfl (by omega) v1 p1.length (p1.map (Value.int .i64)) rfl (OwnW.below (unhide O2) ((Below.refl w2.heap.size w2).alloc (Nat.le_refl _) (.cells #[.int .i64 1] 104))) ⟨w2.heap.size, 0, none⟩ 1 1 [_] rfl rfl (World.news_of_block (cs := #[_]) (t := 104) (fr := (0, 0)) (heap_alloc_new w2 _)) (by simp [Value.oneCell']) (by omega) (by unfold maxLen; omega) (by omega) (by have := (unhide B2).size; simp; omega) _ rfl ?_; intro g3 cap3 w3 hown3 hgrow3 hat3 hlt3; have O3 := hide (OwnW.pushed hown3); have B3 := hide (((unhide B2).alloc (unhide B2).size (.cells #[.int .i64 1] 104)).grown hgrow3 (by have := (unhide B2).size; simp; omega) (fun r hr => ((unhide O2).lt r hr).1)); clear hown3 hgrow3 hat3 hlt3)
      go_ret
      exact ⟨_, rfl, by rw [unhide HV]; exact unhide O3, unhide B3⟩
    · have HV := hide (wayV_hi h hn hp)
      have HI := hide (ih (n - half n) (by omega) (p - half n) w (by omega) (by omega) (by omega))
      have hpl := way_len (n - half n) (p - half n) (by omega)
      clear ih
      generalize wayV (p - half n) (n - half n) = p1 at *
      generalize half n = k at *
      obtain ⟨q, hq⟩ : ∃ q : Nat, q = p - k := ⟨_, rfl⟩
      obtain ⟨n2, hn2⟩ : ∃ n2 : Nat, n2 = n - k := ⟨_, rfl⟩
      have k6 : (p : Int) - (k : Int) = (q : Int) := by omega
      have k7 : (n : Int) - (k : Int) = (n2 : Int) := by omega
      rw [← hq, ← hn2] at HI
      have hpl2 : p1.length ≤ 64 := by omega
      clear hq hn2 hpl
      have k0 : ¬ (p : Int) < (k : Int) := by omega
      go_enter Tryd.func45, Tryd.ntmps45
      go_wp2_with fail
      refine (unhide HP).mono ?_
      rintro e w9 ⟨rfl, hw9⟩
      subst w9
      go_wp2_with fail
      refine (unhide HI).mono ?_
      rintro e w2 ⟨v1, rfl, hO2, hb2⟩
      have O2 := hide hO2
      have B2 := hide hb2
      clear hO2 hb2
      go_wp2_with (at_builtin; refine wpList_append_lies _ rfl _ _ _ rfl w.heap.size 104 i0 _ 1 8 Tryd.underlying73 hi hz0 hz1 hz2 rfl (by omega) v1 p1.length (p1.map (Value.int .i64)) rfl (OwnW.below (unhide O2) ((Below.refl w2.heap.size w2).alloc (Nat.le_refl _) (.cells #[.int .i64 0] 104))) ⟨w2.heap.size, 0, none⟩ 1 1 [_] rfl rfl (World.news_of_block (cs := #[_]) (t := 104) (fr := (0, 0)) (heap_alloc_new w2 _)) (by simp [Value.oneCell']) (by omega) (by unfold maxLen; omega) (by omega) (by have := (unhide B2).size; simp; omega) _ rfl ?_; intro g3 cap3 w3 hown3 hgrow3 hat3 hlt3; have O3 := hide (OwnW.pushed hown3); have B3 := hide (((unhide B2).alloc (unhide B2).size (.cells #[.int .i64 0] 104)).grown hgrow3 (by have := (unhide B2).size; simp; omega) (fun r hr => ((unhide O2).lt r hr).1)); clear hown3 hgrow3 hat3 hlt3)
      go_ret
      exact ⟨_, rfl, by rw [unhide HV]; exact unhide O3, unhide B3⟩
end Go.Proofs.YtiiaehajcomfaaaDoor.Sha
