/- The hash of a log: treeHash, l06Tree; TreeHash. -/
import Derived.Test.YtnaoccndghnmpaaDoorMkA
import Derived.Test.YtnaoccndghnmpaaDoorMkH
namespace Go.Proofs.YtnaoccndghnmpaaDoor.Sha
open Go.ChangeShapes Go.WideShapes Go.ChangeAt Go.RowKit
set_option linter.unusedVariables false

theorem take_lt {l : List ByteArray} (h : ¬ (l.length < 2 ∨ 64 < l.length)) : (l.take (half l.length)).length < l.length := by
  have := half_facts (n := l.length) (by omega) (by omega)
  rw [List.length_take]; omega
theorem drop_lt {l : List ByteArray} (h : ¬ (l.length < 2 ∨ 64 < l.length)) : (l.drop (half l.length)).length < l.length := by
  have := half_facts (n := l.length) (by omega) (by omega)
  rw [List.length_drop]; omega
/-- The hash of a log. -/
def treeV (l : List ByteArray) : ByteArray :=
  if h : l.length < 2 ∨ 64 < l.length then (if l.length = 0 then hashV [] else l.getD 0 ByteArray.empty)
  else nodeV (treeV (l.take (half l.length))) (treeV (l.drop (half l.length)))
termination_by l.length
decreasing_by
  · exact take_lt h
  · exact drop_lt h
theorem treeV_none {l : List ByteArray} (h : l.length = 0) : treeV l = hashV [] := by rw [treeV, dif_pos (by omega), if_pos h]
theorem treeV_one {l : List ByteArray} (h : l.length = 1) : treeV l = l.getD 0 ByteArray.empty := by rw [treeV, dif_pos (by omega), if_neg (by omega)]
theorem treeV_two {l : List ByteArray} (h : 2 ≤ l.length) (h2 : l.length ≤ 64) : treeV l = nodeV (treeV (l.take (half l.length))) (treeV (l.drop (half l.length))) := by rw [treeV, dif_neg (by omega)]
def AllH (l : List ByteArray) : Prop := ∀ j, j < l.length → (l.getD j ByteArray.empty).size = 32
theorem AllH.take {l : List ByteArray} (h : AllH l) (k : Nat) : AllH (l.take k) := by
  intro j hj
  rw [List.length_take] at hj
  have := h j (by omega)
  rw [List.getD_eq_getElem?_getD] at this ⊢
  rw [List.getElem?_take, if_pos (by omega)]; exact this
theorem AllH.drop {l : List ByteArray} (h : AllH l) (k : Nat) : AllH (l.drop k) := by
  intro j hj
  rw [List.length_drop] at hj
  have := h (k + j) (by omega)
  rw [List.getD_eq_getElem?_getD] at this ⊢
  rw [List.getElem?_drop]; exact this
theorem tree_size : ∀ (n : Nat) (l : List ByteArray), l.length = n → n ≤ 64 → AllH l → (treeV l).size = 32 := by
  intro n
  induction n using Nat.strongRecOn with
  | ind n ih =>
    intro l hl hn ha
    rcases (show n = 0 ∨ n = 1 ∨ 2 ≤ n by omega) with h | h | h
    · rw [treeV_none (by omega)]; exact hash_size (by simp)
    · rw [treeV_one (by omega)]; exact ha 0 (by omega)
    · rw [treeV_two (by omega) (by omega)]
      have hf := half_facts (n := l.length) (by omega) (by omega)
      have e1 : (l.take (half l.length)).length = half l.length := by rw [List.length_take]; omega
      have e2 : (l.drop (half l.length)).length = l.length - half l.length := List.length_drop ..
      exact node_size (ih _ (by omega) _ e1 (by omega) (ha.take _)) (ih _ (by omega) _ e2 (by omega) (ha.drop _))

set_option maxRecDepth 100000 in
set_option maxHeartbeats 2000000 in
theorem treeHash_any : ∀ (n : Nat) (l : List ByteArray) (b off cap : Nat) (w : World), l.length = n → n ≤ 64 → AllH l → SA w b off cap l → Tab w →
    Calls Tryd.prog 29 #[.slice (some ⟨b, off, none⟩) n cap] w fun e w' => e = .returned (.string (treeV l)) ∧ Below w.heap.size w w' := by
  intro n
  induction n using Nat.strongRecOn with
  | ind n ih =>
    intro l b off cap w hl hn ha hs ht
    have HT := hide ht
    have HS := hide hs
    have HA := hide ha
    have HL := hide hl
    have hcap : n ≤ cap := by have := hs.le; omega
    have hcm : cap ≤ 9223372036854775807 := by have := hs.mx; unfold maxLen at this; omega
    rcases (show n = 0 ∨ n = 1 ∨ 2 ≤ n by omega) with h | h | h
    · have HV := hide (treeV_none (l := l) (by omega))
      have HH := hide (implHash_any (.slice none 0 0) [] w ⟨none, 0, rfl, by unfold maxLen; simp, .inl rfl, fun i => by simp⟩ ht.2 ht.1)
      clear ih hl ha hs ht
      subst h
      go_enter Tryd.func29, Tryd.ntmps29
      go_wp2_with fail
      refine (unhide HH).mono ?_
      rintro e w1 ⟨rfl, hb1⟩
      have K := hide hb1
      clear hb1
      rw [← unhide HV]
      go_wp2_with fail
      go_ret
      exact ⟨rfl, unhide K⟩
    · have HV := hide (treeV_one (l := l) (by omega))
      have c0 := hs.cell 0 (by omega)
      rw [Nat.add_zero] at c0
      clear ih hl ha hs ht
      subst h
      rw [← unhide HV] at c0
      go_enter Tryd.func29, Tryd.ntmps29
      go_wp2_with fail
      go_ret
      exact ⟨rfl, Below.refl _ _⟩
    · have HV := hide (treeV_two (l := l) (by omega) (by omega))
      have hf := half_facts (n := n) h hn
      have HP := hide (splitPlace_any n w h hn)
      rw [hl] at HV
      have z1 := tree_size (half n) (l.take (half n)) (by rw [List.length_take]; omega) (by omega) (ha.take _)
      have z2 := tree_size (n - half n) (l.drop (half n)) (by rw [List.length_drop]; omega) (by omega) (ha.drop _)
      have HZ := hide (And.intro z1 z2)
      have H1 : Hid (∀ wx, Below w.heap.size w wx → Calls Tryd.prog 29 #[.slice (some ⟨b, off, none⟩) (half n) cap] wx fun e w' => e = .returned (.string (treeV (l.take (half n)))) ∧ Below wx.heap.size wx w') := hide (fun wx hbx =>
        ih (half n) (by omega) (l.take (half n)) b off cap wx (by rw [List.length_take]; omega) (by omega) (ha.take _) ((hs.take _ (by omega)).below hbx) (ht.below hbx))
      have H2 : Hid (∀ wx, Below w.heap.size w wx → Calls Tryd.prog 29 #[.slice (some ⟨b, off + half n, none⟩) (n - half n) (cap - half n)] wx fun e w' => e = .returned (.string (treeV (l.drop (half n)))) ∧ Below wx.heap.size wx w') := hide (fun wx hbx =>
        ih (n - half n) (by omega) (l.drop (half n)) b (off + half n) (cap - half n) wx (by rw [List.length_drop]; omega) (by omega) (ha.drop _) ((hs.drop _ (by omega)).below hbx) (ht.below hbx))
      clear ih hl ha hs ht z1 z2
      generalize treeV (l.take (half n)) = t1 at *
      generalize treeV (l.drop (half n)) = t2 at *
      generalize half n = k at *
      have k0 : (0 : Int) ≤ (k : Int) := by omega
      have k1 : (k : Int) ≤ (n : Int) := by omega
      have k2 : (k : Int) ≤ (cap : Int) := by omega
      go_enter Tryd.func29, Tryd.ntmps29
      go_wp2_with fail
      refine (unhide HP).mono ?_
      rintro e w9 ⟨rfl, hw9⟩
      subst w9
      go_wp2_with fail
      go_region_held3 (fun _ => True) (trivial) (first
        | (go_at_call 56; refine (nodeHash_any t1 t2 _ (unhide HZ).1 (unhide HZ).2 ((unhide HT).below hb2)).mono ?_; rintro e w3 ⟨rfl, hb3⟩)
        | (go_at_call 29; refine (unhide H2 _ hb1).mono ?_; rintro e w2 ⟨rfl, hb2'⟩; have hb2 := hb1.trans (hb2'.mono hb1.size))
        | (go_at_call 29; refine (unhide H1 _ ((Below.refl _ w).drew)).mono ?_; rintro e w1 ⟨rfl, hb1'⟩; have hb1 := ((Below.refl _ w).drew).trans hb1'))
      have K := hide (hb2.trans (hb3.mono hb2.size))
      clear hb1' hb1 hb2' hb2 hb3
      rw [← unhide HV]
      go_wp2_with fail
      go_ret
      exact ⟨rfl, unhide K⟩
set_option maxRecDepth 100000 in
set_option maxHeartbeats 2000000 in
theorem l06Tree_any : ∀ (n : Nat) (l : List ByteArray) (b off cap : Nat) (w : World), l.length = n → n ≤ 64 → AllH l → SA w b off cap l →
    Calls Tryd.prog 31 #[.slice (some ⟨b, off, none⟩) n cap] w fun e w' => e = .returned (.string (treeV l)) ∧ Below w.heap.size w w' := by
  intro n
  induction n using Nat.strongRecOn with
  | ind n ih =>
    intro l b off cap w hl hn ha hs
    have HS := hide hs
    have HA := hide ha
    have HL := hide hl
    have hcap : n ≤ cap := by have := hs.le; omega
    have hcm : cap ≤ 9223372036854775807 := by have := hs.mx; unfold maxLen at this; omega
    rcases (show n = 0 ∨ n = 1 ∨ 2 ≤ n by omega) with h | h | h
    · have HV := hide (treeV_none (l := l) (by omega))
      have hV : Hid (hashV [] = strOfNums (textL (stAt [] (padLen 0 / 64)))) := hide (hashV_yes (by simp))
      have HH := hide (l01Hash_any ⟨w.heap.size, 0, none⟩ 0 [] (w.alloc (.cells #[] 5)) (own_empty w w.heap.size w.heap.size rfl (Nat.le_refl _)).bytes (by simp))
      have B0 := hide ((Below.refl w.heap.size w).alloc (Nat.le_refl _) (.cells #[] 5))
      simp only [List.length_nil] at HH
      clear ih hl ha hs
      subst h
      go_enter Tryd.func31, Tryd.ntmps31
      go_wp2_with fail
      refine (unhide HH).mono ?_
      rintro e w1 ⟨rfl, hb1⟩
      have K := hide ((unhide B0).trans (hb1.mono (unhide B0).size))
      clear hb1
      rw [← unhide hV, ← unhide HV]
      go_wp2_with fail
      go_ret
      exact ⟨rfl, unhide K⟩
    · have HV := hide (treeV_one (l := l) (by omega))
      have c0 := hs.cell 0 (by omega)
      rw [Nat.add_zero] at c0
      clear ih hl ha hs
      subst h
      rw [← unhide HV] at c0
      go_enter Tryd.func31, Tryd.ntmps31
      go_wp2_with fail
      go_ret
      exact ⟨rfl, Below.refl _ _⟩
    · have HV := hide (treeV_two (l := l) (by omega) (by omega))
      have hf := half_facts (n := n) h hn
      have HP := hide (l06Half_any n w h hn)
      rw [hl] at HV
      have z1 := tree_size (half n) (l.take (half n)) (by rw [List.length_take]; omega) (by omega) (ha.take _)
      have z2 := tree_size (n - half n) (l.drop (half n)) (by rw [List.length_drop]; omega) (by omega) (ha.drop _)
      have HZ := hide (And.intro z1 z2)
      have H1 : Hid (∀ wx, Below w.heap.size w wx → Calls Tryd.prog 31 #[.slice (some ⟨b, off, none⟩) (half n) cap] wx fun e w' => e = .returned (.string (treeV (l.take (half n)))) ∧ Below wx.heap.size wx w') := hide (fun wx hbx =>
        ih (half n) (by omega) (l.take (half n)) b off cap wx (by rw [List.length_take]; omega) (by omega) (ha.take _) ((hs.take _ (by omega)).below hbx))
      have H2 : Hid (∀ wx, Below w.heap.size w wx → Calls Tryd.prog 31 #[.slice (some ⟨b, off + half n, none⟩) (n - half n) (cap - half n)] wx fun e w' => e = .returned (.string (treeV (l.drop (half n)))) ∧ Below wx.heap.size wx w') := hide (fun wx hbx =>
        ih (n - half n) (by omega) (l.drop (half n)) b (off + half n) (cap - half n) wx (by rw [List.length_drop]; omega) (by omega) (ha.drop _) ((hs.drop _ (by omega)).below hbx))
      clear ih hl ha hs z1 z2
      generalize treeV (l.take (half n)) = t1 at *
      generalize treeV (l.drop (half n)) = t2 at *
      generalize half n = k at *
      have k0 : (0 : Int) ≤ (k : Int) := by omega
      have k1 : (k : Int) ≤ (n : Int) := by omega
      have k2 : (k : Int) ≤ (cap : Int) := by omega
      go_enter Tryd.func31, Tryd.ntmps31
      go_wp2_with fail
      refine (unhide HP).mono ?_
      rintro e w9 ⟨rfl, hw9⟩
      subst w9
      go_wp2_with fail
      go_region_held3 (fun _ => True) (trivial) (first
        | (go_at_call 64; refine (l06Node_any t1 t2 _ (unhide HZ).1 (unhide HZ).2).mono ?_; rintro e w3 ⟨rfl, hb3⟩)
        | (go_at_call 31; refine (unhide H2 _ hb1).mono ?_; rintro e w2 ⟨rfl, hb2'⟩; have hb2 := hb1.trans (hb2'.mono hb1.size))
        | (go_at_call 31; refine (unhide H1 _ ((Below.refl _ w).drew)).mono ?_; rintro e w1 ⟨rfl, hb1'⟩; have hb1 := ((Below.refl _ w).drew).trans hb1'))
      have K := hide (hb2.trans (hb3.mono hb2.size))
      clear hb1' hb1 hb2' hb2 hb3
      rw [← unhide HV]
      go_wp2_with fail
      go_ret
      exact ⟨rfl, unhide K⟩

/-- What TreeHash answers. -/
def treeOut (l : List ByteArray) : Value := if codeL l = 0 then .tuple #[.string (treeV l), .int .i64 0] else .tuple #[.string ⟨#[]⟩, .int .i64 (codeL l)]
set_option maxRecDepth 100000 in
set_option maxHeartbeats 1000000 in
theorem implTree_any (l : List ByteArray) (b off cap : Nat) (w : World) (h : SA w b off cap l) (hz : ∀ i, (l.getD i ByteArray.empty).size ≤ 1048576) (ht : Tab w) :
    Calls Tryd.prog 7 #[.slice (some ⟨b, off, none⟩) l.length cap] w fun e w' => e = .returned (treeOut l) ∧ Below w.heap.size w w' := by
  have HC := hide (hashesFault_any l b off cap w h hz)
  have HO : Hid (treeOut l = if codeL l = 0 then .tuple #[.string (treeV l), .int .i64 0] else .tuple #[.string ⟨#[]⟩, .int .i64 (codeL l)]) := rfl
  have HK := hide (fun hc : codeL l = 0 => treeHash_any l.length l b off cap w rfl (codeL_ok hc).1 (codeL_ok hc).2 h ht)
  clear h hz ht
  generalize codeL l = c at *
  go_enter Tryd.func7, Tryd.ntmps7
  go_wp2_with fail
  refine (unhide HC).mono ?_
  rintro e w9 ⟨rfl, hw9⟩
  subst w9
  by_cases hc : c = 0
  · have HG := hide (unhide HK hc)
    subst hc
    rw [if_pos rfl] at HO
    go_wp2_with fail
    refine (unhide HG).mono ?_
    rintro e w2 ⟨rfl, hb2⟩
    have K := hide hb2
    clear hb2
    go_wp2_with fail
    go_ret2
    exact ⟨by rw [unhide HO]; rfl, unhide K⟩
  · rw [if_neg hc] at HO
    go_wp2_with fail
    go_ret2
    exact ⟨by rw [unhide HO]; rfl, Below.refl _ _⟩
set_option maxRecDepth 100000 in
set_option maxHeartbeats 1000000 in
theorem specTree_any (l : List ByteArray) (b off cap : Nat) (w : World) (h : SA w b off cap l) (hz : ∀ i, (l.getD i ByteArray.empty).size ≤ 1048576) :
    Calls Tryd.prog 8 #[.slice (some ⟨b, off, none⟩) l.length cap] w fun e w' => e = .returned (treeOut l) ∧ Below w.heap.size w w' := by
  have hle : l.length ≤ 9223372036854775807 := by have := h.le; have := h.mx; unfold maxLen at this; omega
  by_cases h4 : 4096 < l.length
  · have H : Hid (treeOut l = .tuple #[.string ⟨#[]⟩, .int .i64 2]) := hide (by
      have e : codeL l = 2 := by unfold codeL; rw [if_pos h4]
      unfold treeOut; rw [e]; rfl)
    go_enter Tryd.func8, Tryd.ntmps8
    go_wp2_with fail
    go_ret2
    exact ⟨by rw [unhide H]; rfl, Below.refl _ _⟩
  have HC := hide (l06Code_any l b off cap w h hz)
  have HO : Hid (treeOut l = if codeL l = 0 then .tuple #[.string (treeV l), .int .i64 0] else .tuple #[.string ⟨#[]⟩, .int .i64 (codeL l)]) := rfl
  have HK := hide (fun hc : codeL l = 0 => l06Tree_any l.length l b off cap w rfl (codeL_ok hc).1 (codeL_ok hc).2 h)
  clear h hz
  generalize codeL l = c at *
  go_enter Tryd.func8, Tryd.ntmps8
  go_wp2_with fail
  refine (unhide HC).mono ?_
  rintro e w9 ⟨rfl, hw9⟩
  subst w9
  by_cases hc : c = 0
  · have HG := hide (unhide HK hc)
    subst hc
    rw [if_pos rfl] at HO
    go_wp2_with fail
    refine (unhide HG).mono ?_
    rintro e w2 ⟨rfl, hb2⟩
    have K := hide hb2
    clear hb2
    go_wp2_with fail
    go_ret2
    exact ⟨by rw [unhide HO]; rfl, unhide K⟩
  · rw [if_neg hc] at HO
    go_wp2_with fail
    go_ret2
    exact ⟨by rw [unhide HO]; rfl, Below.refl _ _⟩
end Go.Proofs.YtnaoccndghnmpaaDoor.Sha
