/- spec.InclusionRoot. -/
import Derived.Test.YtnaoccndghnmpaaDoorMkV
namespace Go.Proofs.YtnaoccndghnmpaaDoor.Sha
open Go.ChangeShapes Go.WideShapes Go.ChangeAt Go.RowKit
set_option linter.unusedVariables false
set_option linter.unusedSimpArgs false

theorem worst_two {leaf : ByteArray} {pr : List ByteArray} (h : 65536 < leaf.size ∨ 4096 < pr.length) : mxI (hfC leaf) (codeL pr) = 2 := by
  rcases h with h | h
  · have e : hfC leaf = 2 := by unfold hfC; rw [if_pos h]
    rw [e]; rcases codeL_cases pr with e2 | e2 | e2 <;> rw [e2] <;> rfl
  · have e : codeL pr = 2 := by unfold codeL; rw [if_pos h]
    rw [e]; rcases hfC_cases leaf with e2 | e2 | e2 <;> rw [e2] <;> rfl
theorem worst_bad {leaf : ByteArray} {pr : List ByteArray} (h1 : leaf.size ≤ 65536) (h2 : pr.length ≤ 4096) (h : (decide (pr.length ≤ 64) && allH pr) = false ∨ leaf.size ≠ 32) : mxI (hfC leaf) (codeL pr) = 1 := by
  have a1 : hfC leaf = if leaf.size = 32 then 0 else 1 := by unfold hfC; rw [if_neg (by omega)]
  have a2 : codeL pr = if (decide (pr.length ≤ 64) && allH pr) = true then 0 else 1 := by unfold codeL; rw [if_neg (by omega)]; simp
  rw [a1, a2]
  rcases h with h | h
  · rw [h]; split <;> rfl
  · rw [if_neg h]; split <;> rfl
theorem worst_ok {leaf : ByteArray} {pr : List ByteArray} (h1 : leaf.size = 32) (h2 : pr.length ≤ 4096) (h : (decide (pr.length ≤ 64) && allH pr) = true) : mxI (hfC leaf) (codeL pr) = 0 ∧ pr.length ≤ 64 ∧ AllH pr := by
  have a1 : hfC leaf = 0 := by unfold hfC; rw [if_neg (by omega), if_pos h1]
  have a2 : codeL pr = 0 := by unfold codeL; rw [if_neg (by omega), if_pos (by simpa using h)]
  exact ⟨by rw [a1, a2]; rfl, codeL_ok a2⟩
set_option maxRecDepth 100000 in
set_option maxHeartbeats 2000000 in
theorem specRoot_any (leaf : ByteArray) (p n : Int) (pr : List ByteArray) (b off cap : Nat) (w : World) (hz : leaf.size ≤ 1048576) (hn : (Lit.int .i64 n).wf = true) (hs : SA w b off cap pr) (hpz : ∀ i, (pr.getD i ByteArray.empty).size ≤ 1048576) :
    Calls Tryd.prog 15 #[.string leaf, .int .i64 p, .int .i64 n, .slice (some ⟨b, off, none⟩) pr.length cap] w fun e w' => e = .returned (.tuple #[.string (rootOut leaf p n pr).1, .int .i64 (rootOut leaf p n pr).2]) ∧ Below w.heap.size w w' := by
  have hle : pr.length ≤ 9223372036854775807 := by have := hs.le; have := hs.mx; unfold maxLen at this; omega
  have HO : Hid (rootOut leaf p n pr = if mxI (hfC leaf) (codeL pr) = 0 then
    (if inB n 1 64 = true ∧ inB p 0 (n - 1) = true then
      (if pr.length = (wayV p.toNat n.toNat).length then (((wayV p.toNat n.toNat).zip pr).foldl climbV leaf, 0) else (⟨#[]⟩, 10))
    else (⟨#[]⟩, 4))
    else (⟨#[]⟩, mxI (hfC leaf) (codeL pr))) := rfl
  by_cases g1 : 65536 < leaf.size
  · have hw := worst_two (pr := pr) (.inl g1)
    rw [hw, if_neg (by omega)] at HO
    clear hs hpz
    go_enter Tryd.func15, Tryd.ntmps15
    go_wp2_with fail
    go_ret2
    exact ⟨by rw [unhide HO]; rfl, Below.refl _ _⟩
  by_cases g2 : 4096 < pr.length
  · have hw := worst_two (leaf := leaf) (.inr g2)
    rw [hw, if_neg (by omega)] at HO
    clear hs hpz
    go_enter Tryd.func15, Tryd.ntmps15
    go_wp2_with fail
    go_ret2
    exact ⟨by rw [unhide HO]; rfl, Below.refl _ _⟩
  have H2 := hide (l06Hashes_any pr b off cap w hs hpz)
  have HB := hide (worst_bad (leaf := leaf) (pr := pr) (by omega) (by omega))
  have HK := hide (fun h => worst_ok (leaf := leaf) (pr := pr) h (by omega))
  have HS := hide hs
  clear hs hpz
  generalize (decide (pr.length ≤ 64) && allH pr) = bb at *
  generalize mxI (hfC leaf) (codeL pr) = c at *
  go_enter Tryd.func15, Tryd.ntmps15
  go_wp2_with fail
  refine (unhide H2).mono ?_
  rintro e w9 ⟨rfl, hw⟩
  subst w9
  cases bb
  · have hc := unhide HB (.inl rfl)
    subst hc
    rw [if_neg (by omega)] at HO
    go_wp2_with fail
    go_ret2
    exact ⟨by rw [unhide HO]; rfl, Below.refl _ _⟩
  rcases (show ¬ leaf.size = 32 ∨ leaf.size = 32 by omega) with h32 | h32
  · have hc := unhide HB (.inr h32)
    subst hc
    rw [if_neg (by omega)] at HO
    have h4 : (leaf.size : Int) ≠ 32 := by omega
    go_wp2_with fail
    go_ret2
    exact ⟨by rw [unhide HO]; rfl, Below.refl _ _⟩
  obtain ⟨hc, hpl, hah⟩ := unhide HK h32 rfl
  subst hc
  rw [if_pos rfl] at HO
  have HAH := hide hah
  clear HB HK H2 hah
  have I1 := hide (l01In_any n 1 64 w)
  have I2 := hide (inB_iff (n := n) (lo := 1) (hi := 64))
  generalize inB n 1 64 = b1 at *
  go_wp2_with fail
  refine (unhide I1).mono ?_
  rintro e w9 ⟨rfl, hw⟩
  subst w9
  cases b1
  · rw [if_neg (by simp)] at HO
    go_wp2_with fail
    go_ret2
    exact ⟨by rw [unhide HO]; rfl, Below.refl _ _⟩
  obtain ⟨n0, n1⟩ := (unhide I2).1 rfl
  have I3 := hide (l01In_any p 0 (n - 1) w)
  have I4 := hide (inB_iff (n := p) (lo := 0) (hi := n - 1))
  generalize inB p 0 (n - 1) = b2 at *
  go_wp2_with fail
  refine (unhide I3).mono ?_
  rintro e w9 ⟨rfl, hw⟩
  subst w9
  cases b2
  · rw [if_neg (by simp)] at HO
    go_wp2_with fail
    go_ret2
    exact ⟨by rw [unhide HO]; rfl, Below.refl _ _⟩
  obtain ⟨p0, p1⟩ := (unhide I4).1 rfl
  rw [if_pos (by simp)] at HO
  obtain ⟨pn, rfl⟩ : ∃ q : Nat, p = (q : Int) := ⟨p.toNat, by omega⟩
  obtain ⟨nn, rfl⟩ : ∃ q : Nat, n = (q : Int) := ⟨n.toNat, by omega⟩
  rw [Int.toNat_natCast, Int.toNat_natCast] at HO
  have HU := hide (l06Up_any nn leaf pn pr pr.length b off cap w (by omega) (by omega) (by omega) rfl hpl h32 (unhide HAH) (unhide HS))
  obtain ⟨u1, u2⟩ := up_way nn leaf pn pr (by omega) (by omega)
  have HU1 := hide u1
  have HU2 := hide u2
  clear I1 I2 I3 I4 u1 u2
  generalize (upV leaf pn nn pr).1 = x at *
  generalize (upV leaf pn nn pr).2 = ok at *
  go_wp2_with fail
  refine (unhide HU).mono ?_
  rintro e w2 ⟨rfl, hb2⟩
  have B2 := hide hb2
  clear hb2 HU
  by_cases hpw : pr.length = (wayV pn nn).length
  · rw [if_pos hpw, ← unhide HU2 hpw] at HO
    have hok := unhide HU1
    rw [decide_eq_true hpw] at hok
    subst hok
    clear HU1 HU2 hpw
    go_wp2_with fail
    go_ret2
    exact ⟨by rw [unhide HO]; rfl, unhide B2⟩
  · rw [if_neg hpw] at HO
    have hok := unhide HU1
    rw [decide_eq_false hpw] at hok
    subst hok
    clear HU1 HU2 hpw
    go_wp2_with fail
    go_ret2
    exact ⟨by rw [unhide HO]; rfl, unhide B2⟩
end Go.Proofs.YtnaoccndghnmpaaDoor.Sha
