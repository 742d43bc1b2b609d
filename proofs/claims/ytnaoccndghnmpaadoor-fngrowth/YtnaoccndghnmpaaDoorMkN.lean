/- The worst of two codes: worstFault; NodeHash. -/
import Derived.Test.YtnaoccndghnmpaaDoorMkA
import Derived.Test.YtnaoccndghnmpaaDoorMkH
import Derived.Test.YtnaoccndghnmpaaDoorWst
namespace Go.Proofs.YtnaoccndghnmpaaDoor.Sha
open Go.ChangeShapes Go.WideShapes Go.ChangeAt Go.RowKit
set_option linter.unusedVariables false

theorem hfC_lo (s : ByteArray) : 0 ≤ hfC s := by unfold hfC; split <;> (try split) <;> omega
theorem mxI_ok {s t : ByteArray} (h : mxI (hfC s) (hfC t) = 0) : s.size = 32 ∧ t.size = 32 := by
  unfold mxI hfC at h
  constructor
  all_goals
    (repeat' split at h) <;> omega
/-- What NodeHash answers. -/
def nodeOut (a b : ByteArray) : Value := if mxI (hfC a) (hfC b) = 0 then .tuple #[.string (nodeV a b), .int .i64 0] else .tuple #[.string ⟨#[]⟩, .int .i64 (mxI (hfC a) (hfC b))]
set_option maxRecDepth 100000 in
set_option maxHeartbeats 1000000 in
theorem implNode_any (a b : ByteArray) (w : World) (ha : a.size ≤ 1048576) (hb : b.size ≤ 1048576) (ht : Tab w) :
    Calls Tryd.prog 24 #[.string a, .string b] w fun e w' => e = .returned (nodeOut a b) ∧ Below w.heap.size w w' := by
  have HT := hide ht
  have H1 := hide (hashFault_any a w (by unfold maxLen; omega))
  have H2 := hide (hashFault_any b w (by unfold maxLen; omega))
  have HO : Hid (nodeOut a b = if mxI (hfC a) (hfC b) = 0 then .tuple #[.string (nodeV a b), .int .i64 0] else .tuple #[.string ⟨#[]⟩, .int .i64 (mxI (hfC a) (hfC b))]) := rfl
  have HK := hide (mxI_ok (s := a) (t := b))
  have l1 := hfC_lo a
  have l2 := hfC_lo b
  clear ht
  generalize hfC a = c1 at *
  generalize hfC b = c2 at *
  have B0 := hide ((Below.refl w.heap.size w).alloc (Nat.le_refl _) (.cells #[.int .i64 c1, .int .i64 c2] 3))
  have HW := hide (worst_any c1 c2 w.heap.size (w.alloc (.cells #[.int .i64 c1, .int .i64 c2] 3)) l1 l2 (by rw [World.cell?_alloc_at _ _ _ _ rfl]; rfl) (by rw [World.cell?_alloc_at _ _ _ _ rfl]; rfl))
  generalize mxI c1 c2 = c at *
  go_enter Tryd.func24, Tryd.ntmps24
  go_wp2_with fail
  refine (unhide H1).mono ?_
  rintro e w9 ⟨rfl, hw⟩
  subst w9
  go_wp2_with fail
  refine (unhide H2).mono ?_
  rintro e w9 ⟨rfl, hw⟩
  subst w9
  go_wp2_with fail
  refine (unhide HW).mono ?_
  rintro e w9 ⟨rfl, hw⟩
  subst w9
  generalize w.alloc (.cells #[.int .i64 c1, .int .i64 c2] 3) = w1 at *
  by_cases hc : c = 0
  · have hab := hide (unhide HK hc)
    subst hc
    rw [if_pos rfl] at HO
    go_wp2_with fail
    refine (nodeHash_any a b w1 (unhide hab).1 (unhide hab).2 ((unhide HT).below (unhide B0))).mono ?_
    rintro e w2 ⟨rfl, hb2⟩
    have K := hide ((unhide B0).trans (hb2.mono (unhide B0).size))
    clear hb2
    go_wp2_with fail
    go_ret2
    exact ⟨by rw [unhide HO]; rfl, unhide K⟩
  · rw [if_neg hc] at HO
    go_wp2_with fail
    go_ret2
    exact ⟨by rw [unhide HO]; rfl, unhide B0⟩
set_option maxRecDepth 100000 in
set_option maxHeartbeats 1000000 in
theorem specNode_any (a b : ByteArray) (w : World) (ha : a.size ≤ 1048576) (hb : b.size ≤ 1048576) :
    Calls Tryd.prog 25 #[.string a, .string b] w fun e w' => e = .returned (nodeOut a b) ∧ Below w.heap.size w w' := by
  by_cases h1 : 65536 < a.size ∨ 65536 < b.size
  · have H : Hid (nodeOut a b = .tuple #[.string ⟨#[]⟩, .int .i64 2]) := hide (by
      have e : mxI (hfC a) (hfC b) = 2 := by unfold mxI hfC; repeat' split <;> omega
      unfold nodeOut; rw [e]; rfl)
    rcases (show 65536 < a.size ∨ (a.size ≤ 65536 ∧ 65536 < b.size) by omega) with h2 | ⟨h2, h3⟩
    all_goals
      clear h1
      go_enter Tryd.func25, Tryd.ntmps25
      go_wp2_with fail
      go_ret2
      exact ⟨by rw [unhide H]; rfl, Below.refl _ _⟩
  · have g1 : a.size ≤ 65536 := by omega
    have g2 : b.size ≤ 65536 := by omega
    clear h1
    by_cases h2 : a.size = 32
    · by_cases h3 : b.size = 32
      · have H : Hid (nodeOut a b = .tuple #[.string (nodeV a b), .int .i64 0]) := hide (by
          have e : mxI (hfC a) (hfC b) = 0 := by unfold mxI hfC; repeat' split <;> omega
          unfold nodeOut; rw [if_pos e])
        have HL := hide (l06Node_any a b w h2 h3)
        go_enter Tryd.func25, Tryd.ntmps25
        go_wp2_with fail
        refine (unhide HL).mono ?_
        rintro e w2 ⟨rfl, hb2⟩
        have K := hide hb2
        clear hb2
        go_wp2_with fail
        go_ret2
        exact ⟨by rw [unhide H]; rfl, unhide K⟩
      · have H : Hid (nodeOut a b = .tuple #[.string ⟨#[]⟩, .int .i64 1]) := hide (by
          have e : mxI (hfC a) (hfC b) = 1 := by unfold mxI hfC; repeat' split <;> omega
          unfold nodeOut; rw [e]; rfl)
        have h4 : (b.size : Int) ≠ 32 := by omega
        go_enter Tryd.func25, Tryd.ntmps25
        go_wp2_with fail
        go_ret2
        exact ⟨by rw [unhide H]; rfl, Below.refl _ _⟩
    · have H : Hid (nodeOut a b = .tuple #[.string ⟨#[]⟩, .int .i64 1]) := hide (by
        have e : mxI (hfC a) (hfC b) = 1 := by unfold mxI hfC; repeat' split <;> omega
        unfold nodeOut; rw [e]; rfl)
      have h4 : (a.size : Int) ≠ 32 := by omega
      go_enter Tryd.func25, Tryd.ntmps25
      go_wp2_with fail
      go_ret2
      exact ⟨by rw [unhide H]; rfl, Below.refl _ _⟩
end Go.Proofs.YtnaoccndghnmpaaDoor.Sha
