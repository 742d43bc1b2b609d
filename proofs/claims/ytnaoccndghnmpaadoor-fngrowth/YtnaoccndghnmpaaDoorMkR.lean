/- InclusionRoot of a proof as InclusionProof answers it: a nil slice where the log has one leaf. -/
import Derived.Test.YtnaoccndghnmpaaDoorMkM
import Derived.Test.YtnaoccndghnmpaaDoorMkW
namespace Go.Proofs.YtnaoccndghnmpaaDoor.Sha
open Go.ChangeShapes Go.WideShapes Go.ChangeAt Go.RowKit
set_option linter.unusedVariables false

set_option maxRecDepth 100000 in
theorem indexFunc_nil (w : World) : Calls Tryd.prog 88 #[.slice none 0 0, .func (.func 59) #[] #[]] w fun e w' => e = .returned (.int .i64 (-1)) ∧ w' = w := by
  go_enter Tryd.func88, Tryd.ntmps88
  go_wp2_with fail
  go_loop [8] (fun i => i = .int .i64 0) (fun i => 0)
  case atStart => rfl
  case round =>
    obtain rfl := hrel
    go_wp2_with fail
    go_ret
    exact ⟨rfl, rfl⟩
set_option maxRecDepth 100000 in
theorem containsFunc_nil (w : World) : Calls Tryd.prog 68 #[.slice none 0 0, .func (.func 59) #[] #[]] w fun e w' => e = .returned (.bool false) ∧ w' = w := by
  go_enter Tryd.func68, Tryd.ntmps68
  go_wp2_with fail
  refine (indexFunc_nil w).mono ?_
  rintro e w' ⟨rfl, hw⟩
  subst w'
  go_wp2_with fail
  go_ret
  exact ⟨rfl, rfl⟩
set_option maxRecDepth 100000 in
theorem hashesFault_nil (w : World) : Calls Tryd.prog 28 #[.slice none 0 0] w fun e w' => e = .returned (.int .i64 0) ∧ w' = w := by
  go_enter Tryd.func28, Tryd.ntmps28
  go_wp2_with fail
  refine (containsFunc_nil w).mono ?_
  rintro e w' ⟨rfl, hw⟩
  subst w'
  go_wp2_with fail
  go_ret
  exact ⟨rfl, rfl⟩
set_option maxRecDepth 100000 in
theorem turnsOf_nil (wv : Value) (B : Nat) (w : World) (hw : OwnW B w wv []) : Calls Tryd.prog 40 #[wv, .slice none 0 0] w fun e w' => e = .returned (.slice none 0 0) ∧ w' = w := by
  obtain ⟨wa, wc, rfl⟩ : ∃ a c, wv = .slice a 0 c := by
    rcases _root_.Go.Proofs.YtnaoccndghnmpaaDoor.own_shape hw with ⟨rfl, h0⟩ | ⟨g, c, rfl, _⟩
    · exact ⟨none, 0, rfl⟩
    · exact ⟨_, _, rfl⟩
  clear hw
  go_enter Tryd.func40, Tryd.ntmps40
  go_wp2_with fail
  go_loopw [5, 10] (fun ov i wr => ov = .slice none 0 0 ∧ i = .int .i64 0 ∧ wr = w) (fun _ _ _ => 0)
  case atStart => exact ⟨rfl, rfl, rfl⟩
  case round =>
    obtain ⟨rfl, rfl, hwr⟩ := hrel
    subst wr
    go_wp2_with fail
    go_ret
    exact ⟨rfl, rfl⟩
set_option maxRecDepth 100000 in
set_option maxHeartbeats 1000000 in
theorem implRoot_nil (leaf : ByteArray) (w : World) (hz : leaf.size = 32) (ht : Tab w) :
    Calls Tryd.prog 12 #[.string leaf, .int .i64 0, .int .i64 1, .slice none 0 0] w fun e w' => e = .returned (.tuple #[.string leaf, .int .i64 0]) ∧ Below w.heap.size w w' := by
  have H1 := hide (hashFault_any leaf w (by unfold maxLen; omega))
  have e1 : hfC leaf = 0 := by unfold hfC; rw [if_neg (by omega), if_pos hz]
  rw [e1] at H1
  have HT := hide ht
  clear ht e1
  have B0 := hide ((Below.refl w.heap.size w).alloc (Nat.le_refl _) (.cells #[.int .i64 0, .int .i64 0] 3))
  have HW := hide (worst_any 0 0 w.heap.size (w.alloc (.cells #[.int .i64 0, .int .i64 0] 3)) (by omega) (by omega) (by rw [World.cell?_alloc_at _ _ _ _ rfl]; rfl) (by rw [World.cell?_alloc_at _ _ _ _ rfl]; rfl))
  go_enter Tryd.func12, Tryd.ntmps12
  go_wp2_with fail
  refine (unhide H1).mono ?_
  rintro e w9 ⟨rfl, hw⟩
  subst w9
  go_wp2_with fail
  refine (hashesFault_nil w).mono ?_
  rintro e w9 ⟨rfl, hw⟩
  subst w9
  go_wp2_with fail
  refine (unhide HW).mono ?_
  rintro e w9 ⟨rfl, hw⟩
  subst w9
  generalize w.alloc (.cells #[.int .i64 0, .int .i64 0] 3) = w1 at *
  have em : mxI 0 0 = 0 := rfl
  rw [em]
  clear HW H1
  go_wp2_with fail
  refine (within_any 1 1 64 w1).mono ?_
  rintro e w9 ⟨rfl, hw⟩
  subst w9
  rw [show inB 1 1 64 = true from rfl]
  go_wp2_with fail
  refine (within_any 0 0 0 w1).mono ?_
  rintro e w9 ⟨rfl, hw⟩
  subst w9
  rw [show inB 0 0 0 = true from rfl]
  go_wp2_with fail
  refine (wayUp_any 1 0 w1 (by omega) (by omega) (by omega)).mono ?_
  rintro e w2 ⟨wv, rfl, hO2, hb2⟩
  rw [wayV_one] at hO2
  have B2 := hide ((unhide B0).trans (hb2.mono (unhide B0).size))
  have HTO := hide (turnsOf_nil wv _ w2 hO2)
  obtain ⟨wa, wc, rfl⟩ : ∃ a c, wv = .slice a 0 c := by
    rcases _root_.Go.Proofs.YtnaoccndghnmpaaDoor.own_shape hO2 with ⟨rfl, h0⟩ | ⟨g, c, rfl, _⟩
    · exact ⟨none, 0, rfl⟩
    · exact ⟨_, _, rfl⟩
  clear hO2 hb2 B0
  go_wp2_with fail
  refine (unhide HTO).mono ?_
  rintro e w9 ⟨rfl, hw⟩
  subst w9
  clear HTO
  go_wp2_with fail
  refine (foldT_any (.slice none 0 0) [] leaf 0 w2 (World.ownsRow_nil _ _ 60 2) (by simp) (fun i hi => by simp at hi) hz ((unhide HT).below (unhide B2))).mono ?_
  rintro e w4 ⟨rfl, hb4⟩
  have B4 := hide ((unhide B2).trans (hb4.mono (unhide B2).size))
  clear hb4 B2
  go_wp2_with fail
  go_ret2
  exact ⟨rfl, unhide B4⟩
set_option maxRecDepth 100000 in
theorem l06Hashes_nil (w : World) : Calls Tryd.prog 43 #[.slice none 0 0] w fun e w' => e = .returned (.bool true) ∧ w' = w := by
  go_enter Tryd.func43, Tryd.ntmps43
  go_wp2_with fail
  go_loop [3] (fun i => i = .int .i64 0) (fun i => 0)
  case atStart => rfl
  case round =>
    obtain rfl := hrel
    go_wp2_with fail
    go_ret
    exact ⟨rfl, rfl⟩
set_option maxRecDepth 100000 in
theorem l06Up_nil (leaf : ByteArray) (w : World) : Calls Tryd.prog 44 #[.string leaf, .int .i64 0, .int .i64 1, .slice none 0 0] w fun e w' => e = .returned (.tuple #[.string leaf, .bool true]) ∧ w' = w := by
  go_enter Tryd.func44, Tryd.ntmps44
  go_wp2_with fail
  go_ret2
  exact ⟨rfl, rfl⟩
set_option maxRecDepth 100000 in
theorem specRoot_nil (leaf : ByteArray) (w : World) (hz : leaf.size = 32) :
    Calls Tryd.prog 15 #[.string leaf, .int .i64 0, .int .i64 1, .slice none 0 0] w fun e w' => e = .returned (.tuple #[.string leaf, .int .i64 0]) ∧ Below w.heap.size w w' := by
  have hzi : (leaf.size : Int) = 32 := by omega
  go_enter Tryd.func15, Tryd.ntmps15
  go_wp2_with fail
  refine (l06Hashes_nil w).mono ?_
  rintro e w9 ⟨rfl, hw⟩
  subst w9
  go_wp2_with fail
  refine (l01In_any 1 1 64 w).mono ?_
  rintro e w9 ⟨rfl, hw⟩
  subst w9
  rw [show inB 1 1 64 = true from rfl]
  go_wp2_with fail
  refine (l01In_any 0 0 0 w).mono ?_
  rintro e w9 ⟨rfl, hw⟩
  subst w9
  rw [show inB 0 0 0 = true from rfl]
  go_wp2_with fail
  refine (l06Up_nil leaf w).mono ?_
  rintro e w9 ⟨rfl, hw⟩
  subst w9
  go_wp2_with fail
  go_ret2
  exact ⟨rfl, Below.refl _ _⟩
theorem wf_small {n : Nat} (h : n ≤ 64) : (Lit.int .i64 (n : Int)).wf = true := by
  have : ∀ m : Fin 65, (Lit.int .i64 (m.val : Int)).wf = true := by decide +kernel
  exact this ⟨n, by omega⟩
theorem path_ne {n : Nat} {l : List ByteArray} {p : Nat} (hl : l.length = n) (h2 : 2 ≤ n) (h64 : n ≤ 64) : (pathV l p).length ≠ 0 := by
  by_cases hlt : p < half l.length
  · rw [pathV_lo (by omega) (by omega) hlt]; simp
  · rw [pathV_hi (by omega) (by omega) hlt]; simp
/-- The program's, for a proof in a slice of one's own. -/
theorem implRoot_own {L : List ByteArray} {n p : Nat} {leaf : ByteArray} {v : Value} {B : Nat} {w : World} (hl : L.length = n) (h1 : 1 ≤ n) (h64 : n ≤ 64) (hp : p < n) (hA : AllH L) (hs : leaf.size = 32) (hO : OwnS B w v (pathV L p)) (ht : Tab w) :
    Calls Tryd.prog 12 #[.string leaf, .int .i64 p, .int .i64 n, v] w fun e w' => e = .returned (.tuple #[.string (rootOut leaf p n (pathV L p)).1, .int .i64 0]) ∧ Below w.heap.size w w' := by
  have hpA := path_hash n L p hl h64 hA
  have e2 : (rootOut leaf p n (pathV L p)).2 = 0 := by rw [root_any hl h1 h64 hp hA hs]
  rcases _root_.Go.Proofs.YtnaoccndghnmpaaDoor.own_shape hO with ⟨rfl, h0⟩ | ⟨g, c, rfl, _⟩
  · have hn : n = 1 := by
      rcases (show n = 1 ∨ 2 ≤ n by omega) with h | h
      · exact h
      · exact absurd h0 (path_ne hl h h64)
    subst hn
    obtain rfl : p = 0 := by omega
    have e1 : rootOut leaf ((0 : Nat) : Int) ((1 : Nat) : Int) (pathV L 0) = (leaf, 0) := by rw [root_any hl h1 h64 hp hA hs, wayV_one]; rfl
    rw [e1]
    exact implRoot_nil leaf w hs ht
  · have := implRoot_any leaf (p : Int) (n : Int) (pathV L p) g 0 c w (by omega) (wf_small h64) (SA.own hO) (fun i => by
      rcases Nat.lt_or_ge i (pathV L p).length with h | h
      · rw [hpA i h]; omega
      · rw [List.getD_eq_getElem?_getD, List.getElem?_eq_none h]; simp) ht
    rw [e2] at this
    exact this
theorem specRoot_own {L : List ByteArray} {n p : Nat} {leaf : ByteArray} {v : Value} {B : Nat} {w : World} (hl : L.length = n) (h1 : 1 ≤ n) (h64 : n ≤ 64) (hp : p < n) (hA : AllH L) (hs : leaf.size = 32) (hO : OwnS B w v (pathV L p)) :
    Calls Tryd.prog 15 #[.string leaf, .int .i64 p, .int .i64 n, v] w fun e w' => e = .returned (.tuple #[.string (rootOut leaf p n (pathV L p)).1, .int .i64 0]) ∧ Below w.heap.size w w' := by
  have hpA := path_hash n L p hl h64 hA
  have e2 : (rootOut leaf p n (pathV L p)).2 = 0 := by rw [root_any hl h1 h64 hp hA hs]
  rcases _root_.Go.Proofs.YtnaoccndghnmpaaDoor.own_shape hO with ⟨rfl, h0⟩ | ⟨g, c, rfl, _⟩
  · have hn : n = 1 := by
      rcases (show n = 1 ∨ 2 ≤ n by omega) with h | h
      · exact h
      · exact absurd h0 (path_ne hl h h64)
    subst hn
    obtain rfl : p = 0 := by omega
    have e1 : rootOut leaf ((0 : Nat) : Int) ((1 : Nat) : Int) (pathV L 0) = (leaf, 0) := by rw [root_any hl h1 h64 hp hA hs, wayV_one]; rfl
    rw [e1]
    exact specRoot_nil leaf w hs
  · have := specRoot_any leaf (p : Int) (n : Int) (pathV L p) g 0 c w (by omega) (wf_small h64) (SA.own hO) (fun i => by
      rcases Nat.lt_or_ge i (pathV L p).length with h | h
      · rw [hpA i h]; omega
      · rw [List.getD_eq_getElem?_getD, List.getElem?_eq_none h]; simp)
    rw [e2] at this
    exact this
end Go.Proofs.YtnaoccndghnmpaaDoor.Sha
