/- spec.InclusionProof of right arguments: its proof is never a nil slice. -/
import Derived.Test.YtcaadcdjipdjeaaDoorMkI
namespace Go.Proofs.YtcaadcdjipdjeaaDoor.Sha
open Go.ChangeShapes Go.WideShapes Go.ChangeAt Go.RowKit
set_option linter.unusedVariables false

theorem path_some {n : Nat} {l : List ByteArray} {p : Nat} (hl : l.length = n) (h2 : 2 ≤ n) (h64 : n ≤ 64) : (pathV l p).length ≠ 0 := by
  by_cases hlt : p < half l.length
  · rw [pathV_lo (by omega) (by omega) hlt]; simp
  · rw [pathV_hi (by omega) (by omega) hlt]; simp
set_option maxRecDepth 100000 in
set_option maxHeartbeats 1000000 in
theorem l06Path_own (l : List ByteArray) (p b off cap : Nat) (w : World) (h1 : 1 ≤ l.length) (h64 : l.length ≤ 64) (hp : p < l.length) (ha : AllH l) (hs : SA w b off cap l) :
    Calls Tryd.prog 16 #[.slice (some ⟨b, off, none⟩) l.length cap, .int .i64 p] w fun e w' => ∃ g c, e = .returned (.slice (some ⟨g, 0, none⟩) (pathV l p).length c) ∧ OwnS w.heap.size w' (.slice (some ⟨g, 0, none⟩) (pathV l p).length c) (pathV l p) ∧ Below w.heap.size w w' := by
  rcases (show l.length = 1 ∨ 2 ≤ l.length by omega) with h | h
  · have HV := hide (pathV_one (l := l) (by omega) p)
    have hcap : 1 ≤ cap := by have := hs.le; omega
    have hcm : cap ≤ 9223372036854775807 := by have := hs.mx; unfold maxLen at this; omega
    rw [h]
    clear ha hs
    go_enter Tryd.func16, Tryd.ntmps16
    go_wp2_with fail
    go_ret
    exact ⟨w.heap.size, 0, by rw [unhide HV]; rfl, by rw [unhide HV]; exact own_noneS w _ _ rfl (Nat.le_refl _), (Below.refl _ _).alloc (Nat.le_refl _) _⟩
  · refine (l06Path_any l.length l p b off cap w rfl h1 h64 hp ha hs).mono ?_
    rintro e w' ⟨v, rfl, hO, hb⟩
    rcases _root_.Go.Proofs.YtcaadcdjipdjeaaDoor.own_shape hO with ⟨rfl, h0⟩ | ⟨g, c, rfl, _⟩
    · exact absurd h0 (path_some rfl h h64)
    · exact ⟨g, c, rfl, hO, hb⟩
set_option maxRecDepth 100000 in
set_option maxHeartbeats 1000000 in
theorem specInc_own (l : List ByteArray) (p : Nat) (b off cap : Nat) (w : World) (h1 : 1 ≤ l.length) (h64 : l.length ≤ 64) (hp : p < l.length) (ha : AllH l) (hs : SA w b off cap l) (hz : ∀ i, (l.getD i ByteArray.empty).size ≤ 1048576) :
    Calls Tryd.prog 6 #[.slice (some ⟨b, off, none⟩) l.length cap, .int .i64 p] w fun e w' => ∃ g c, e = .returned (.tuple #[.slice (some ⟨g, 0, none⟩) (pathV l p).length c, .int .i64 0]) ∧ OwnS w.heap.size w' (.slice (some ⟨g, 0, none⟩) (pathV l p).length c) (pathV l p) ∧ Below w.heap.size w w' := by
  have hle : l.length ≤ 9223372036854775807 := by omega
  have HC := hide (l06Code_any l b off cap w hs hz)
  have HG := hide (l06Path_own l p b off cap w h1 h64 hp ha hs)
  have hc0 : codeL l = 0 := by unfold codeL; rw [if_neg (by omega), if_pos ⟨h64, allH_yes ha⟩]
  rw [hc0] at HC
  have HW := hide (l01In_any (p : Int) 0 ((l.length : Int) - 1) w)
  have HI : inB (p : Int) 0 ((l.length : Int) - 1) = true := (inB_iff (n := (p : Int)) (lo := 0) (hi := (l.length : Int) - 1)).2 ⟨by omega, by omega⟩
  rw [HI] at HW
  clear hs hz ha hc0 HI
  generalize pathV l p = pt at *
  go_enter Tryd.func6, Tryd.ntmps6
  go_wp2_with fail
  refine (unhide HC).mono ?_
  rintro e w9 ⟨rfl, hw9⟩
  subst w9
  go_wp2_with fail
  refine (unhide HW).mono ?_
  rintro e w9 ⟨rfl, hw9⟩
  subst w9
  go_wp2_with fail
  refine (unhide HG).mono ?_
  rintro e w2 ⟨g, c, rfl, hO, hb2⟩
  have K := hide (And.intro hO hb2)
  clear hO hb2
  go_wp2_with fail
  go_ret2
  exact ⟨g, c, rfl, (unhide K).1, (unhide K).2⟩
end Go.Proofs.YtcaadcdjipdjeaaDoor.Sha
