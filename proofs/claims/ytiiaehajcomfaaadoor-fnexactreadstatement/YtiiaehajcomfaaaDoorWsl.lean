/- The worst of a list of codes: worstFault; texts that are held against each other. -/
import Derived.Test.YtiiaehajcomfaaaDoorWst
import Derived.Test.YtiiaehajcomfaaaDoorMkH
namespace Go.Proofs.YtiiaehajcomfaaaDoor.Sha
open Go.ChangeShapes Go.WideShapes Go.ChangeAt Go.RowKit
set_option linter.unusedVariables false

set_option maxRecDepth 100000 in
theorem worstL_any (l : List Int) (b cap : Nat) (w : World) (hl : l.length ≤ 1000) (hc : ∀ i, i < l.length → w.cell? ⟨b, i, none⟩ = some (.int .i64 (l.getD i 0))) :
    Calls Tryd.prog 41 #[.slice (some ⟨b, 0, none⟩) l.length cap] w fun e w' => e = .returned (.int .i64 (mxTo l l.length)) ∧ w' = w := by
  have HF := hide (foldInt_any l b cap w hl hc)
  clear hc
  go_enter Tryd.func41, Tryd.ntmps41
  go_wp2_with fail
  refine (unhide HF).mono ?_
  rintro e w' ⟨rfl, rfl⟩
  go_wp2_with fail
  go_ret
  exact ⟨rfl, rfl⟩
theorem mxI_le {a b c : Int} (ha : a ≤ c) (hb : b ≤ c) : mxI a b ≤ c := by unfold mxI; split <;> omega
theorem mxI_l (a b : Int) : a ≤ mxI a b := by unfold mxI; split <;> omega
theorem mxI_r (a b : Int) : b ≤ mxI a b := by unfold mxI; split <;> omega
theorem mxI_in (a b : Int) : mxI a b = a ∨ mxI a b = b := by unfold mxI; split <;> simp
/-- The worst of four codes. -/
def mx4 (a b c d : Int) : Int := mxI (mxI (mxI a b) c) d
theorem mx4_eq {a b c d : Int} (ha : 0 ≤ a) : mxTo [a, b, c, d] [a, b, c, d].length = mx4 a b c d := by
  show mxI (mxI (mxI (mxI 0 a) b) c) d = _
  have : mxI 0 a = a := by unfold mxI; split <;> omega
  rw [this]; rfl
theorem mx4_ge (a b c d : Int) : a ≤ mx4 a b c d ∧ b ≤ mx4 a b c d ∧ c ≤ mx4 a b c d ∧ d ≤ mx4 a b c d := by
  unfold mx4
  have h1 := mxI_l (mxI (mxI a b) c) d
  have h2 := mxI_r (mxI (mxI a b) c) d
  have h3 := mxI_l (mxI a b) c
  have h4 := mxI_r (mxI a b) c
  have h5 := mxI_l a b
  have h6 := mxI_r a b
  omega
theorem mx4_in (a b c d : Int) : mx4 a b c d = a ∨ mx4 a b c d = b ∨ mx4 a b c d = c ∨ mx4 a b c d = d := by
  unfold mx4
  have h1 := mxI_in (mxI (mxI a b) c) d
  have h2 := mxI_in (mxI a b) c
  have h3 := mxI_in a b
  omega
theorem mx2_eq {a b : Int} (ha : 0 ≤ a) : mxTo [a, b] [a, b].length = mxI a b := by
  show mxI (mxI 0 a) b = _
  have : mxI 0 a = a := by unfold mxI; split <;> omega
  rw [this]
theorem mx1_eq {a : Int} (ha : 0 ≤ a) : mxTo [a] [a].length = a := by
  show mxI 0 a = _
  unfold mxI; split <;> omega
theorem hf2 {s : ByteArray} (h : 65536 < s.size) : hfC s = 2 := by unfold hfC; rw [if_pos h]
theorem hf0 {s : ByteArray} (h : s.size = 32) : hfC s = 0 := by unfold hfC; rw [if_neg (by omega), if_pos h]
theorem hf1 {s : ByteArray} (h : ¬ 65536 < s.size) (h2 : s.size ≠ 32) : hfC s = 1 := by unfold hfC; rw [if_neg h, if_neg h2]
theorem cL2 {l : List ByteArray} (h : 4096 < l.length) : codeL l = 2 := by unfold codeL; rw [if_pos h]
theorem cL1 {l : List ByteArray} (h : ¬ 4096 < l.length) (h2 : (decide (l.length ≤ 64) && allH l) = false) : codeL l = 1 := by
  unfold codeL; rw [if_neg h, if_neg]
  rintro ⟨a, b⟩
  rw [b, decide_eq_true a] at h2
  cases h2
theorem cL0 {l : List ByteArray} (h2 : (decide (l.length ≤ 64) && allH l) = true) : codeL l = 0 := by
  rw [Bool.and_eq_true, decide_eq_true_eq] at h2
  unfold codeL; rw [if_neg (by omega), if_pos h2]
theorem textNe {a b : ByteArray} (h : a ≠ b) : (a.toList == b.toList) = false := by
  rw [beq_eq_false_iff_ne]; intro h2; apply h
  rw [ByteArray.toList_eq, ByteArray.toList_eq] at h2
  cases a; cases b; simp only [ByteArray.mk.injEq]; exact Array.toList_inj.1 h2
theorem textEq {a b : ByteArray} (h : a = b) : (a.toList == b.toList) = true := by rw [h]; simp
end Go.Proofs.YtiiaehajcomfaaaDoor.Sha
