/- Why a client does not take something: checkInput, checkHas, refusedBy, clientCode. -/
import Derived.Test.YtiiaehajcomfaaaDoorTru
import Derived.Test.YtiiaehajcomfaaaDoorAs
import Derived.Test.YtiiaehajcomfaaaDoorWsl
namespace Go.Proofs.YtiiaehajcomfaaaDoor.Sha
open Go.ChangeShapes Go.WideShapes Go.ChangeAt Go.RowKit
set_option linter.unusedVariables false
set_option linter.unusedSimpArgs false
set_option maxRecDepth 100000

def errW (c : Int) : Value := .iface 91 (.agg #[.int .i64 c])
def errR (c : Int) : Value := .iface 92 (.agg #[.int .i64 c])
/-- The variable that errors.As reads. -/
def ErrT (w : World) : Prop := w.cell? ⟨0, 0, none⟩ = some (.iface 151 (.agg #[.pointer (some ⟨11, 65, none⟩)]))
theorem ErrT.below {w w' : World} (h : ErrT w) (hb : Below w.heap.size w w') : ErrT w' := (hb.cell (p := ⟨0, 0, none⟩) (World.block_lt_of_cell? w _ h)).trans h
theorem ErrT.touch {w w' : World} {b : Nat} (h : ErrT w) (ht : Touch (fun k => k = b) w w') (hb : b ≠ 0) : ErrT w' := (ht.cell (p := ⟨0, 0, none⟩) (World.block_lt_of_cell? w _ h) (fun e => hb e.symm)).trans h
/-- What checkInput answers of a code and of whether the trust is right. -/
def inpC (c : Int) (ok : Bool) : Int := if c = 0 then (if ok = true then 0 else 1) else c
def errI (c : Int) : Value := if c = 0 then .nilIface else errW c

theorem refusedBy_any (c : Int) (w : World) : Calls Tryd.prog 65 #[.int .i64 c] w fun e w' => e = .returned (if c = 0 then .nilIface else errR c) ∧ w' = w := by
  by_cases h : c = 0
  · subst h
    go_enter Tryd.func65, Tryd.ntmps65
    go_wp2_with fail
    go_ret
    exact ⟨rfl, rfl⟩
  · go_enter Tryd.func65, Tryd.ntmps65
    go_wp2_with fail
    go_ret
    exact ⟨rfl, rfl⟩
theorem checkHas_any (hs : Bool) (z : Int) (ky lg mp : ByteArray) (w : World) :
    Calls Tryd.prog 64 #[.agg #[.string ky, .bool hs, .int .i64 z, .string lg, .string mp]] w fun e w' => e = .returned (if hs = true then .nilIface else errR 5) ∧ Below w.heap.size w w' := by
  cases hs
  all_goals
    go_enter Tryd.func64, Tryd.ntmps64
    go_wp2_with fail
    go_ret
    exact ⟨rfl, (Below.refl _ _).alloc (Nat.le_refl _) _⟩
set_option maxHeartbeats 2000000 in
theorem checkInput_any (hs : Bool) (z : Int) (ky lg mp : ByteArray) (l : List Int) (b cap : Nat) (w : World) (hl : l.length ≤ 1000) (hc : ∀ i, i < l.length → w.cell? ⟨b, i, none⟩ = some (.int .i64 (l.getD i 0))) (hb : b < w.heap.size) (hk : ky.size ≤ maxLen) (hl1 : lg.size ≤ maxLen) (hm : mp.size ≤ maxLen) :
    Calls Tryd.prog 63 #[.agg #[.string ky, .bool hs, .int .i64 z, .string lg, .string mp], .slice (some ⟨b, 0, none⟩) l.length cap] w fun e w' => e = .returned (errI (inpC (mxTo l l.length) (truB ky hs z lg mp))) ∧ Below w.heap.size w w' := by
  have B0 := hide ((Below.refl w.heap.size w).alloc (Nat.le_refl _) (.cells #[.string ky, .bool hs, .int .i64 z, .string lg, .string mp] 40))
  have X0 := hide (Blk.new w #[.string ky, .bool hs, .int .i64 z, .string lg, .string mp] 40 w.heap.size rfl)
  have HW := hide (worstL_any l b cap (w.alloc (.cells #[.string ky, .bool hs, .int .i64 z, .string lg, .string mp] 40)) hl (fun i hi => (((Below.refl w.heap.size w).alloc (Nat.le_refl _) (.cells #[.string ky, .bool hs, .int .i64 z, .string lg, .string mp] 40)).cell (p := ⟨b, i, none⟩) hb).trans (hc i hi)))
  have HT := hide (fun wx => implTrustOK_any hs z ky lg mp wx hk hl1 hm)
  clear hc hk hl1 hm
  generalize mxTo l l.length = c at *
  generalize truB ky hs z lg mp = ok at *
  go_enter Tryd.func63, Tryd.ntmps63
  go_wp2_with fail
  generalize w.alloc (.cells #[.string ky, .bool hs, .int .i64 z, .string lg, .string mp] 40) = w1 at *
  refine (unhide HW).mono ?_
  rintro e w9 ⟨rfl, hw⟩
  subst w9
  have c0 := (unhide X0).cell 0 rfl
  have c1 := (unhide X0).cell 1 rfl
  have c2 := (unhide X0).cell 2 rfl
  have c3 := (unhide X0).cell 3 rfl
  have c4 := (unhide X0).cell 4 rfl
  by_cases h : c = 0
  · subst h
    go_wp2_with fail
    refine (unhide HT _).mono ?_
    rintro e w2 ⟨rfl, hb2⟩
    have B2 := hide ((unhide B0).trans (hb2.mono (unhide B0).size))
    clear hb2 c0 c1 c2 c3 c4
    cases ok
    all_goals
      go_wp2_with fail
      go_ret
      exact ⟨rfl, unhide B2⟩
  · have H : Hid (errI (inpC c ok) = errW c) := hide (by unfold inpC; rw [if_neg h]; unfold errI; rw [if_neg h])
    go_wp2_with fail
    go_ret
    exact ⟨by rw [unhide H]; rfl, unhide B0⟩
theorem ErrT.ne {w : World} (h : ErrT w) : 0 < w.heap.size := World.block_lt_of_cell? w _ h
set_option maxHeartbeats 2000000 in
theorem clientCode_nil (w : World) : Calls Tryd.prog 38 #[.nilIface] w fun e w' => e = .returned (.int .i64 0) ∧ Below w.heap.size w w' := by
  have B0 := hide (((Below.refl w.heap.size w).alloc (Nat.le_refl _) (.cells #[.int .i64 0] 91)).alloc (by simp) (.cells #[.int .i64 0] 92))
  go_enter Tryd.func38, Tryd.ntmps38
  go_wp2_with fail
  refine (as_nil _ _).mono ?_
  rintro e w9 ⟨rfl, hw⟩
  subst w9
  go_wp2_with fail
  refine (as_nil _ _).mono ?_
  rintro e w9 ⟨rfl, hw⟩
  subst w9
  go_wp2_with fail
  go_ret
  exact ⟨rfl, unhide B0⟩
set_option maxHeartbeats 2000000 in
theorem clientCode_W (c : Int) (w : World) (hg : ErrT w) : Calls Tryd.prog 38 #[.iface 91 (.agg #[.int .i64 c])] w fun e w' => e = .returned (.int .i64 c) ∧ Below w.heap.size w w' := by
  have hlt := hg.ne
  have B0 := ((Below.refl w.heap.size w).alloc (Nat.le_refl _) (.cells #[.int .i64 0] 91)).alloc (by simp) (.cells #[.int .i64 0] 92)
  have X0 := (Blk.new w #[.int .i64 0] 91 w.heap.size rfl).alloc (.cells #[.int .i64 0] 92)
  have HA := hide (asHitW c w.heap.size (.int .i64 0) ((w.alloc (.cells #[.int .i64 0] 91)).alloc (.cells #[.int .i64 0] 92)) (hg.below B0) X0)
  have B0 := hide B0
  clear hlt hg X0
  go_enter Tryd.func38, Tryd.ntmps38
  go_wp2_with fail
  refine (unhide HA).mono ?_
  rintro e w2 ⟨rfl, hx, ht⟩
  have hc := hx.cell 0 rfl
  have B2 : Hid (Below w.heap.size w w2) := hide ((unhide B0).trans (ht.below (unhide B0).size (fun k hk e => by omega)))
  clear hx ht
  go_wp2_with fail
  go_ret
  exact ⟨rfl, unhide B2⟩
set_option maxHeartbeats 2000000 in
theorem clientCode_R (c : Int) (w : World) (hg : ErrT w) : Calls Tryd.prog 38 #[.iface 92 (.agg #[.int .i64 c])] w fun e w' => e = .returned (.int .i64 c) ∧ Below w.heap.size w w' := by
  have B0 := ((Below.refl w.heap.size w).alloc (Nat.le_refl _) (.cells #[.int .i64 0] 91)).alloc (by simp) (.cells #[.int .i64 0] 92)
  have X0 := (Blk.new w #[.int .i64 0] 91 w.heap.size rfl).alloc (.cells #[.int .i64 0] 92)
  have Y0 := Blk.new (w.alloc (.cells #[.int .i64 0] 91)) #[.int .i64 0] 92 (w.heap.size + 1) (by simp)
  have HA := hide (asMissW c w.heap.size (.int .i64 0) ((w.alloc (.cells #[.int .i64 0] 91)).alloc (.cells #[.int .i64 0] 92)) (hg.below B0) X0)
  have HG := hide (hg.below B0)
  have B0 := hide B0
  have Y0 := hide Y0
  clear hg X0
  go_enter Tryd.func38, Tryd.ntmps38
  go_wp2_with fail
  refine (unhide HA).mono ?_
  rintro e w2 ⟨rfl, hb⟩
  have HB := hide (asHitR c (w.heap.size + 1) (.int .i64 0) w2 ((unhide HG).below hb) ((unhide Y0).below hb))
  have B2 := hide ((unhide B0).trans (hb.mono (unhide B0).size))
  clear hb HG Y0 B0 HA
  go_wp2_with fail
  refine (unhide HB).mono ?_
  rintro e w3 ⟨rfl, hx, ht⟩
  have hc := hx.cell 0 rfl
  have B3 : Hid (Below w.heap.size w w3) := hide ((unhide B2).trans (ht.below (unhide B2).size (fun k hk e => by omega)))
  clear hx ht
  go_wp2_with fail
  go_ret
  exact ⟨rfl, unhide B3⟩
end Go.Proofs.YtiiaehajcomfaaaDoor.Sha
