/- Whether a trust is right: impl.TrustOK, spec.TrustOK. -/
import Derived.Test.YtiiaehajcomfaaaDoorStm
namespace Go.Proofs.YtiiaehajcomfaaaDoor
open Go.ChangeShapes Go.WideShapes Go.ChangeAt Go.RowKit Go.Deep
set_option linter.unusedVariables false
set_option linter.unusedSimpArgs false
set_option maxRecDepth 100000

def truEq (k : ByteArray) (h : Bool) (z : Int) (l m : ByteArray) (k2 : ByteArray) (h2 : Bool) (z2 : Int) (l2 m2 : ByteArray) : Bool :=
  (k.toList == k2.toList) && ((h == h2) && ((z == z2) && ((l.toList == l2.toList) && (m.toList == m2.toList))))
theorem eq_tru (w : World) (k : ByteArray) (h : Bool) (z : Int) (l m : ByteArray) (k2 : ByteArray) (h2 : Bool) (z2 : Int) (l2 m2 : ByteArray) :
    (Op.equalIn 10000 40 (.agg #[.string k, .bool h, .int .i64 z, .string l, .string m]) (.agg #[.string k2, .bool h2, .int .i64 z2, .string l2, .string m2])).run Tryd.prog w = .ok (truEq k h z l m k2 h2 z2 l2 m2) w := by
  rw [run_equalIn_struct w 9999 40 _ _ (by kernel_rfl) (by kernel_rfl)]
  simp only [Program.fieldsOf, Tryd.underlying40]
  simp [Op.eqFields, go_sem, truEq]
  by_cases e1 : k.toList = k2.toList
  · by_cases e2 : h = h2
    · by_cases e3 : z = z2
      · by_cases e4 : l.toList = l2.toList
        · by_cases e5 : m.toList = m2.toList
          · simp [e1, e2, e3, e4, e5]
          · simp [e1, e2, e3, e4, e5]
        · simp [e1, e2, e3, e4]
      · simp [e1, e2, e3]
    · simp [e1, e2]
  · simp [e1]
theorem eql_tru (w : World) (k : ByteArray) (h : Bool) (z : Int) (l m : ByteArray) (k2 : ByteArray) (h2 : Bool) (z2 : Int) (l2 m2 : ByteArray) :
    (binOp .eql 40 (.agg #[.string k, .bool h, .int .i64 z, .string l, .string m]) (.agg #[.string k2, .bool h2, .int .i64 z2, .string l2, .string m2])).run Tryd.prog w = .ok (.bool (truEq k h z l m k2 h2 z2 l2 m2)) w := by
  rw [run_eql_struct, eq_tru]; rfl
theorem truEq_none (k : ByteArray) (z : Int) (l m : ByteArray) : truEq k false z l m k false 0 ⟨#[]⟩ ⟨#[]⟩ = (decide (z = 0) && (emptyB l && emptyB m)) := by
  have e : (⟨#[]⟩ : ByteArray).toList = [] := by rw [ByteArray.toList_eq]
  have e2 : ∀ x : List UInt8, (x == []) = x.isEmpty := fun x => by cases x <;> rfl
  have e3 : (z == 0) = decide (z = 0) := by by_cases hz : z = 0 <;> simp [hz]
  unfold truEq emptyB
  rw [e, e2, e2, e3]
  simp
theorem last_any (hs : Bool) (z : Int) (ky lg mp : ByteArray) (w : World) :
    Calls Tryd.prog 114 #[.agg #[.string ky, .bool hs, .int .i64 z, .string lg, .string mp]] w fun e w' => e = .returned (.agg #[.int .i64 z, .string lg, .string mp]) ∧ Below w.heap.size w w' := by
  have HB : ∀ o o2, Below w.heap.size w ((w.alloc o).alloc o2) := fun o o2 => ((Below.refl _ _).alloc (Nat.le_refl _) o).alloc (by simp) o2
  have H5 := hide HB
  have HB1 : ∀ o, Below w.heap.size w (w.alloc o) := fun o => (Below.refl _ _).alloc (Nat.le_refl _) o
  have H6 := hide HB1
  clear HB HB1
  go_enter Tryd.func114, Tryd.ntmps114
  go_wp2_with fail
  refine bodyPost_ret (v := .agg #[.int .i64 z, .string lg, .string mp]) (by simp [results, Tryd.results114, go_sem]) rfl ⟨rfl, ?_⟩
  exact unhide H5 _ _
set_option maxHeartbeats 2000000 in
theorem implTrustOK_any (hs : Bool) (z : Int) (ky lg mp : ByteArray) (w : World) (hk : ky.size ≤ maxLen) (hl : lg.size ≤ maxLen) (hm : mp.size ≤ maxLen) :
    Calls Tryd.prog 88 #[.agg #[.string ky, .bool hs, .int .i64 z, .string lg, .string mp]] w fun e w' => e = .returned (.bool (truB ky hs z lg mp)) ∧ Below w.heap.size w w' := by
  have HV : Hid (truB ky hs z lg mp = (decide (ky.size = 32) && (if hs = true then stmB z lg mp else decide (z = 0) && (emptyB lg && emptyB mp)))) := rfl
  have B0 := hide ((Below.refl w.heap.size w).alloc (Nat.le_refl _) (.cells #[.string ky, .bool hs, .int .i64 z, .string lg, .string mp] 40))
  have H1 := hide (fun wx => notHash_any ky wx hk)
  have H2 := hide (fun wx => last_any hs z ky lg mp wx)
  have H3 := hide (fun wx => statementOK_any z lg mp wx hl hm)
  clear hk hl hm
  cases hs
  · have q1 := fun wx => eql_tru wx ky false z lg mp ky false 0 ⟨#[]⟩ ⟨#[]⟩
    rw [truEq_none] at q1
    have q3 : Tryd.prog.eqGuardType Tryd.prog.depth 40 = false := by kernel_rfl
    rw [if_neg (by simp)] at HV
    generalize truB ky false z lg mp = res at *
    generalize decide (ky.size = 32) = a at *
    generalize (decide (z = 0) && (emptyB lg && emptyB mp)) = b at *
    go_enter Tryd.func88, Tryd.ntmps88
    go_wp2_with fail
    refine (unhide H1 _).mono ?_
    rintro e w' ⟨rfl, rfl⟩
    cases a
    · go_wp2_with fail
      go_ret
      exact ⟨ret_bool (unhide HV).symm, unhide B0⟩
    · go_wp2_with fail
      go_ret
      exact ⟨ret_bool (unhide HV).symm, unhide B0⟩
  · rw [if_pos rfl] at HV
    generalize truB ky true z lg mp = res at *
    generalize decide (ky.size = 32) = a at *
    generalize stmB z lg mp = b at *
    go_enter Tryd.func88, Tryd.ntmps88
    go_wp2_with fail
    refine (unhide H1 _).mono ?_
    rintro e w' ⟨rfl, rfl⟩
    cases a
    · go_wp2_with fail
      go_ret
      exact ⟨ret_bool (unhide HV).symm, unhide B0⟩
    · go_wp2_with fail
      refine (unhide H2 _).mono ?_
      rintro e w1 ⟨rfl, hb1⟩
      have B1 := hide ((unhide B0).trans (hb1.mono (by simp)))
      clear hb1
      go_wp2_with fail
      refine (unhide H3 _).mono ?_
      rintro e w2 ⟨rfl, hb2⟩
      have B2 := hide ((unhide B1).trans (hb2.mono (unhide B1).size))
      clear hb2
      cases b
      all_goals
        go_wp2_with fail
        go_ret
        exact ⟨ret_bool (unhide HV).symm, unhide B2⟩
set_option maxHeartbeats 2000000 in
theorem specTrustOK_any (hs : Bool) (z : Int) (ky lg mp : ByteArray) (w : World) (hk : ky.size ≤ maxLen) (hl : lg.size ≤ maxLen) (hm : mp.size ≤ maxLen) :
    Calls Tryd.prog 33 #[.agg #[.string ky, .bool hs, .int .i64 z, .string lg, .string mp]] w fun e w' => e = .returned (.bool (truB ky hs z lg mp)) ∧ Below w.heap.size w w' := by
  have HV : Hid (truB ky hs z lg mp = (decide (ky.size = 32) && (if hs = true then stmB z lg mp else decide (z = 0) && (emptyB lg && emptyB mp)))) := rfl
  have B0 := hide ((Below.refl w.heap.size w).alloc (Nat.le_refl _) (.cells #[.string ky, .bool hs, .int .i64 z, .string lg, .string mp] 40))
  have H3 := hide (fun wx => l15Statement_any z lg mp wx hl hm)
  unfold maxLen at hk
  clear hl hm
  by_cases h1 : ky.size = 32
  case neg =>
    rw [decide_eq_false h1] at HV
    have h1' : ¬ (ky.size : Int) = 32 := by omega
    clear h1
    generalize truB ky hs z lg mp = res at *
    go_enter Tryd.func33, Tryd.ntmps33
    go_wp2_with fail
    go_ret
    exact ⟨ret_bool (unhide HV).symm, unhide B0⟩
  rw [decide_eq_true h1] at HV
  have h1' : (ky.size : Int) = 32 := by omega
  clear h1
  cases hs
  · rw [if_neg (by simp)] at HV
    generalize truB ky false z lg mp = res at *
    have HE1 : Hid (emptyB lg = lg.toList.isEmpty) := rfl
    have HE2 : Hid (emptyB mp = mp.toList.isEmpty) := rfl
    by_cases h2 : z = 0
    case neg =>
      rw [decide_eq_false h2] at HV
      go_enter Tryd.func33, Tryd.ntmps33
      go_wp2_with fail
      go_ret
      exact ⟨ret_bool (unhide HV).symm, unhide B0⟩
    subst h2
    rw [decide_eq_true rfl] at HV
    rcases Bool.eq_false_or_eq_true (emptyB lg) with h4 | h4 <;> rcases Bool.eq_false_or_eq_true (emptyB mp) with h5 | h5
    all_goals
      rw [h4, h5] at HV
      unfold emptyB at h4 h5
      go_enter Tryd.func33, Tryd.ntmps33
      go_wp2_with fail
      go_ret
      refine ⟨?_, unhide B0⟩
      rw [unhide HV]
      simp [h4, h5]
      try rfl
  · rw [if_pos rfl] at HV
    generalize truB ky true z lg mp = res at *
    generalize stmB z lg mp = b at *
    go_enter Tryd.func33, Tryd.ntmps33
    go_wp2_with fail
    refine (unhide H3 _).mono ?_
    rintro e w2 ⟨rfl, hb2⟩
    have B2 := hide ((unhide B0).trans (hb2.mono (by simp)))
    clear hb2
    go_wp2_with fail
    go_ret
    exact ⟨ret_bool (unhide HV).symm, unhide B2⟩
end Go.Proofs.YtiiaehajcomfaaaDoor
