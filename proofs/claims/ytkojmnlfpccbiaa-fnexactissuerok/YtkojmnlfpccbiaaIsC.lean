/- Whether an issuer is right (spec). -/
import Derived.Test.YtkojmnlfpccbiaaIsA
import Derived.Deep.QuietTactic
import Derived.BigQuiet
namespace Go.Proofs.Ytkojmnlfpccbiaa
open Go.ChangeShapes Go.WideShapes Go.ChangeAt Go.RowKit Go.Deep
set_option linter.unusedVariables false
set_option linter.unusedSimpArgs false
set_option maxRecDepth 100000

theorem fuL_of (l : List Bool) (n : Nat) (hl : l.length = 4) (h : ∀ j, j < 4 → l.getD j false = fuB j n) : l = fuL n := by
  match l, hl with
  | [a, b, c, d], _ =>
    have h0 := h 0 (by omega)
    have h1 := h 1 (by omega)
    have h2 := h 2 (by omega)
    have h3 := h 3 (by omega)
    simp at h0 h1 h2 h3
    unfold fuL
    rw [h0, h1, h2, h3]
theorem fuL_not (l : List Bool) (n k : Nat) (hk : k < 4) (h : l.getD k false ≠ fuB k n) : ¬ l = fuL n := by
  rintro rfl
  rcases k with _ | _ | _ | _ | k
  · exact h rfl
  · exact h rfl
  · exact h rfl
  · exact h rfl
  · omega
set_option maxHeartbeats 4000000 in
theorem specIssuerOK_any (sd : ByteArray) (v : Value) (z : Int) (lg mp : ByteArray) (hs : Bool) (c : Int) (l : List Bool) (w : World) (hB : Bos w v l) (hsd : sd.size ≤ maxLen) (hl : lg.size ≤ maxLen) (hm : mp.size ≤ maxLen) :
    Calls Try.prog 11 #[.agg #[.string sd, v, .int .i64 z, .string lg, .string mp, .bool hs, .int .i64 c]] w fun e w' => e = .returned (.bool (issB sd l z lg mp hs c)) ∧ Below w.heap.size w w' := by
  have HB := hide hB
  obtain ⟨a, cap, rfl, hn, hcl⟩ := hB
  have HS := hide (fun wx => specSignerOK_any sd a l.length cap wx hsd hn)
  have HI := hide (fun wx => l01In_any c 0 4 wx)
  have HL := hide (fun wx => l15Statement_any z lg mp wx hl hm)
  have HV : Hid (issB sd l z lg mp hs c = (sgrB sd l.length && (inB c 0 4 && (decide (l = fuL c.toNat) && ((decide (0 < c) == hs) && lstB z lg mp c))))) := rfl
  have HLV : Hid (lstB z lg mp c = if 0 < c then stmB z lg mp else decide (z = 0) && (emptyB lg && emptyB mp)) := rfl
  have B0 := hide ((Below.refl w.heap.size w).alloc (Nat.le_refl _) (.cells #[.string sd, .slice a l.length cap, .int .i64 z, .string lg, .string mp, .bool hs, .int .i64 c] 28))
  have X0 := hide (Blk.new w #[.string sd, .slice a l.length cap, .int .i64 z, .string lg, .string mp, .bool hs, .int .i64 c] 28 w.heap.size rfl)
  have HCL := hide hcl
  have hx0 : sgrB sd l.length = true → l.length = 4 := fun h => by
    have : sd.size = 32 ∧ l.length = 4 := by simpa [sgrB] using h
    exact this.2
  have HX := hide hx0
  have hy0 : inB c 0 4 = true → 0 ≤ c ∧ c ≤ 4 := fun h => inB_iff.1 h
  have HY := hide hy0
  clear hcl hl hm hsd hx0 hy0
  generalize issB sd l z lg mp hs c = res at *
  generalize sgrB sd l.length = sg at *
  generalize inB c 0 4 = ib at *
  generalize lstB z lg mp c = lb at *
  go_enter Try.func11, Try.ntmps11
  go_wp2_with fail
  generalize w.alloc (.cells #[.string sd, .slice a l.length cap, .int .i64 z, .string lg, .string mp, .bool hs, .int .i64 c] 28) = w0 at *
  refine (unhide HS w0).mono ?_
  rintro e w1 ⟨rfl, hb⟩
  have K1 := hide ((unhide B0).trans (hb.mono (unhide B0).size))
  have X1 := hide ((unhide X0).below hb)
  have x5 := (unhide X1).cell 5 rfl
  have x6 := (unhide X1).cell 6 rfl
  clear hb B0 X0 HS
  cases sg
  · go_wp2_with fail
    go_ret
    exact ⟨ret_bool (by rw [unhide HV]; rfl), unhide K1⟩
  have HL4 := hide (unhide HX rfl)
  clear HX
  go_wp2_with fail
  refine (unhide HI w1).mono ?_
  rintro e w' ⟨rfl, rfl⟩
  clear HI
  cases ib
  · go_wp2_with fail
    go_ret
    exact ⟨ret_bool (by rw [unhide HV]; rfl), unhide K1⟩
  obtain ⟨hc0, hc1⟩ := unhide HY rfl
  clear HY
  obtain ⟨hp, hhp⟩ : ∃ hp, hp = decide (0 < c) := ⟨_, rfl⟩
  have q0 : Hid (decide (0 < c) = hp) := hide hhp.symm
  by_cases hne : hp = hs
  rotate_left
  · have q1 : (hs == decide (0 < c)) = false := by rw [← hhp]; cases hs <;> cases hp <;> simp_all
    clear hhp
    go_wp2_with fail
    go_ret
    exact ⟨ret_bool (by rw [unhide HV, unhide q0]; cases hs <;> cases hp <;> simp_all), unhide K1⟩
  subst hne
  have q1 : (hp == decide (0 < c)) = true := by rw [← hhp]; simp
  clear hhp
  go_wp2_with fail
  clear q1
  rw [unhide q0]
  obtain ⟨n, rfl⟩ : ∃ n : Nat, c = (n : Int) := ⟨c.toNat, by omega⟩
  obtain ⟨g, off, rfl, hg, hcl⟩ : ∃ g off, a = some ⟨g, off, none⟩ ∧ g < w.heap.size ∧ ∀ i, i < l.length → w.cell? ⟨g, off + i, none⟩ = some (.bool (l.getD i false)) := by
    rcases unhide HCL with h0 | ⟨b, off, h1, h2, h3⟩
    · have := unhide HL4; omega
    · exact ⟨b, off, h1, h2, h3⟩
  have HCC := hide (fun i (hi : i < 4) wx (hx : Below w.heap.size w wx) => (hx.cell (p := ⟨g, off + i, none⟩) hg).trans (hcl i (by rw [unhide HL4]; exact hi)))
  clear HCL hg hcl
  go_loopw [3] (fun iv wr => ∃ k : Nat, k ≤ 4 ∧ iv = .int .i64 (k : Int) ∧ Below w.heap.size w wr ∧ Blk wr w.heap.size [.string sd, .slice (some ⟨g, off, none⟩) l.length cap, .int .i64 z, .string lg, .string mp, .bool hp, .int .i64 (n : Int)] ∧ ∀ j, j < k → l.getD j false = fuB j n) (fun iv _ => 4 - (intOf iv).toNat)
  case atStart => exact ⟨0, by omega, rfl, unhide K1, unhide X1, fun j hj => by omega⟩
  case round =>
    obtain ⟨k, hk, rfl, hB, hX, hP⟩ := hrel
    have HPk := hide hP
    clear hP
    by_cases hlt : k < 4
    · have hk0 : (0 : Int) ≤ (k : Int) := by omega
      have hk1 : (k : Int) < (l.length : Int) := by have := unhide HL4; omega
      have hk4 : (k : Int) < 4 := by omega
      have c1 := hX.cell 1 rfl
      have c6 := hX.cell 6 rfl
      have ck := unhide HCC k hlt wr hB
      have KB := hide hB
      have KX := hide hX
      clear hB hX
      obtain ⟨bk, hbk⟩ : ∃ bk, bk = l.getD k false := ⟨_, rfl⟩
      rw [← hbk] at ck
      have HBK := hide hbk
      clear hbk
      by_cases hkn : (k : Int) < (n : Int)
      · have HF := hide (show fuB k n = true by unfold fuB; simp; omega)
        cases bk
        · skip
          go_wp2_with fail
          go_quiet (fail)
          go_wp2_with fail
          go_ret
          refine ⟨ret_bool ?_, below_drewN (unhide KB) nq⟩
          have hnl := fuL_not l n k hlt (by rw [← unhide HBK, unhide HF]; simp)
          rw [unhide HV, Int.toNat_natCast, decide_eq_false hnl]; rfl
        · skip
          go_wp2_with fail
          go_quiet (fail)
          go_wp2_with fail
          refine ⟨⟨k + 1, by omega, by go_num, below_drewN (unhide KB) nq, (unhide KX).drewN nq, fun j hj => ?_⟩, ?_⟩
          · by_cases e : j = k
            · subst e; rw [← unhide HBK, unhide HF]
            · exact unhide HPk j (by omega)
          · simp [intOf]; omega
      · have hkn2 : ¬ k < n := by omega
        have HF := hide (show fuB k n = false by unfold fuB; simp; omega)
        cases bk
        · skip
          go_wp2_with fail
          go_quiet (fail)
          go_wp2_with fail
          refine ⟨⟨k + 1, by omega, by go_num, below_drewN (unhide KB) nq, (unhide KX).drewN nq, fun j hj => ?_⟩, ?_⟩
          · by_cases e : j = k
            · subst e; rw [← unhide HBK, unhide HF]
            · exact unhide HPk j (by omega)
          · simp [intOf]; omega
        · skip
          go_wp2_with fail
          go_quiet (fail)
          go_wp2_with fail
          go_ret
          refine ⟨ret_bool ?_, below_drewN (unhide KB) nq⟩
          have hnl := fuL_not l n k hlt (by rw [← unhide HBK, unhide HF]; simp)
          rw [unhide HV, Int.toNat_natCast, decide_eq_false hnl]; rfl
    · obtain rfl : k = 4 := by omega
      have hlf : l = fuL n := fuL_of l n (unhide HL4) (fun j hj => unhide HPk j hj)
      have c5 := hX.cell 5 rfl
      have c2 := hX.cell 2 rfl
      have c3 := hX.cell 3 rfl
      have c4 := hX.cell 4 rfl
      have KB := hide hB
      have HRV : Hid (res = lb) := hide (by rw [unhide HV, Int.toNat_natCast, decide_eq_true hlf, unhide q0]; simp)
      have q9 := fun wx => eql_stm wx z lg mp 0 ⟨#[]⟩ ⟨#[]⟩
      rw [stmEq_none] at q9
      have q8 : Try.prog.eqGuardType Try.prog.depth 26 = false := by kernel_rfl
      have HQ0 := hide (unhide q0)
      clear hB hX hlf q0
      generalize stmB z lg mp = b1 at *
      generalize (decide (z = 0) && (emptyB lg && emptyB mp)) = b2 at *
      cases hp
      · have hn0 : ¬ (0 : Int) < (n : Int) := by simpa using unhide HQ0
        rw [if_neg hn0] at HLV
        clear hn0
        go_wp2_with fail
        go_ret
        exact ⟨ret_bool (by rw [unhide HRV, unhide HLV]), unhide KB⟩
      · have hn0 : (0 : Int) < (n : Int) := by simpa using unhide HQ0
        rw [if_pos hn0] at HLV
        clear hn0
        go_wp2_with fail
        refine (unhide HL wr).mono ?_
        rintro e w5 ⟨rfl, hb⟩
        have K5 := hide ((unhide KB).trans (hb.mono (unhide KB).size))
        clear hb
        go_wp2_with fail
        go_ret
        exact ⟨ret_bool (by rw [unhide HRV, unhide HLV]), unhide K5⟩
end Go.Proofs.Ytkojmnlfpccbiaa
