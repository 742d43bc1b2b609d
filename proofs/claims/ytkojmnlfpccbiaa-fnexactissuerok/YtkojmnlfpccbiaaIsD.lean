/- Whether any issuer is right (impl). -/
import Derived.Test.YtkojmnlfpccbiaaIsB
namespace Go.Proofs.Ytkojmnlfpccbiaa
open Go.ChangeShapes Go.WideShapes Go.ChangeAt Go.RowKit Go.Deep
set_option linter.unusedVariables false
set_option linter.unusedSimpArgs false
set_option maxRecDepth 100000

set_option maxHeartbeats 2000000 in
theorem openNotary_any (sd : ByteArray) (v : Value) (z : Int) (lg mp : ByteArray) (hs : Bool) (c : Int) (l : List Bool) (w : World) (hB : Bos w v l) (hsd : sd.size ≤ maxLen) (hl : lg.size ≤ maxLen) (hm : mp.size ≤ maxLen) :
    Calls Try.prog 27 #[.agg #[.string sd, v, .int .i64 z, .string lg, .string mp, .bool hs, .int .i64 c]] w fun e w' => ∃ pv, e = .returned (.tuple #[pv, .bool (issB sd l z lg mp hs c)]) ∧ Below w.heap.size w w' := by
  have HB := hide hB
  obtain ⟨a, cap, rfl, hn, _⟩ := hB
  by_cases h1 : sgrB sd l.length = true
  · have hsz : sd.size = 32 ∧ l.length = 4 := by simpa [sgrB] using h1
    by_cases h2 : inB c 0 4 = true
    · have hc := inB_iff.1 h2
      obtain ⟨n, rfl⟩ : ∃ n : Nat, c = (n : Int) := ⟨c.toNat, by omega⟩
      have hB := unhide HB
      rw [hsz.2] at hB ⊢
      obtain ⟨g, off, f0, f1, f2, f3, rfl, rfl, y0, y1, y2, y3⟩ := Bos.four hB hsz.2
      have hv : issB sd [f0, f1, f2, f3] z lg mp hs (n : Int) = (kfEq f0 f1 f2 f3 (fuB 0 n) (fuB 1 n) (fuB 2 n) (fuB 3 n) && ((decide (0 < (n : Int)) == hs) && lstB z lg mp (n : Int))) := by
        unfold issB
        rw [h1, h2, kfEq_fuL]; rfl
      rw [hv]
      exact openNotary_four sd g off cap z lg mp hs n f0 f1 f2 f3 w hsz.1 hl hm (by omega) y0 y1 y2 y3
    · have hv : issB sd l z lg mp hs c = false := by unfold issB; rw [Bool.not_eq_true] at h2; rw [h2]; simp
      rw [hv]
      have HS := hide (fun wx => implSignerOK_any sd a l.length cap wx hsd hn)
      rw [h1] at HS
      have HI := hide (fun wx => within_any c 0 4 wx)
      rw [Bool.not_eq_true] at h2
      rw [h2] at HI
      have B0 := hide ((Below.refl w.heap.size w).alloc (Nat.le_refl _) (.cells #[.string sd, .slice a l.length cap, .int .i64 z, .string lg, .string mp, .bool hs, .int .i64 c] 28))
      have X0 := hide (Blk.new w #[.string sd, .slice a l.length cap, .int .i64 z, .string lg, .string mp, .bool hs, .int .i64 c] 28 w.heap.size rfl)
      clear HB hv hsz h1 h2
      go_enter Try.func27, Try.ntmps27
      go_wp2_with fail
      generalize w.alloc (.cells #[.string sd, .slice a l.length cap, .int .i64 z, .string lg, .string mp, .bool hs, .int .i64 c] 28) = w0 at *
      refine (unhide HS w0).mono ?_
      rintro e w1 ⟨rfl, hb⟩
      have K1 := hide ((unhide B0).trans (hb.mono (unhide B0).size))
      have X1 := hide ((unhide X0).below hb)
      have x6 := (unhide X1).cell 6 rfl
      clear hb B0 X0 HS
      go_wp2_with fail
      refine (unhide HI w1).mono ?_
      rintro e w' ⟨rfl, rfl⟩
      clear HI
      go_wp2_with fail
      refine bodyPost_ret (v := .tuple #[.pointer none, .bool false]) (by simp [results, Try.results27, go_sem]) rfl ?_
      exact ⟨_, rfl, unhide K1⟩
  · rw [Bool.not_eq_true] at h1
    have hv : issB sd l z lg mp hs c = false := by unfold issB; rw [h1]; simp
    rw [hv]
    have HS := hide (fun wx => implSignerOK_any sd a l.length cap wx hsd hn)
    rw [h1] at HS
    have B0 := hide ((Below.refl w.heap.size w).alloc (Nat.le_refl _) (.cells #[.string sd, .slice a l.length cap, .int .i64 z, .string lg, .string mp, .bool hs, .int .i64 c] 28))
    clear HB hv h1
    go_enter Try.func27, Try.ntmps27
    go_wp2_with fail
    generalize w.alloc (.cells #[.string sd, .slice a l.length cap, .int .i64 z, .string lg, .string mp, .bool hs, .int .i64 c] 28) = w0 at *
    refine (unhide HS w0).mono ?_
    rintro e w1 ⟨rfl, hb⟩
    have K1 := hide ((unhide B0).trans (hb.mono (unhide B0).size))
    clear hb B0 HS
    go_wp2_with fail
    refine bodyPost_ret (v := .tuple #[.pointer none, .bool false]) (by simp [results, Try.results27, go_sem]) rfl ?_
    exact ⟨_, rfl, unhide K1⟩
set_option maxHeartbeats 2000000 in
theorem implIssuerOK_any (sd : ByteArray) (v : Value) (z : Int) (lg mp : ByteArray) (hs : Bool) (c : Int) (l : List Bool) (w : World) (hB : Bos w v l) (hsd : sd.size ≤ maxLen) (hl : lg.size ≤ maxLen) (hm : mp.size ≤ maxLen) :
    Calls Try.prog 13 #[.agg #[.string sd, v, .int .i64 z, .string lg, .string mp, .bool hs, .int .i64 c]] w fun e w' => e = .returned (.bool (issB sd l z lg mp hs c)) ∧ Below w.heap.size w w' := by
  have B0 := hide ((Below.refl w.heap.size w).alloc (Nat.le_refl _) (.cells #[.string sd, v, .int .i64 z, .string lg, .string mp, .bool hs, .int .i64 c] 28))
  have HO := hide (fun wx (hx : Below w.heap.size w wx) => openNotary_any sd v z lg mp hs c l wx (hB.below hx) hsd hl hm)
  obtain ⟨a, cap, rfl, _, _⟩ := hB
  generalize issB sd l z lg mp hs c = r at *
  go_enter Try.func13, Try.ntmps13
  go_wp2_with fail
  generalize w.alloc (.cells #[.string sd, .slice a l.length cap, .int .i64 z, .string lg, .string mp, .bool hs, .int .i64 c] 28) = w0 at *
  refine (unhide HO w0 (unhide B0)).mono ?_
  rintro e w1 ⟨pv, rfl, hb⟩
  have K1 := hide ((unhide B0).trans (hb.mono (unhide B0).size))
  clear hb
  go_wp2_with fail
  go_ret
  exact ⟨rfl, unhide K1⟩
end Go.Proofs.Ytkojmnlfpccbiaa
