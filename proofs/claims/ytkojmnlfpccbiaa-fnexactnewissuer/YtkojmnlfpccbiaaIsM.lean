/- Issuers: one that came in opened; eqIssuer, markIssuer, heldIssuer. (Written by py/ism.py.) -/
import Derived.Test.YtkojmnlfpccbiaaIsL
namespace Go.Proofs.Ytkojmnlfpccbiaa
open Go.ChangeShapes Go.WideShapes Go.ChangeAt Go.RowKit Go.Deep
set_option linter.unusedVariables false
set_option linter.unusedSimpArgs false
set_option maxRecDepth 100000

theorem array7s {α : Type} {cs : Array α} (h : cs.size = 7) : ∃ c0 c1 c2 c3 c4 c5 c6, cs = #[c0, c1, c2, c3, c4, c5, c6] := by
  obtain ⟨l⟩ := cs
  match l, h with
  | [c0, c1, c2, c3, c4, c5, c6], _ => exact ⟨c0, c1, c2, c3, c4, c5, c6, rfl⟩
theorem open_issuer {H : Type} {enc : TypeId × Value → H} {W : World} {base b0 : Nat} {r : Reach} {held : Bool} {v : Value} {d : DataW H} {p : List MemPlace}
    (hv : Value.okWide Try.prog W r b0 37 v) (h : DataW.Trod enc Try.prog W base (fun _ => true) held 37 v d p) :
    ∃ (sd : ByteArray) (u : Value) (l : List Bool) (z : Int) (lg mp : ByteArray) (hs : Bool) (c : Int), v = .agg #[.string sd, u, .int .i64 z, .string lg, .string mp, .bool hs, .int .i64 c] ∧ Bos W u l ∧ sd.size ≤ maxLen ∧ lg.size ≤ maxLen ∧ mp.size ≤ maxLen := by
  obtain ⟨cs, rfl, hsz⟩ := okWide_struct Try.underlying37 hv
  have hC : Try.prog.cellsOf 37 = 7 := by kernel_rfl
  obtain ⟨c0, c1, c2, c3, c4, c5, c6, rfl⟩ := array7s (hsz.trans hC)
  obtain ⟨fuel, hf⟩ := h
  obtain ⟨xs, n, _, _, _, hlen, hfl⟩ := DataW.trod_struct Try.underlying37 hf
  have i3 : Try.prog.cellsOf 3 = 1 := by kernel_rfl
  have i4 : Try.prog.cellsOf 4 = 1 := by kernel_rfl
  have i9 : Try.prog.cellsOf 9 = 1 := by kernel_rfl
  have iG : Try.prog.cellsOf 34 = 2 := by kernel_rfl
  have iT : Try.prog.cellsOf 35 = 3 := by kernel_rfl
  have iS : Try.prog.cellsOf 22 = 1 := by kernel_rfl
  obtain ⟨y0, e0⟩ := get_some hlen (show 0 < 4 by omega)
  obtain ⟨y1, e1⟩ := get_some hlen (show 1 < 4 by omega)
  obtain ⟨y2, e2⟩ := get_some hlen (show 2 < 4 by omega)
  obtain ⟨y3, e3⟩ := get_some hlen (show 3 < 4 by omega)
  have gA : DataW.trod enc Try.prog W base (fun _ => true) held n 34 [c0, c1] = some y0 := by simpa [Value.cells, iG] using (hfl 0 _ rfl).trans e0
  have gB : DataW.trod enc Try.prog W base (fun _ => true) held n 35 [c2, c3, c4] = some y1 := by simpa [Value.cells, iG, iT] using (hfl 1 _ rfl).trans e1
  have g5 : DataW.trod enc Try.prog W base (fun _ => true) held n 4 [c5] = some y2 := by simpa [Value.cells, iG, iT, i4] using (hfl 2 _ rfl).trans e2
  have g6 : DataW.trod enc Try.prog W base (fun _ => true) held n 3 [c6] = some y3 := by simpa [Value.cells, iG, iT, i4, i3] using (hfl 3 _ rfl).trans e3
  obtain ⟨xs1, n1, _, _, _, hlen1, hfl1⟩ := DataW.trod_struct Try.underlying34 gA
  obtain ⟨z0, f0⟩ := get_some hlen1 (show 0 < 2 by omega)
  obtain ⟨z1, f1⟩ := get_some hlen1 (show 1 < 2 by omega)
  have k0 : DataW.trod enc Try.prog W base (fun _ => true) held n1 9 [c0] = some z0 := by simpa [Value.cells, i9] using (hfl1 0 _ rfl).trans f0
  have k1 : DataW.trod enc Try.prog W base (fun _ => true) held n1 22 [c1] = some z1 := by simpa [Value.cells, iS] using (hfl1 1 _ rfl).trans f1
  obtain ⟨xs2, n2, _, _, _, hlen2, hfl2⟩ := DataW.trod_struct Try.underlying35 gB
  obtain ⟨z2, f2⟩ := get_some hlen2 (show 0 < 3 by omega)
  obtain ⟨z3, f3⟩ := get_some hlen2 (show 1 < 3 by omega)
  obtain ⟨z4, f4⟩ := get_some hlen2 (show 2 < 3 by omega)
  have k2 : DataW.trod enc Try.prog W base (fun _ => true) held n2 3 [c2] = some z2 := by simpa [Value.cells, i3] using (hfl2 0 _ rfl).trans f2
  have k3 : DataW.trod enc Try.prog W base (fun _ => true) held n2 9 [c3] = some z3 := by simpa [Value.cells, i9] using (hfl2 1 _ rfl).trans f3
  have k4 : DataW.trod enc Try.prog W base (fun _ => true) held n2 9 [c4] = some z4 := by simpa [Value.cells, i9] using (hfl2 2 _ rfl).trans f4
  obtain ⟨a0, j0, _, q0⟩ := DataW.trod_string Try.underlying9 k0
  obtain ⟨a2, j2, _, q2⟩ := DataW.trod_int Try.underlying3 k2
  obtain ⟨a3, j3, _, q3⟩ := DataW.trod_string Try.underlying9 k3
  obtain ⟨a4, j4, _, q4⟩ := DataW.trod_string Try.underlying9 k4
  obtain ⟨a5, j5, _⟩ := DataW.trod_bool Try.underlying4 g5
  obtain ⟨a6, j6, _, q6⟩ := DataW.trod_int Try.underlying3 g6
  obtain ⟨l, hl⟩ := open_flags k1
  simp only [List.cons.injEq, and_true] at j0 j2 j3 j4 j5 j6
  subst j0 j2 j3 j4 j5 j6
  exact ⟨a0, c1, l, a2, a3, a4, a5, a6, rfl, hl, q0, q3, q4⟩
set_option maxHeartbeats 1000000 in
theorem eqStatement_one (z : Int) (lg mp : ByteArray) (w : World) :
    Calls Try.prog 17 #[.agg #[.int .i64 z, .string lg, .string mp], .agg #[.int .i64 z, .string lg, .string mp]] w fun e w' => e = .returned (.bool true) ∧ Below w.heap.size w w' := by
  have B0 := hide (((Below.refl w.heap.size w).alloc (Nat.le_refl _) (.cells #[.int .i64 z, .string lg, .string mp] 26)).alloc (by simp) (.cells #[.int .i64 z, .string lg, .string mp] 26))
  go_enter Try.func17, Try.ntmps17
  go_wp2_with fail
  go_ret
  exact ⟨rfl, unhide B0⟩
set_option maxHeartbeats 1000000 in
theorem eqIssuer_any (sd : ByteArray) (v v2 : Value) (z : Int) (lg mp : ByteArray) (hs : Bool) (c : Int) (l : List Bool) (w : World) (h : Bos w v l) (h2 : Bos w v2 l) (hn : l.length ≤ 1048576) :
    Calls Try.prog 7 #[.agg #[.string sd, v, .int .i64 z, .string lg, .string mp, .bool hs, .int .i64 c], .agg #[.string sd, v2, .int .i64 z, .string lg, .string mp, .bool hs, .int .i64 c]] w fun e w' => e = .returned (.bool true) ∧ Below w.heap.size w w' := by
  have HF := hide h
  have HF2 := hide h2
  obtain ⟨a, cap, rfl, _, _⟩ := h
  obtain ⟨a2, cap2, rfl, _, _⟩ := h2
  have B0 := hide (((Below.refl w.heap.size w).alloc (Nat.le_refl _) (.cells #[.string sd, .slice a l.length cap, .int .i64 z, .string lg, .string mp, .bool hs, .int .i64 c] 28)).alloc (by simp) (.cells #[.string sd, .slice a2 l.length cap2, .int .i64 z, .string lg, .string mp, .bool hs, .int .i64 c] 28))
  have X0 := hide ((Blk.new w #[.string sd, .slice a l.length cap, .int .i64 z, .string lg, .string mp, .bool hs, .int .i64 c] 28 w.heap.size rfl).alloc (.cells #[.string sd, .slice a2 l.length cap2, .int .i64 z, .string lg, .string mp, .bool hs, .int .i64 c] 28))
  have Y0 := hide (Blk.new (w.alloc (.cells #[.string sd, .slice a l.length cap, .int .i64 z, .string lg, .string mp, .bool hs, .int .i64 c] 28)) #[.string sd, .slice a2 l.length cap2, .int .i64 z, .string lg, .string mp, .bool hs, .int .i64 c] 28 (w.heap.size + 1) (by simp))
  go_enter Try.func7, Try.ntmps7
  go_wp2_with fail
  generalize (w.alloc (.cells #[.string sd, .slice a l.length cap, .int .i64 z, .string lg, .string mp, .bool hs, .int .i64 c] 28)).alloc (.cells #[.string sd, .slice a2 l.length cap2, .int .i64 z, .string lg, .string mp, .bool hs, .int .i64 c] 28) = w0 at *
  refine (eqSigner_any sd _ _ l w0 ((unhide HF).below (unhide B0)) ((unhide HF2).below (unhide B0)) hn).mono ?_
  rintro e w1 ⟨rfl, hb⟩
  have K1 := hide ((unhide B0).trans (hb.mono (unhide B0).size))
  have X1 := hide ((unhide X0).below hb)
  have Y1 := hide ((unhide Y0).below hb)
  have x2 := (unhide X1).cell 2 rfl
  have x3 := (unhide X1).cell 3 rfl
  have x4 := (unhide X1).cell 4 rfl
  have y2 := (unhide Y1).cell 2 rfl
  have y3 := (unhide Y1).cell 3 rfl
  have y4 := (unhide Y1).cell 4 rfl
  clear hb B0 X0 Y0 HF HF2
  go_wp2_with fail
  refine (eqStatement_one z lg mp w1).mono ?_
  rintro e w2 ⟨rfl, hb⟩
  have K2 := hide ((unhide K1).trans (hb.mono (unhide K1).size))
  have X2 := (unhide X1).below hb
  have Y2 := (unhide Y1).below hb
  have x5 := X2.cell 5 rfl
  have x6 := X2.cell 6 rfl
  have y5 := Y2.cell 5 rfl
  have y6 := Y2.cell 6 rfl
  clear hb X2 Y2 X1 Y1 K1 x2 x3 x4 y2 y3 y4
  have b1 : (hs != hs) = false := by simp
  have b2 : (c != c) = false := by simp
  have b3 : (hs == hs) = true := by simp
  have b4 : (c == c) = true := by simp
  go_wp2_with fail
  go_ret
  exact ⟨rfl, unhide K2⟩
set_option maxHeartbeats 1000000 in
theorem markSigner_any (sd : ByteArray) (B : Nat) (v : Value) (l : List Bool) (w : World) (h : OwnBo B w v l) (hn : l.length ≤ 1048576) :
    Calls Try.prog 18 #[.agg #[.string sd, v], .int .i64 1] w fun e w' => e = .returned (.int .i64 (1 + (l.length : Int))) ∧ OwnBo B w' v (mrow 1 l.length) ∧ Touch (fun k => v.ownBlock = some k) w w' := by
  have H0 := hide (h.below ((Below.refl w.heap.size w).alloc (Nat.le_refl _) (.cells #[.string sd, v] 24)))
  have HM := hide (markBoolS_at 1 (by omega) B v l _ (unhide H0) hn)
  have T0 := hide ((Touch.refl (fun k => v.ownBlock = some k) w).alloc (.cells #[.string sd, v] 24))
  obtain ⟨a, cap, rfl, _, _⟩ := h.bos
  clear h H0
  go_enter Try.func18, Try.ntmps18
  go_wp2_with fail
  refine (unhide HM).mono ?_
  rintro e w1 ⟨rfl, hO, hT⟩
  have R := hide (And.intro hO ((unhide T0).trans hT (fun _ _ e => e)))
  clear hO hT
  go_wp2_with fail
  go_ret
  exact ⟨rfl, (unhide R).1, (unhide R).2⟩
set_option maxHeartbeats 1000000 in
theorem markIssuer_any (sd : ByteArray) (B : Nat) (v : Value) (z : Int) (lg mp : ByteArray) (hs : Bool) (c : Int) (l : List Bool) (w : World) (h : OwnBo B w v l) (hn : l.length ≤ 1048576) :
    Calls Try.prog 8 #[.agg #[.string sd, v, .int .i64 z, .string lg, .string mp, .bool hs, .int .i64 c], .int .i64 1] w fun e w' => e = .returned (.int .i64 (1 + (l.length : Int))) ∧ OwnBo B w' v (mrow 1 l.length) ∧ Touch (fun k => v.ownBlock = some k) w w' := by
  have H0 := hide (h.below ((Below.refl w.heap.size w).alloc (Nat.le_refl _) (.cells #[.string sd, v, .int .i64 z, .string lg, .string mp, .bool hs, .int .i64 c] 28)))
  have HM := hide (markSigner_any sd B v l _ (unhide H0) hn)
  have T0 := hide ((Touch.refl (fun k => v.ownBlock = some k) w).alloc (.cells #[.string sd, v, .int .i64 z, .string lg, .string mp, .bool hs, .int .i64 c] 28))
  obtain ⟨a, cap, rfl, _, _⟩ := h.bos
  clear h H0
  go_enter Try.func8, Try.ntmps8
  go_wp2_with fail
  refine (unhide HM).mono ?_
  rintro e w1 ⟨rfl, hO, hT⟩
  have R := hide (And.intro hO ((unhide T0).trans hT (fun _ _ e => e)))
  clear hO hT
  go_wp2_with fail
  go_ret
  exact ⟨rfl, (unhide R).1, (unhide R).2⟩
set_option maxHeartbeats 1000000 in
theorem heldSigner_any (sd : ByteArray) (v : Value) (n : Nat) (w : World) (h : Bos w v (mrow 1 n)) (hn : n ≤ 1048576) :
    Calls Try.prog 19 #[.agg #[.string sd, v], .int .i64 1] w fun e w' => e = .returned (.int .i64 (1 + (n : Int))) ∧ Below w.heap.size w w' := by
  have B0 := hide ((Below.refl w.heap.size w).alloc (Nat.le_refl _) (.cells #[.string sd, v] 24))
  have HM := hide (heldBoolS_at 1 (by omega) v n _ (h.below (unhide B0)) hn)
  obtain ⟨a, cap, rfl, _, _⟩ := h
  have hk : ¬ 1 + (n : Int) < 0 := by omega
  go_enter Try.func19, Try.ntmps19
  go_wp2_with fail
  refine (unhide HM).mono ?_
  rintro e w1 ⟨rfl, rfl⟩
  go_wp2_with fail
  go_ret
  exact ⟨rfl, unhide B0⟩
set_option maxHeartbeats 1000000 in
theorem heldIssuer_any (sd : ByteArray) (v : Value) (z : Int) (lg mp : ByteArray) (hs : Bool) (c : Int) (n : Nat) (w : World) (h : Bos w v (mrow 1 n)) (hn : n ≤ 1048576) :
    Calls Try.prog 9 #[.agg #[.string sd, v, .int .i64 z, .string lg, .string mp, .bool hs, .int .i64 c], .int .i64 1] w fun e w' => e = .returned (.int .i64 (1 + (n : Int))) ∧ Below w.heap.size w w' := by
  have B0 := hide ((Below.refl w.heap.size w).alloc (Nat.le_refl _) (.cells #[.string sd, v, .int .i64 z, .string lg, .string mp, .bool hs, .int .i64 c] 28))
  have HM := hide (heldSigner_any sd v n _ (h.below (unhide B0)) hn)
  obtain ⟨a, cap, rfl, _, _⟩ := h
  have hk : ¬ 1 + (n : Int) < 0 := by omega
  go_enter Try.func9, Try.ntmps9
  go_wp2_with fail
  refine (unhide HM).mono ?_
  rintro e w1 ⟨rfl, hb⟩
  have K1 := hide ((unhide B0).trans (hb.mono (unhide B0).size))
  clear hb
  go_wp2_with fail
  go_ret
  exact ⟨rfl, unhide K1⟩
end Go.Proofs.Ytkojmnlfpccbiaa
