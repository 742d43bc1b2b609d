/- The laws' functions on issuers: sz, to, eq, mark, held; one that came in opened. (Written by py/isl.py.) -/
import Derived.Test.YtkojmnlfpccbiaaIsA
import Derived.Test.YtkojmnlfpccbiaaBoM
import Derived.Deep.Cut
namespace Go.Proofs.Ytkojmnlfpccbiaa
open Go.ChangeShapes Go.WideShapes Go.ChangeAt Go.RowKit Go.Deep
set_option linter.unusedVariables false
set_option linter.unusedSimpArgs false
set_option maxRecDepth 100000

/-- Seven cells are stored, one behind the other. -/
def put7 (w : World) (b : Nat) (u0 u1 u2 u3 u4 u5 u6 : Value) : World := ((((((w.setCell ⟨b, 0, none⟩ u0).setCell ⟨b, 1, none⟩ u1).setCell ⟨b, 2, none⟩ u2).setCell ⟨b, 3, none⟩ u3).setCell ⟨b, 4, none⟩ u4).setCell ⟨b, 5, none⟩ u5).setCell ⟨b, 6, none⟩ u6
theorem put7_blk {w : World} {b : Nat} {v0 v1 v2 v3 v4 v5 v6 : Value} (h : Blk w b [v0, v1, v2, v3, v4, v5, v6]) (u0 u1 u2 u3 u4 u5 u6 : Value) : Blk (put7 w b u0 u1 u2 u3 u4 u5 u6) b [u0, u1, u2, u3, u4, u5, u6] :=
  ((((((h.set 0 u0 (by simp)).set 1 u1 (by simp)).set 2 u2 (by simp)).set 3 u3 (by simp)).set 4 u4 (by simp)).set 5 u5 (by simp)).set 6 u6 (by simp)
theorem put7_touch (w : World) (b : Nat) (u0 u1 u2 u3 u4 u5 u6 : Value) : Touch (fun k => k = b) w (put7 w b u0 u1 u2 u3 u4 u5 u6) :=
  (((((((Touch.refl (fun k => k = b) w).setCell ⟨b, 0, none⟩ u0 (fun _ => rfl)).setCell ⟨b, 1, none⟩ u1 (fun _ => rfl)).setCell ⟨b, 2, none⟩ u2 (fun _ => rfl)).setCell ⟨b, 3, none⟩ u3 (fun _ => rfl)).setCell ⟨b, 4, none⟩ u4 (fun _ => rfl)).setCell ⟨b, 5, none⟩ u5 (fun _ => rfl)).setCell ⟨b, 6, none⟩ u6 (fun _ => rfl)
def issR (L : Int) (s n lg mp : Nat) : Int := if (s : Int) + n + lg + mp ≤ L then L - s - n - lg - mp else -1
theorem issR_cases (L : Int) (s n lg mp : Nat) : issR L s n lg mp = -1 ∨ (0 ≤ issR L s n lg mp ∧ (s : Int) + n + lg + mp ≤ L) := by
  unfold issR; split
  · right; omega
  · left; rfl
set_option maxHeartbeats 1000000 in
theorem szIssuer_any (sd : ByteArray) (a : Option Addr) (n cap : Nat) (z : Int) (lg mp : ByteArray) (hs : Bool) (c : Int) (L : Int) (w : World) (h1 : sd.size ≤ maxLen) (hn : n ≤ maxLen) (hl : lg.size ≤ maxLen) (hm : mp.size ≤ maxLen) (h0 : 0 ≤ L) (hL : L ≤ 1048576) :
    Calls Try.prog 10 #[.agg #[.string sd, .slice a n cap, .int .i64 z, .string lg, .string mp, .bool hs, .int .i64 c], .int .i64 L] w fun e w' => e = .returned (.int .i64 (issR L sd.size n lg.size mp.size)) ∧ Below w.heap.size w w' := by
  have B0 := hide ((Below.refl w.heap.size w).alloc (Nat.le_refl _) (.cells #[.string sd, .slice a n cap, .int .i64 z, .string lg, .string mp, .bool hs, .int .i64 c] 37))
  have X0 := hide (Blk.new w #[.string sd, .slice a n cap, .int .i64 z, .string lg, .string mp, .bool hs, .int .i64 c] 37 w.heap.size rfl)
  have HS := hide (fun wx => szSigner_any sd a n cap L wx h1 hn h0 hL)
  have HR := hide (sgrR_cases L sd.size n)
  have HV : Hid (issR L sd.size n lg.size mp.size = if (sd.size : Int) + n + lg.size + mp.size ≤ L then L - sd.size - n - lg.size - mp.size else -1) := rfl
  have HG : Hid (sgrR L sd.size n = if (sd.size : Int) + (n : Int) ≤ L then L - sd.size - n else -1) := rfl
  have HY := hide (fun l wx (a1 : 0 ≤ l) (a2 : l ≤ 1048576) (b1 : (lg.size : Int) ≤ l) (b2 : (lg.size : Int) + (mp.size : Int) ≤ l) => szStatement_yes z l lg mp wx a1 a2 b1 b2)
  have HN := hide (fun l wx (a1 : 0 ≤ l) (a2 : l ≤ 1048576) (b2 : l < (lg.size : Int) + (mp.size : Int)) => szStatement_no z l lg mp wx a1 a2 hl hm b2)
  clear h1 hn hl hm
  generalize issR L sd.size n lg.size mp.size = res at *
  generalize sgrR L sd.size n = r at *
  go_enter Try.func10, Try.ntmps10
  go_wp2_with fail
  generalize w.alloc (.cells #[.string sd, .slice a n cap, .int .i64 z, .string lg, .string mp, .bool hs, .int .i64 c] 37) = w0 at *
  refine (unhide HS w0).mono ?_
  rintro e w1 ⟨rfl, hb⟩
  have K1 := hide ((unhide B0).trans (hb.mono (unhide B0).size))
  have X1 := hide ((unhide X0).below hb)
  have x2 := (unhide X1).cell 2 rfl
  have x3 := (unhide X1).cell 3 rfl
  have x4 := (unhide X1).cell 4 rfl
  clear hb B0 X0 HS
  rcases unhide HR with hr | ⟨hr, hr2⟩
  · subst hr
    have E := hide (show res = -1 by
      have h1 := unhide HV; have h2 := unhide HG
      split at h2
      · omega
      · split at h1 <;> omega)
    go_wp2_with fail
    go_ret
    exact ⟨ret_int (unhide E).symm, unhide K1⟩
  have hrv : r = L - sd.size - n := by have h2 := unhide HG; rw [if_pos hr2] at h2; exact h2
  have hn0 : ¬ r < 0 := by omega
  have hrL : r ≤ 1048576 := by omega
  by_cases h9 : (lg.size : Int) + (mp.size : Int) ≤ r
  · have E := hide (show res = r - (lg.size : Int) - (mp.size : Int) by rw [unhide HV, if_pos (by omega)]; omega)
    have HC := hide (unhide HY r w1 hr hrL (by omega) h9)
    have h8 : ¬ r - (lg.size : Int) - (mp.size : Int) < 0 := by omega
    clear HY HN HR HV HG hr2 hrv h9
    go_wp2_with fail
    refine (unhide HC).mono ?_
    rintro e w2 ⟨rfl, hb⟩
    have K2 := hide ((unhide K1).trans (hb.mono (unhide K1).size))
    clear hb
    generalize r - (lg.size : Int) - (mp.size : Int) = q at *
    go_wp2_with fail
    go_ret
    exact ⟨ret_int (unhide E).symm, unhide K2⟩
  · have E := hide (show res = -1 by rw [unhide HV, if_neg (by omega)])
    have HC := hide (unhide HN r w1 hr hrL (by omega))
    clear HY HN HR HV HG hr2 hrv h9
    go_wp2_with fail
    refine (unhide HC).mono ?_
    rintro e w2 ⟨rfl, hb⟩
    have K2 := hide ((unhide K1).trans (hb.mono (unhide K1).size))
    clear hb
    go_wp2_with fail
    go_ret
    exact ⟨ret_int (unhide E).symm, unhide K2⟩
set_option maxHeartbeats 2000000 in
theorem toIssuer_any (sd : ByteArray) (v : Value) (z : Int) (lg mp : ByteArray) (hs : Bool) (c : Int) (l : List Bool) (w : World) (h : Bos w v l) (hn : l.length ≤ 1048576) :
    Calls Try.prog 12 #[.agg #[.string sd, v, .int .i64 z, .string lg, .string mp, .bool hs, .int .i64 c]] w fun e w' => ∃ g, e = .returned (.agg #[.string sd, .slice (some ⟨g, 0, none⟩) l.length l.length, .int .i64 z, .string lg, .string mp, .bool hs, .int .i64 c]) ∧ OwnBo w.heap.size w' (.slice (some ⟨g, 0, none⟩) l.length l.length) l ∧ Below w.heap.size w w' := by
  have HF := hide h
  obtain ⟨a, cap, rfl, _, _⟩ := h
  have B3 := hide ((((Below.refl w.heap.size w).alloc (Nat.le_refl _) (.cells #[.string sd, .slice a l.length cap, .int .i64 z, .string lg, .string mp, .bool hs, .int .i64 c] 37)).alloc (by simp) (.cells #[.string ⟨#[]⟩, .slice none 0 0, .int .i64 0, .string ⟨#[]⟩, .string ⟨#[]⟩, .bool false, .int .i64 0] 28)).alloc (by simp; omega) (.cells #[.string ⟨#[]⟩, .slice none 0 0, .int .i64 0, .string ⟨#[]⟩, .string ⟨#[]⟩, .bool false, .int .i64 0] 28))
  have A3 := hide (((Blk.new w #[.string sd, .slice a l.length cap, .int .i64 z, .string lg, .string mp, .bool hs, .int .i64 c] 37 w.heap.size rfl).alloc (.cells #[.string ⟨#[]⟩, .slice none 0 0, .int .i64 0, .string ⟨#[]⟩, .string ⟨#[]⟩, .bool false, .int .i64 0] 28)).alloc (.cells #[.string ⟨#[]⟩, .slice none 0 0, .int .i64 0, .string ⟨#[]⟩, .string ⟨#[]⟩, .bool false, .int .i64 0] 28))
  have Y3 := hide ((Blk.new (w.alloc (.cells #[.string sd, .slice a l.length cap, .int .i64 z, .string lg, .string mp, .bool hs, .int .i64 c] 37)) #[.string ⟨#[]⟩, .slice none 0 0, .int .i64 0, .string ⟨#[]⟩, .string ⟨#[]⟩, .bool false, .int .i64 0] 28 (w.heap.size + 1) (by simp)).alloc (.cells #[.string ⟨#[]⟩, .slice none 0 0, .int .i64 0, .string ⟨#[]⟩, .string ⟨#[]⟩, .bool false, .int .i64 0] 28))
  have X3 := hide (Blk.new ((w.alloc (.cells #[.string sd, .slice a l.length cap, .int .i64 z, .string lg, .string mp, .bool hs, .int .i64 c] 37)).alloc (.cells #[.string ⟨#[]⟩, .slice none 0 0, .int .i64 0, .string ⟨#[]⟩, .string ⟨#[]⟩, .bool false, .int .i64 0] 28)) #[.string ⟨#[]⟩, .slice none 0 0, .int .i64 0, .string ⟨#[]⟩, .string ⟨#[]⟩, .bool false, .int .i64 0] 28 (w.heap.size + 1 + 1) (by simp))
  have Z3 : (((w.alloc (.cells #[.string sd, .slice a l.length cap, .int .i64 z, .string lg, .string mp, .bool hs, .int .i64 c] 37)).alloc (.cells #[.string ⟨#[]⟩, .slice none 0 0, .int .i64 0, .string ⟨#[]⟩, .string ⟨#[]⟩, .bool false, .int .i64 0] 28)).alloc (.cells #[.string ⟨#[]⟩, .slice none 0 0, .int .i64 0, .string ⟨#[]⟩, .string ⟨#[]⟩, .bool false, .int .i64 0] 28)).heap.size = w.heap.size + 3 := by simp
  go_enter Try.func12, Try.ntmps12
  go_wp2_with fail
  generalize ((w.alloc (.cells #[.string sd, .slice a l.length cap, .int .i64 z, .string lg, .string mp, .bool hs, .int .i64 c] 37)).alloc (.cells #[.string ⟨#[]⟩, .slice none 0 0, .int .i64 0, .string ⟨#[]⟩, .string ⟨#[]⟩, .bool false, .int .i64 0] 28)).alloc (.cells #[.string ⟨#[]⟩, .slice none 0 0, .int .i64 0, .string ⟨#[]⟩, .string ⟨#[]⟩, .bool false, .int .i64 0] 28) = w3 at *
  refine (toSigner_any sd _ l w3 ((unhide HF).below (unhide B3)) hn).mono ?_
  rintro e w4 ⟨g, rfl, hO, hb⟩
  have hlt := (hO.lt g rfl).1
  have hz := hb.size
  have T5 : Touch (fun k => k = w.heap.size + 1 + 1) w4 ((w4.setCell ⟨w.heap.size + 1 + 1, 0, none⟩ (.string sd)).setCell ⟨w.heap.size + 1 + 1, 1, none⟩ (.slice (some ⟨g, 0, none⟩) l.length l.length)) := ((Touch.refl (fun k => k = w.heap.size + 1 + 1) w4).setCell ⟨w.heap.size + 1 + 1, 0, none⟩ _ (fun _ => rfl)).setCell ⟨w.heap.size + 1 + 1, 1, none⟩ _ (fun _ => rfl)
  have O5 := hide ((ownBo_down hO (show w.heap.size ≤ w3.heap.size by omega)).kept T5 (fun k hk e => by cases hk; (try dsimp only at e); omega))
  have B5 := hide (((unhide B3).trans (hb.mono (by omega))).trans (T5.below (show w.heap.size ≤ w4.heap.size by omega) (fun k hk e => by (try dsimp only at e); omega)))
  have X5 := hide ((((unhide X3).below hb).set 0 (.string sd) (by simp)).set 1 (.slice (some ⟨g, 0, none⟩) l.length l.length) (by simp))
  have Y5 := hide (((unhide Y3).below hb).kept T5 (by omega))
  have A5 := hide (((unhide A3).below hb).kept T5 (by omega))
  have x40 := ((unhide X3).below hb).cell 0 rfl
  have x41 := ((unhide X3).below hb).cell 1 rfl
  have f4 := ((unhide X3).below hb).fro
  have f40 := f4 0
  have f41 := f4 1
  have a2 := (unhide A5).cell 2 rfl
  have a3 := (unhide A5).cell 3 rfl
  have a4 := (unhide A5).cell 4 rfl
  have g1 : w.heap.size + 3 ≤ g := by omega
  clear hO hb T5 B3 A3 Y3 X3 hlt hz HF f4
  go_wp2_with fail
  generalize (w4.setCell ⟨w.heap.size + 1 + 1, 0, none⟩ (.string sd)).setCell ⟨w.heap.size + 1 + 1, 1, none⟩ (.slice (some ⟨g, 0, none⟩) l.length l.length) = w5 at *
  refine (toStatement_any z lg mp w5).mono ?_
  rintro e w6 ⟨rfl, hb⟩
  have X6 := (unhide X5).below hb
  have Y6 := (unhide Y5).below hb
  have A6 := (unhide A5).below hb
  have O6 := hide ((unhide O5).below hb)
  have B6 := hide ((unhide B5).trans (hb.mono (unhide B5).size))
  have x60 := X6.cell 0 rfl
  have fx0 := X6.fro 0
  have fy0 := Y6.fro 0
  have y60 := Y6.cell 0 rfl
  have x61 := X6.cell 1 rfl
  have fx1 := X6.fro 1
  have fy1 := Y6.fro 1
  have y61 := Y6.cell 1 rfl
  have x62 := X6.cell 2 rfl
  have fx2 := X6.fro 2
  have fy2 := Y6.fro 2
  have y62 := Y6.cell 2 rfl
  have x63 := X6.cell 3 rfl
  have fx3 := X6.fro 3
  have fy3 := Y6.fro 3
  have y63 := Y6.cell 3 rfl
  have x64 := X6.cell 4 rfl
  have fx4 := X6.fro 4
  have fy4 := Y6.fro 4
  have y64 := Y6.cell 4 rfl
  have x65 := X6.cell 5 rfl
  have fx5 := X6.fro 5
  have fy5 := Y6.fro 5
  have y65 := Y6.cell 5 rfl
  have x66 := X6.cell 6 rfl
  have fx6 := X6.fro 6
  have fy6 := Y6.fro 6
  have y66 := Y6.cell 6 rfl
  have a65 := A6.cell 5 rfl
  have a66 := A6.cell 6 rfl
  have T7 : Touch (fun k => k = w.heap.size + 1 + 1) w6 (((((w6.setCell ⟨w.heap.size + 1 + 1, 2, none⟩ (.int .i64 z)).setCell ⟨w.heap.size + 1 + 1, 3, none⟩ (.string lg)).setCell ⟨w.heap.size + 1 + 1, 4, none⟩ (.string mp)).setCell ⟨w.heap.size + 1 + 1, 5, none⟩ (.bool hs)).setCell ⟨w.heap.size + 1 + 1, 6, none⟩ (.int .i64 c)) := ((((((Touch.refl (fun k => k = w.heap.size + 1 + 1) w6).setCell ⟨w.heap.size + 1 + 1, 2, none⟩ (.int .i64 z) (fun _ => rfl)).setCell ⟨w.heap.size + 1 + 1, 3, none⟩ (.string lg) (fun _ => rfl)).setCell ⟨w.heap.size + 1 + 1, 4, none⟩ (.string mp) (fun _ => rfl)).setCell ⟨w.heap.size + 1 + 1, 5, none⟩ (.bool hs) (fun _ => rfl)).setCell ⟨w.heap.size + 1 + 1, 6, none⟩ (.int .i64 c) (fun _ => rfl))
  have X7 := (((((X6.set 2 (.int .i64 z) (by simp)).set 3 (.string lg) (by simp)).set 4 (.string mp) (by simp)).set 5 (.bool hs) (by simp)).set 6 (.int .i64 c) (by simp))
  have Y7 := Y6.kept T7 (by omega)
  have O7 := (unhide O6).kept T7 (fun k hk e => by cases hk; (try dsimp only at e); omega)
  have B7 := (unhide B6).trans (T7.below (unhide B6).size (fun k hk e => by (try dsimp only at e); omega))
  have OH := hide O7
  have BH := hide B7
  have YH := hide Y7
  have XH := hide X7
  clear X6 Y6 A6 O6 B6 T7 X7 Y7 O7 B7 hb O5 B5 X5 Y5 A5
  go_upto_region 6 with fail
  generalize ((((w6.setCell ⟨w.heap.size + 1 + 1, 2, none⟩ (.int .i64 z)).setCell ⟨w.heap.size + 1 + 1, 3, none⟩ (.string lg)).setCell ⟨w.heap.size + 1 + 1, 4, none⟩ (.string mp)).setCell ⟨w.heap.size + 1 + 1, 5, none⟩ (.bool hs)).setCell ⟨w.heap.size + 1 + 1, 6, none⟩ (.int .i64 c) = w7 at *
  dsimp only [List.set] at XH
  have O8 := hide ((unhide OH).kept (put7_touch w7 (w.heap.size + 1) (.string sd) (.slice (some ⟨g, 0, none⟩) l.length l.length) (.int .i64 z) (.string lg) (.string mp) (.bool hs) (.int .i64 c)) (fun k hk e => by cases hk; (try dsimp only at e); omega))
  have B8 := hide ((unhide BH).trans ((put7_touch w7 (w.heap.size + 1) (.string sd) (.slice (some ⟨g, 0, none⟩) l.length l.length) (.int .i64 z) (.string lg) (.string mp) (.bool hs) (.int .i64 c)).below (unhide BH).size (fun k hk e => by (try dsimp only at e); omega)))
  have Y8 := hide (put7_blk (unhide YH) (.string sd) (.slice (some ⟨g, 0, none⟩) l.length l.length) (.int .i64 z) (.string lg) (.string mp) (.bool hs) (.int .i64 c))
  have p0 := (unhide XH).cell 0 rfl
  have r0 := (unhide YH).cell 0 rfl
  have f0 := (unhide YH).fro 0
  have p1 := (unhide XH).cell 1 rfl
  have r1 := (unhide YH).cell 1 rfl
  have f1 := (unhide YH).fro 1
  have p2 := (unhide XH).cell 2 rfl
  have r2 := (unhide YH).cell 2 rfl
  have f2 := (unhide YH).fro 2
  have p3 := (unhide XH).cell 3 rfl
  have r3 := (unhide YH).cell 3 rfl
  have f3 := (unhide YH).fro 3
  have p4 := (unhide XH).cell 4 rfl
  have r4 := (unhide YH).cell 4 rfl
  have f4 := (unhide YH).fro 4
  have p5 := (unhide XH).cell 5 rfl
  have r5 := (unhide YH).cell 5 rfl
  have f5 := (unhide YH).fro 5
  have p6 := (unhide XH).cell 6 rfl
  have r6 := (unhide YH).cell 6 rfl
  have f6 := (unhide YH).fro 6
  clear XH YH OH BH
  go_wp2_with fail
  change bodyPost _ _ _ _ _ (put7 w7 (w.heap.size + 1) (.string sd) (.slice (some ⟨g, 0, none⟩) l.length l.length) (.int .i64 z) (.string lg) (.string mp) (.bool hs) (.int .i64 c))
  generalize put7 w7 (w.heap.size + 1) (.string sd) (.slice (some ⟨g, 0, none⟩) l.length l.length) (.int .i64 z) (.string lg) (.string mp) (.bool hs) (.int .i64 c) = w8 at *
  have z0 := (unhide Y8).cell 0 rfl
  have z1 := (unhide Y8).cell 1 rfl
  have z2 := (unhide Y8).cell 2 rfl
  have z3 := (unhide Y8).cell 3 rfl
  have z4 := (unhide Y8).cell 4 rfl
  have z5 := (unhide Y8).cell 5 rfl
  have z6 := (unhide Y8).cell 6 rfl
  refine bodyPost_ret (v := .agg #[.string sd, .slice (some ⟨g, 0, none⟩) l.length l.length, .int .i64 z, .string lg, .string mp, .bool hs, .int .i64 c]) (by simp [results, Try.results12, go_sem, z0, z1, z2, z3, z4, z5, z6]) rfl ?_
  exact ⟨g, rfl, unhide O8, unhide B8⟩
end Go.Proofs.Ytkojmnlfpccbiaa
