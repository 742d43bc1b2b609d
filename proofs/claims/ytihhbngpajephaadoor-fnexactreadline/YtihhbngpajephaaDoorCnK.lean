/- A console's line: put, add, open and shut hand on. (Written by py/cnk.py.) -/
import Derived.Test.YtihhbngpajephaaDoorCnI
import Derived.Test.YtihhbngpajephaaDoorCnJ
namespace Go.Proofs.YtihhbngpajephaaDoor.Sha
open Go.ChangeShapes Go.WideShapes Go.ChangeAt Go.RowKit
set_option linter.unusedVariables false
set_option linter.unusedSimpArgs false

set_option maxRecDepth 100000 in
set_option maxHeartbeats 4000000 in
theorem put_any (b off cap : Nat) (l : List ByteArray) (w : World) (h0 : 0 < l.length) (hW : Wds w b off l) (hC : Cns w) :
    Calls Tryd.prog 21 #[.slice (some ⟨b, off, none⟩) l.length cap] w fun e w' => RqA (chgO 1 l) w e w' := by
  have HI := hide (fun wx (hx : Below w.heap.size w wx) => chg_any b off cap 1 l wx h0 (hW.below hx) (hC.below hx))
  clear hW hC h0
  generalize chgO 1 l = ro at *
  have B0 := hide ((Below.refl w.heap.size w).alloc (Nat.le_refl _) (.cells #[.string ⟨#[]⟩, .string ⟨#[]⟩, .int .i64 0, .int .i64 0, .int .i64 0, .string ⟨#[]⟩, .string ⟨#[]⟩] 33))
  have R0 := hide (Blk.new w #[.string ⟨#[]⟩, .string ⟨#[]⟩, .int .i64 0, .int .i64 0, .int .i64 0, .string ⟨#[]⟩, .string ⟨#[]⟩] 33 w.heap.size rfl)
  go_enter Tryd.func21, Tryd.ntmps21
  go_upto_region 1 with fail
  generalize w.alloc (.cells #[.string ⟨#[]⟩, .string ⟨#[]⟩, .int .i64 0, .int .i64 0, .int .i64 0, .string ⟨#[]⟩, .string ⟨#[]⟩] 33) = w0 at *
  go_wp2_with fail
  refine (unhide HI w0 (unhide B0)).mono ?_
  rintro e w3 h3
  have B3 := hide ((unhide B0).trans (h3.1.mono (unhide B0).size))
  have R3 := hide ((unhide R0).below h3.1)
  clear HI B0 R0
  cases ro with
  | none =>
    obtain ⟨_, rfl⟩ := h3.raised
    unfold flt
    go_wp2_with fail
    exact ⟨rfl, RqA.no rfl rfl (unhide B3)⟩
  | some r =>
    obtain ⟨_, rfl⟩ := h3.got
    obtain ⟨f0, f1, f2, f3, f4, f5, f6⟩ := r
    dsimp only [rqV]
    clear h3
    have HY := hide (rq_set (unhide R3) (f0) (f1) (f2) (f3) (f4) (f5) (f6))
    have HK := hide (rq_belowB (w.heap.size) (by omega) (unhide B3) (f0) (f1) (f2) (f3) (f4) (f5) (f6))
    obtain ⟨⟨x0, x1, x2, x3, x4, x5, x6⟩, g0, g1, g2, g3, g4, g5, g6⟩ := Blk.c7 (unhide R3)
    clear R3 B3
    go_wp2_with fail
    obtain ⟨⟨z0, z1, z2, z3, z4, z5, z6⟩, _⟩ := Blk.c7 (unhide HY)
    refine bodyPost_ret (v := rqV ⟨f0, f1, f2, f3, f4, f5, f6⟩) (by simp [results, rqV, Tryd.results21, go_sem, z0, z1, z2, z3, z4, z5, z6]) rfl ?_
    exact RqA.yes rfl rfl (unhide HK)
set_option maxRecDepth 100000 in
set_option maxHeartbeats 4000000 in
theorem add_any (b off cap : Nat) (l : List ByteArray) (w : World) (h0 : 0 < l.length) (hW : Wds w b off l) (hC : Cns w) :
    Calls Tryd.prog 22 #[.slice (some ⟨b, off, none⟩) l.length cap] w fun e w' => RqA (chgO 2 l) w e w' := by
  have HI := hide (fun wx (hx : Below w.heap.size w wx) => chg_any b off cap 2 l wx h0 (hW.below hx) (hC.below hx))
  clear hW hC h0
  generalize chgO 2 l = ro at *
  have B0 := hide ((Below.refl w.heap.size w).alloc (Nat.le_refl _) (.cells #[.string ⟨#[]⟩, .string ⟨#[]⟩, .int .i64 0, .int .i64 0, .int .i64 0, .string ⟨#[]⟩, .string ⟨#[]⟩] 33))
  have R0 := hide (Blk.new w #[.string ⟨#[]⟩, .string ⟨#[]⟩, .int .i64 0, .int .i64 0, .int .i64 0, .string ⟨#[]⟩, .string ⟨#[]⟩] 33 w.heap.size rfl)
  go_enter Tryd.func22, Tryd.ntmps22
  go_upto_region 1 with fail
  generalize w.alloc (.cells #[.string ⟨#[]⟩, .string ⟨#[]⟩, .int .i64 0, .int .i64 0, .int .i64 0, .string ⟨#[]⟩, .string ⟨#[]⟩] 33) = w0 at *
  go_wp2_with fail
  refine (unhide HI w0 (unhide B0)).mono ?_
  rintro e w3 h3
  have B3 := hide ((unhide B0).trans (h3.1.mono (unhide B0).size))
  have R3 := hide ((unhide R0).below h3.1)
  clear HI B0 R0
  cases ro with
  | none =>
    obtain ⟨_, rfl⟩ := h3.raised
    unfold flt
    go_wp2_with fail
    exact ⟨rfl, RqA.no rfl rfl (unhide B3)⟩
  | some r =>
    obtain ⟨_, rfl⟩ := h3.got
    obtain ⟨f0, f1, f2, f3, f4, f5, f6⟩ := r
    dsimp only [rqV]
    clear h3
    have HY := hide (rq_set (unhide R3) (f0) (f1) (f2) (f3) (f4) (f5) (f6))
    have HK := hide (rq_belowB (w.heap.size) (by omega) (unhide B3) (f0) (f1) (f2) (f3) (f4) (f5) (f6))
    obtain ⟨⟨x0, x1, x2, x3, x4, x5, x6⟩, g0, g1, g2, g3, g4, g5, g6⟩ := Blk.c7 (unhide R3)
    clear R3 B3
    go_wp2_with fail
    obtain ⟨⟨z0, z1, z2, z3, z4, z5, z6⟩, _⟩ := Blk.c7 (unhide HY)
    refine bodyPost_ret (v := rqV ⟨f0, f1, f2, f3, f4, f5, f6⟩) (by simp [results, rqV, Tryd.results22, go_sem, z0, z1, z2, z3, z4, z5, z6]) rfl ?_
    exact RqA.yes rfl rfl (unhide HK)
set_option maxRecDepth 100000 in
set_option maxHeartbeats 4000000 in
theorem open_any (b off cap : Nat) (l : List ByteArray) (w : World) (h0 : 0 < l.length) (hW : Wds w b off l) (hC : Cns w) :
    Calls Tryd.prog 24 #[.slice (some ⟨b, off, none⟩) l.length cap] w fun e w' => RqA (sesO 4 l) w e w' := by
  have HI := hide (fun wx (hx : Below w.heap.size w wx) => ses_any b off cap 4 l wx h0 (hW.below hx) (hC.below hx))
  clear hW hC h0
  generalize sesO 4 l = ro at *
  have B0 := hide ((Below.refl w.heap.size w).alloc (Nat.le_refl _) (.cells #[.string ⟨#[]⟩, .string ⟨#[]⟩, .int .i64 0, .int .i64 0, .int .i64 0, .string ⟨#[]⟩, .string ⟨#[]⟩] 33))
  have R0 := hide (Blk.new w #[.string ⟨#[]⟩, .string ⟨#[]⟩, .int .i64 0, .int .i64 0, .int .i64 0, .string ⟨#[]⟩, .string ⟨#[]⟩] 33 w.heap.size rfl)
  go_enter Tryd.func24, Tryd.ntmps24
  go_upto_region 1 with fail
  generalize w.alloc (.cells #[.string ⟨#[]⟩, .string ⟨#[]⟩, .int .i64 0, .int .i64 0, .int .i64 0, .string ⟨#[]⟩, .string ⟨#[]⟩] 33) = w0 at *
  go_wp2_with fail
  refine (unhide HI w0 (unhide B0)).mono ?_
  rintro e w3 h3
  have B3 := hide ((unhide B0).trans (h3.1.mono (unhide B0).size))
  have R3 := hide ((unhide R0).below h3.1)
  clear HI B0 R0
  cases ro with
  | none =>
    obtain ⟨_, rfl⟩ := h3.raised
    unfold flt
    go_wp2_with fail
    exact ⟨rfl, RqA.no rfl rfl (unhide B3)⟩
  | some r =>
    obtain ⟨_, rfl⟩ := h3.got
    obtain ⟨f0, f1, f2, f3, f4, f5, f6⟩ := r
    dsimp only [rqV]
    clear h3
    have HY := hide (rq_set (unhide R3) (f0) (f1) (f2) (f3) (f4) (f5) (f6))
    have HK := hide (rq_belowB (w.heap.size) (by omega) (unhide B3) (f0) (f1) (f2) (f3) (f4) (f5) (f6))
    obtain ⟨⟨x0, x1, x2, x3, x4, x5, x6⟩, g0, g1, g2, g3, g4, g5, g6⟩ := Blk.c7 (unhide R3)
    clear R3 B3
    go_wp2_with fail
    obtain ⟨⟨z0, z1, z2, z3, z4, z5, z6⟩, _⟩ := Blk.c7 (unhide HY)
    refine bodyPost_ret (v := rqV ⟨f0, f1, f2, f3, f4, f5, f6⟩) (by simp [results, rqV, Tryd.results24, go_sem, z0, z1, z2, z3, z4, z5, z6]) rfl ?_
    exact RqA.yes rfl rfl (unhide HK)
set_option maxRecDepth 100000 in
set_option maxHeartbeats 4000000 in
theorem shut_any (b off cap : Nat) (l : List ByteArray) (w : World) (h0 : 0 < l.length) (hW : Wds w b off l) (hC : Cns w) :
    Calls Tryd.prog 25 #[.slice (some ⟨b, off, none⟩) l.length cap] w fun e w' => RqA (sesO 5 l) w e w' := by
  have HI := hide (fun wx (hx : Below w.heap.size w wx) => ses_any b off cap 5 l wx h0 (hW.below hx) (hC.below hx))
  clear hW hC h0
  generalize sesO 5 l = ro at *
  have B0 := hide ((Below.refl w.heap.size w).alloc (Nat.le_refl _) (.cells #[.string ⟨#[]⟩, .string ⟨#[]⟩, .int .i64 0, .int .i64 0, .int .i64 0, .string ⟨#[]⟩, .string ⟨#[]⟩] 33))
  have R0 := hide (Blk.new w #[.string ⟨#[]⟩, .string ⟨#[]⟩, .int .i64 0, .int .i64 0, .int .i64 0, .string ⟨#[]⟩, .string ⟨#[]⟩] 33 w.heap.size rfl)
  go_enter Tryd.func25, Tryd.ntmps25
  go_upto_region 1 with fail
  generalize w.alloc (.cells #[.string ⟨#[]⟩, .string ⟨#[]⟩, .int .i64 0, .int .i64 0, .int .i64 0, .string ⟨#[]⟩, .string ⟨#[]⟩] 33) = w0 at *
  go_wp2_with fail
  refine (unhide HI w0 (unhide B0)).mono ?_
  rintro e w3 h3
  have B3 := hide ((unhide B0).trans (h3.1.mono (unhide B0).size))
  have R3 := hide ((unhide R0).below h3.1)
  clear HI B0 R0
  cases ro with
  | none =>
    obtain ⟨_, rfl⟩ := h3.raised
    unfold flt
    go_wp2_with fail
    exact ⟨rfl, RqA.no rfl rfl (unhide B3)⟩
  | some r =>
    obtain ⟨_, rfl⟩ := h3.got
    obtain ⟨f0, f1, f2, f3, f4, f5, f6⟩ := r
    dsimp only [rqV]
    clear h3
    have HY := hide (rq_set (unhide R3) (f0) (f1) (f2) (f3) (f4) (f5) (f6))
    have HK := hide (rq_belowB (w.heap.size) (by omega) (unhide B3) (f0) (f1) (f2) (f3) (f4) (f5) (f6))
    obtain ⟨⟨x0, x1, x2, x3, x4, x5, x6⟩, g0, g1, g2, g3, g4, g5, g6⟩ := Blk.c7 (unhide R3)
    clear R3 B3
    go_wp2_with fail
    obtain ⟨⟨z0, z1, z2, z3, z4, z5, z6⟩, _⟩ := Blk.c7 (unhide HY)
    refine bodyPost_ret (v := rqV ⟨f0, f1, f2, f3, f4, f5, f6⟩) (by simp [results, rqV, Tryd.results25, go_sem, z0, z1, z2, z3, z4, z5, z6]) rfl ?_
    exact RqA.yes rfl rfl (unhide HK)
end Go.Proofs.YtihhbngpajephaaDoor.Sha
