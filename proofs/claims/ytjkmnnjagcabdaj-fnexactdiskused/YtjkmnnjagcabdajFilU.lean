/- impl.DiskUsed, spec.DiskUsed, walked. -/
import Derived.Test.YtjkmnnjagcabdajFilP
namespace Go.Proofs.Ytjkmnnjagcabdaj
open Go.ChangeShapes Go.WideShapes Go.ChangeAt Go.RowKit
set_option linter.unusedVariables false

def usedOut (room : Int) (l : List Fl) : Int × Int := if diskB room l then (usedTo l l.length, 0) else (0, 1)
theorem ret_ii {a b c d : Int} (h : a = b) (k : c = d) : Ending.returned (.tuple #[.int .i64 a, .int .i64 c]) = .returned (.tuple #[.int .i64 b, .int .i64 d]) := by rw [h, k]
set_option maxRecDepth 100000 in
set_option maxHeartbeats 1000000 in
theorem implDiskUsed_any (room : Int) (v : Value) (l : List Fl) (w : World) (h : Fls w v l) (hs : Small l) :
    Calls Try.prog 14 #[.agg #[.int .i64 room, v]] w fun e w' => e = .returned (.tuple #[.int .i64 (usedOut room l).1, .int .i64 (usedOut room l).2]) ∧ Below w.heap.size w w' := by
  have HF := hide h
  obtain ⟨a, cap, rfl, hn, hm, hc⟩ := h
  have HS := hide hs
  clear hc hs hm hn
  have B0 := hide ((Below.refl w.heap.size w).alloc (Nat.le_refl _) (.cells #[.int .i64 room, .slice a l.length cap] 29))
  have X0 := hide (Blk.new w #[.int .i64 room, .slice a l.length cap] 29 w.heap.size rfl)
  have HU : Hid (usedOut room l = if diskB room l then (usedTo l l.length, 0) else (0, 1)) := rfl
  go_enter Try.func14, Try.ntmps14
  go_wp2_with fail
  generalize w.alloc (.cells #[.int .i64 room, .slice a l.length cap] 29) = w0 at *
  refine (implDiskOK_any room _ l w0 ((unhide HF).below (unhide B0)) (unhide HS)).mono ?_
  rintro e w1 ⟨rfl, hb1⟩
  have K1 := hide ((unhide B0).trans (hb1.mono (unhide B0).size))
  have A1 := hide ((unhide HF).below (unhide K1))
  have X1 := (unhide X0).below hb1
  have x0 := X1.cell 0 rfl
  have x1 := X1.cell 1 rfl
  clear hb1 X1
  cases hd : diskB room l
  · rw [hd, if_neg (by simp)] at HU
    go_wp2_with fail
    go_ret2
    exact ⟨ret_ii (by rw [unhide HU]) (by rw [unhide HU]), unhide K1⟩
  · rw [hd, if_pos rfl] at HU
    go_wp2_with fail
    refine (fileBytes_any _ l w1 (unhide A1) (unhide HS).2.1 (unhide HS).1).mono ?_
    rintro e w2 ⟨rfl, hb2⟩
    have K2 := hide ((unhide K1).trans (hb2.mono (unhide K1).size))
    clear hb2
    generalize usedTo l l.length = u at *
    go_wp2_with fail
    go_ret2
    exact ⟨ret_ii (by rw [unhide HU]) (by rw [unhide HU]), unhide K2⟩
set_option maxRecDepth 100000 in
set_option maxHeartbeats 1000000 in
theorem specDiskUsed_any (room : Int) (v : Value) (l : List Fl) (w : World) (h : Fls w v l) (hs : Small l) :
    Calls Try.prog 13 #[.agg #[.int .i64 room, v]] w fun e w' => e = .returned (.tuple #[.int .i64 (usedOut room l).1, .int .i64 (usedOut room l).2]) ∧ Below w.heap.size w w' := by
  have HF := hide h
  obtain ⟨a, cap, rfl, hn, hm, hc⟩ := h
  have HS := hide hs
  clear hc hs hm hn
  have B0 := hide ((Below.refl w.heap.size w).alloc (Nat.le_refl _) (.cells #[.int .i64 room, .slice a l.length cap] 29))
  have X0 := hide (Blk.new w #[.int .i64 room, .slice a l.length cap] 29 w.heap.size rfl)
  have HU : Hid (usedOut room l = if diskB room l then (usedTo l l.length, 0) else (0, 1)) := rfl
  go_enter Try.func13, Try.ntmps13
  go_wp2_with fail
  generalize w.alloc (.cells #[.int .i64 room, .slice a l.length cap] 29) = w0 at *
  refine (specDiskOK_any room _ l w0 ((unhide HF).below (unhide B0)) (unhide HS)).mono ?_
  rintro e w1 ⟨rfl, hb1⟩
  have K1 := hide ((unhide B0).trans (hb1.mono (unhide B0).size))
  have A1 := hide ((unhide HF).below (unhide K1))
  have X1 := (unhide X0).below hb1
  have x0 := X1.cell 0 rfl
  have x1 := X1.cell 1 rfl
  clear hb1 X1
  cases hd : diskB room l
  · rw [hd, if_neg (by simp)] at HU
    go_wp2_with fail
    go_ret2
    exact ⟨ret_ii (by rw [unhide HU]) (by rw [unhide HU]), unhide K1⟩
  · rw [hd, if_pos rfl] at HU
    go_wp2_with fail
    refine (l03Used_any room _ l w1 (unhide A1) (unhide HS).2.1 (unhide HS).1).mono ?_
    rintro e w2 ⟨rfl, hb2⟩
    have K2 := hide ((unhide K1).trans (hb2.mono (unhide K1).size))
    clear hb2
    generalize usedTo l l.length = u at *
    go_wp2_with fail
    go_ret2
    exact ⟨ret_ii (by rw [unhide HU]) (by rw [unhide HU]), unhide K2⟩
end Go.Proofs.Ytjkmnnjagcabdaj
