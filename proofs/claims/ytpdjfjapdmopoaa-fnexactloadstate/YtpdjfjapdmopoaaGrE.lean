/- Both LoadState, walked. A state's marks, laid and found again: laws.markEntryS, heldEntryS, markState, heldState. A disk that came in, opened. A disk's marks laid: laws.markFileS, laws.markDisk. -/
import Derived.Test.YtpdjfjapdmopoaaGrB
import Derived.Test.YtpdjfjapdmopoaaGrC
import Derived.Test.YtpdjfjapdmopoaaGrD
import Derived.Test.YtpdjfjapdmopoaaStL
import Derived.Test.YtpdjfjapdmopoaaStr
import Derived.Test.YtpdjfjapdmopoaaFilL
import Derived.Deep.Fields
import Derived.Deep.Slices
import Derived.Test.YtpdjfjapdmopoaaLawG
namespace Go.Proofs.Ytpdjfjapdmopoaa
open Go.ChangeShapes Go.WideShapes Go.ChangeAt Go.RowKit
set_option linter.unusedVariables false
set_option linter.unusedSimpArgs false

set_option maxRecDepth 100000 in
set_option maxHeartbeats 4000000 in
theorem implLoad_any (room : Int) (v : Value) (l : List Fl) (w : World) (h : Fls w v l) (hs : Small l) :
    Calls Try.prog 17 #[.agg #[.int .i64 room, v]] w fun e w' => ∃ a c, e = .returned (.tuple #[.agg #[.int .i64 (ldOut room l).1.tm, .int .i64 (ldOut room l).1.vo, .slice a (ldOut room l).1.l.length c], .int .i64 (ldOut room l).2]) ∧ OwnE (w.heap.size + 2) w' (.slice a (ldOut room l).1.l.length c) (ldOut room l).1.l ∧ Below w.heap.size w w' := by
  have HF := hide h
  have HS := hide hs
  obtain ⟨a, cap, rfl, hn, hm, hc⟩ := h
  clear hc hm hn hs
  have B0 := hide (((Below.refl w.heap.size w).alloc (Nat.le_refl _) (.cells #[.int .i64 room, .slice a l.length cap] 41)).alloc (by simp) (.cells #[.int .i64 0, .int .i64 0, .slice none 0 0] 26))
  have R0 := hide (Blk.new (w.alloc (.cells #[.int .i64 room, .slice a l.length cap] 41)) #[.int .i64 0, .int .i64 0, .slice none 0 0] 26 (w.heap.size + 1) (by simp))
  obtain ⟨hrl, hrs⟩ := wal_recs room l
  have HRS : Hid (∀ i, ((walOut room l).1.recs.getD i ByteArray.empty).size ≤ 65536) := hide (fun i => by
    by_cases hi : i < (walOut room l).1.recs.length
    · rw [List.getD_eq_getElem?_getD, List.getElem?_eq_getElem hi]
      have := hrs _ (List.getElem_mem hi)
      show ((walOut room l).1.recs[i]).size ≤ 65536
      omega
    · rw [List.getD_eq_getElem?_getD, List.getElem?_eq_none (by omega)]; simp)
  have HLD : Hid (ldOut room l = if (walOut room l).2 = 0 then (match foldS (walOut room l).1.recs with | some s => (s, 0) | none => (st0, 3)) else (st0, (walOut room l).2)) := rfl
  clear hrs
  go_enter Try.func17, Try.ntmps17
  go_wp2_with fail
  generalize (w.alloc (.cells #[.int .i64 room, .slice a l.length cap] 41)).alloc (.cells #[.int .i64 0, .int .i64 0, .slice none 0 0] 26) = w0 at *
  refine (implWalRead_any room _ l w0 ((unhide HF).below (unhide B0)) (unhide HS)).mono ?_
  rintro e w1 ⟨ra, rn, rc, na, nn, nc, rfl, hA, hb1⟩
  obtain ⟨ra', rc', hre⟩ := hA.2.2.2.1
  cases hre
  generalize (walOut room l).1.first = wf at *
  generalize (walOut room l).1.torn = wt at *
  have HSR := hA.1.strs
  generalize (walOut room l).2 = wcode at *
  generalize hL : (walOut room l).1.recs = L at *
  have AA := (Below.refl w1.heap.size w1).alloc (Nat.le_refl _) (.cells #[.int .i64 wf, .slice ra L.length rc, .slice na nn nc, .int .i64 wt] 59)
  have B1 := hide (((unhide B0).trans (hb1.mono (unhide B0).size)).trans (AA.mono (Nat.le_trans (unhide B0).size hb1.size)))
  have R1 := hide (((unhide R0).below hb1).below AA)
  have X1 := hide (Blk.new w1 #[.int .i64 wf, .slice ra L.length rc, .slice na nn nc, .int .i64 wt] 59 w1.heap.size rfl)
  have S1 := hide (HSR.below AA)
  clear hA hb1 AA HSR hL
  by_cases hcode : wcode = 0
  · subst hcode
    rw [if_pos rfl] at HLD
    have x1 := (unhide X1).cell 1 rfl
    have hw1 := (unhide R1).1
    go_wp2_with fail
    generalize w1.alloc (.cells #[.int .i64 wf, .slice ra L.length rc, .slice na nn nc, .int .i64 wt] 59) = w2 at *
    have HFC := hide (fold_code L hrl)
    refine (implFold_any _ L w2 (unhide S1) (by omega) (fun i => Nat.le_trans (unhide HRS i) (by omega))).mono ?_
    rintro e w3 ⟨sa, sc, rfl, hO3, hb3⟩
    generalize foldOut L = fo at *
    obtain ⟨⟨tm, vo, p⟩, fc⟩ := fo
    dsimp only at *
    have AN := (Below.refl w3.heap.size w3).alloc (Nat.le_refl _) (.cells #[.int .i64 tm, .int .i64 vo, .slice sa p.length sc] 26)
    have B3 := hide (((unhide B1).trans (hb3.mono (unhide B1).size)).trans (AN.mono (Nat.le_trans (unhide B1).size hb3.size)))
    have R3 := hide (((unhide R1).below hb3).below AN)
    have N3 := hide (Blk.new w3 #[.int .i64 tm, .int .i64 vo, .slice sa p.length sc] 26 w3.heap.size rfl)
    have O3 := hide (World.ownsRow_monoE (base' := w.heap.size + 2) (hO3.below AN) (by omega))
    clear hb3 hO3 AN x1
    by_cases hfc : fc = 0
    · subst hfc
      have HD := hide (show ldOut room l = (⟨tm, vo, p⟩, 0) from (unhide HLD).trans ((unhide HFC).trans (if_pos rfl)))
      go_upto_region 7 with fail
      generalize w3.alloc (.cells #[.int .i64 tm, .int .i64 vo, .slice sa p.length sc] 26) = w4 at *
      have n0 := (unhide N3).cell 0 rfl
      have n1 := (unhide N3).cell 1 rfl
      have n2 := (unhide N3).cell 2 rfl
      have r0 := (unhide R3).cell 0 rfl
      have r1 := (unhide R3).cell 1 rfl
      have r2 := (unhide R3).cell 2 rfl
      have f0 := (unhide R3).fro 0
      have f1 := (unhide R3).fro 1
      have f2 := (unhide R3).fro 2
      have W1 := hide (fold_ret (B := w.heap.size + 2) (tm := tm) (vo := vo)  (unhide R3) ((unhide O3 : OwnE _ _ (.slice sa p.length sc) p)) (by omega))
      have K9 := hide ((unhide B3).trans ((unhide W1).2.2.mono (Nat.le_succ _)))
      go_wp2_with fail
      generalize ((w4.setCell ⟨w.heap.size + 1, 0, none⟩ (.int .i64 tm)).setCell ⟨w.heap.size + 1, 1, none⟩ (.int .i64 vo)).setCell ⟨w.heap.size + 1, 2, none⟩ (.slice sa p.length sc) = wf9 at *
      have z0 := (unhide W1).1.cell 0 rfl
      have z1 := (unhide W1).1.cell 1 rfl
      have z2 := (unhide W1).1.cell 2 rfl
      refine bodyPost_ret (v := .tuple #[.agg #[.int .i64 tm, .int .i64 vo, (.slice sa p.length sc)], .int .i64 0]) (by simp [results, Try.results17, go_sem, z0, z1, z2]) rfl ?_
      rw [unhide HD]
      exact ⟨sa, sc, rfl, (unhide W1).2.1, unhide K9⟩
    · have HD := hide (show ldOut room l = (st0, 3) from (unhide HLD).trans ((unhide HFC).trans (if_neg hfc)))
      have hfi : ¬ fc = 0 := hfc
      go_upto_region 6 with fail
      generalize w3.alloc (.cells #[.int .i64 tm, .int .i64 vo, .slice sa p.length sc] 26) = w4 at *
      have r0 := (unhide R3).cell 0 rfl
      have r1 := (unhide R3).cell 1 rfl
      have r2 := (unhide R3).cell 2 rfl
      have f0 := (unhide R3).fro 0
      have f1 := (unhide R3).fro 1
      have f2 := (unhide R3).fro 2
      have W1 := hide (fold_ret (B := w.heap.size + 2) (tm := 0) (vo := 0) (a := none) (n := 0) (c := 0) (l := []) (unhide R3) (World.ownsRow_nil _ _ 78 3) (by omega))
      have K9 := hide ((unhide B3).trans ((unhide W1).2.2.mono (Nat.le_succ _)))
      go_wp2_with fail
      generalize ((w4.setCell ⟨w.heap.size + 1, 0, none⟩ (.int .i64 0)).setCell ⟨w.heap.size + 1, 1, none⟩ (.int .i64 0)).setCell ⟨w.heap.size + 1, 2, none⟩ (.slice none 0 0) = wf9 at *
      have z0 := (unhide W1).1.cell 0 rfl
      have z1 := (unhide W1).1.cell 1 rfl
      have z2 := (unhide W1).1.cell 2 rfl
      refine bodyPost_ret (v := .tuple #[.agg #[.int .i64 0, .int .i64 0, (.slice none 0 0)], .int .i64 3]) (by simp [results, Try.results17, go_sem, z0, z1, z2]) rfl ?_
      rw [unhide HD]
      exact ⟨none, 0, rfl, (unhide W1).2.1, unhide K9⟩
  · rw [if_neg hcode] at HLD
    have HD := hide (unhide HLD)
    clear HLD
    go_upto_region 3 with fail
    generalize w1.alloc (.cells #[.int .i64 wf, .slice ra L.length rc, .slice na nn nc, .int .i64 wt] 59) = w2 at *
    have r0 := (unhide R1).cell 0 rfl
    have r1 := (unhide R1).cell 1 rfl
    have r2 := (unhide R1).cell 2 rfl
    have f0 := (unhide R1).fro 0
    have f1 := (unhide R1).fro 1
    have f2 := (unhide R1).fro 2
    have W1 := hide (fold_ret (B := w.heap.size + 2) (tm := 0) (vo := 0) (a := none) (n := 0) (c := 0) (l := []) (unhide R1) (World.ownsRow_nil _ _ 78 3) (by omega))
    have K9 := hide ((unhide B1).trans ((unhide W1).2.2.mono (Nat.le_succ _)))
    go_wp2_with fail
    generalize ((w2.setCell ⟨w.heap.size + 1, 0, none⟩ (.int .i64 0)).setCell ⟨w.heap.size + 1, 1, none⟩ (.int .i64 0)).setCell ⟨w.heap.size + 1, 2, none⟩ (.slice none 0 0) = wf9 at *
    have z0 := (unhide W1).1.cell 0 rfl
    have z1 := (unhide W1).1.cell 1 rfl
    have z2 := (unhide W1).1.cell 2 rfl
    refine bodyPost_ret (v := .tuple #[.agg #[.int .i64 0, .int .i64 0, (.slice none 0 0)], .int .i64 wcode]) (by simp [results, Try.results17, go_sem, z0, z1, z2]) rfl ?_
    rw [unhide HD]
    exact ⟨none, 0, rfl, (unhide W1).2.1, unhide K9⟩
set_option maxRecDepth 100000 in
set_option maxHeartbeats 4000000 in
theorem specLoad_any (room : Int) (v : Value) (l : List Fl) (w : World) (h : Fls w v l) (hs : Small l) :
    Calls Try.prog 15 #[.agg #[.int .i64 room, v]] w fun e w' => ∃ a c, e = .returned (.tuple #[.agg #[.int .i64 (ldOut room l).1.tm, .int .i64 (ldOut room l).1.vo, .slice a (ldOut room l).1.l.length c], .int .i64 (ldOut room l).2]) ∧ OwnE (w.heap.size + 2) w' (.slice a (ldOut room l).1.l.length c) (ldOut room l).1.l ∧ Below w.heap.size w w' := by
  have HF := hide h
  have HS := hide hs
  obtain ⟨a, cap, rfl, hn, hm, hc⟩ := h
  clear hc hm hn hs
  have B0 := hide (((Below.refl w.heap.size w).alloc (Nat.le_refl _) (.cells #[.int .i64 room, .slice a l.length cap] 41)).alloc (by simp) (.cells #[.int .i64 0, .int .i64 0, .slice none 0 0] 26))
  have R0 := hide (Blk.new (w.alloc (.cells #[.int .i64 room, .slice a l.length cap] 41)) #[.int .i64 0, .int .i64 0, .slice none 0 0] 26 (w.heap.size + 1) (by simp))
  obtain ⟨hrl, hrs⟩ := wal_recs room l
  have HRS : Hid (∀ i, ((walOut room l).1.recs.getD i ByteArray.empty).size ≤ 65536) := hide (fun i => by
    by_cases hi : i < (walOut room l).1.recs.length
    · rw [List.getD_eq_getElem?_getD, List.getElem?_eq_getElem hi]
      have := hrs _ (List.getElem_mem hi)
      show ((walOut room l).1.recs[i]).size ≤ 65536
      omega
    · rw [List.getD_eq_getElem?_getD, List.getElem?_eq_none (by omega)]; simp)
  have HLD : Hid (ldOut room l = if (walOut room l).2 = 0 then (match foldS (walOut room l).1.recs with | some s => (s, 0) | none => (st0, 3)) else (st0, (walOut room l).2)) := rfl
  clear hrs
  go_enter Try.func15, Try.ntmps15
  go_wp2_with fail
  generalize (w.alloc (.cells #[.int .i64 room, .slice a l.length cap] 41)).alloc (.cells #[.int .i64 0, .int .i64 0, .slice none 0 0] 26) = w0 at *
  refine (specWalRead_any room _ l w0 ((unhide HF).below (unhide B0)) (unhide HS)).mono ?_
  rintro e w1 ⟨ra, rn, rc, na, nn, nc, rfl, hA, hb1⟩
  obtain ⟨ra', rc', hre⟩ := hA.2.2.2.1
  cases hre
  generalize (walOut room l).1.first = wf at *
  generalize (walOut room l).1.torn = wt at *
  have HSR := hA.1.strs
  generalize (walOut room l).2 = wcode at *
  generalize hL : (walOut room l).1.recs = L at *
  have AA := (Below.refl w1.heap.size w1).alloc (Nat.le_refl _) (.cells #[.int .i64 wf, .slice ra L.length rc, .slice na nn nc, .int .i64 wt] 59)
  have B1 := hide (((unhide B0).trans (hb1.mono (unhide B0).size)).trans (AA.mono (Nat.le_trans (unhide B0).size hb1.size)))
  have R1 := hide (((unhide R0).below hb1).below AA)
  have X1 := hide (Blk.new w1 #[.int .i64 wf, .slice ra L.length rc, .slice na nn nc, .int .i64 wt] 59 w1.heap.size rfl)
  have S1 := hide (HSR.below AA)
  clear hA hb1 AA HSR hL
  by_cases hcode : wcode = 0
  · subst hcode
    rw [if_pos rfl] at HLD
    have x1 := (unhide X1).cell 1 rfl
    have hw1 := (unhide R1).1
    go_wp2_with fail
    generalize w1.alloc (.cells #[.int .i64 wf, .slice ra L.length rc, .slice na nn nc, .int .i64 wt] 59) = w2 at *
    refine (l05FoldAll_any _ L w2 (unhide S1) (by omega) (unhide HRS)).mono ?_
    rintro e w3 ⟨tm, vo, sa, sn, sc, rfl, hst, hb3⟩
    have AN := (Below.refl w3.heap.size w3).alloc (Nat.le_refl _) (.cells #[.int .i64 tm, .int .i64 vo, .slice sa sn sc] 26)
    have B3 := hide (((unhide B1).trans (hb3.mono (unhide B1).size)).trans (AN.mono (Nat.le_trans (unhide B1).size hb3.size)))
    have R3 := hide (((unhide R1).below hb3).below AN)
    have N3 := hide (Blk.new w3 #[.int .i64 tm, .int .i64 vo, .slice sa sn sc] 26 w3.heap.size rfl)
    have HST := hide (fun s' (hs : foldS L = some s') => by
      obtain ⟨e1, e2, e3, e4⟩ := hst s' hs
      exact And.intro e1 (And.intro e2 (And.intro e3 (World.ownsRow_monoE (base' := w.heap.size + 2) (e4.below AN) (by omega)))))
    clear hb3 hst AN x1
    cases hfs : foldS L with
    | some s' =>
      rw [hfs] at HLD
      have HD := hide (show ldOut room l = (s', 0) from unhide HLD)
      obtain ⟨rfl, rfl, rfl, hO⟩ := unhide HST s' hfs
      have O3 := hide hO
      rw [show (some s').isSome = true from rfl]
      clear hfs HST hO
      obtain ⟨tm, vo, p⟩ := s'
      dsimp only at *
      go_upto_region 7 with fail
      generalize w3.alloc (.cells #[.int .i64 tm, .int .i64 vo, .slice sa p.length sc] 26) = w4 at *
      have n0 := (unhide N3).cell 0 rfl
      have n1 := (unhide N3).cell 1 rfl
      have n2 := (unhide N3).cell 2 rfl
      have r0 := (unhide R3).cell 0 rfl
      have r1 := (unhide R3).cell 1 rfl
      have r2 := (unhide R3).cell 2 rfl
      have f0 := (unhide R3).fro 0
      have f1 := (unhide R3).fro 1
      have f2 := (unhide R3).fro 2
      have W1 := hide (fold_ret (B := w.heap.size + 2) (tm := tm) (vo := vo)  (unhide R3) ((unhide O3 : OwnE _ _ (.slice sa p.length sc) p)) (by omega))
      have K9 := hide ((unhide B3).trans ((unhide W1).2.2.mono (Nat.le_succ _)))
      go_wp2_with fail
      generalize ((w4.setCell ⟨w.heap.size + 1, 0, none⟩ (.int .i64 tm)).setCell ⟨w.heap.size + 1, 1, none⟩ (.int .i64 vo)).setCell ⟨w.heap.size + 1, 2, none⟩ (.slice sa p.length sc) = wf9 at *
      have z0 := (unhide W1).1.cell 0 rfl
      have z1 := (unhide W1).1.cell 1 rfl
      have z2 := (unhide W1).1.cell 2 rfl
      refine bodyPost_ret (v := .tuple #[.agg #[.int .i64 tm, .int .i64 vo, (.slice sa p.length sc)], .int .i64 0]) (by simp [results, Try.results15, go_sem, z0, z1, z2]) rfl ?_
      rw [unhide HD]
      exact ⟨sa, sc, rfl, (unhide W1).2.1, unhide K9⟩
    | none =>
      rw [hfs] at HLD
      have HD := hide (show ldOut room l = (st0, 3) from unhide HLD)
      rw [show (none : Option St).isSome = false from rfl]
      clear hfs HST
      go_upto_region 6 with fail
      generalize w3.alloc (.cells #[.int .i64 tm, .int .i64 vo, .slice sa sn sc] 26) = w4 at *
      have r0 := (unhide R3).cell 0 rfl
      have r1 := (unhide R3).cell 1 rfl
      have r2 := (unhide R3).cell 2 rfl
      have f0 := (unhide R3).fro 0
      have f1 := (unhide R3).fro 1
      have f2 := (unhide R3).fro 2
      have W1 := hide (fold_ret (B := w.heap.size + 2) (tm := 0) (vo := 0) (a := none) (n := 0) (c := 0) (l := []) (unhide R3) (World.ownsRow_nil _ _ 78 3) (by omega))
      have K9 := hide ((unhide B3).trans ((unhide W1).2.2.mono (Nat.le_succ _)))
      go_wp2_with fail
      generalize ((w4.setCell ⟨w.heap.size + 1, 0, none⟩ (.int .i64 0)).setCell ⟨w.heap.size + 1, 1, none⟩ (.int .i64 0)).setCell ⟨w.heap.size + 1, 2, none⟩ (.slice none 0 0) = wf9 at *
      have z0 := (unhide W1).1.cell 0 rfl
      have z1 := (unhide W1).1.cell 1 rfl
      have z2 := (unhide W1).1.cell 2 rfl
      refine bodyPost_ret (v := .tuple #[.agg #[.int .i64 0, .int .i64 0, (.slice none 0 0)], .int .i64 3]) (by simp [results, Try.results15, go_sem, z0, z1, z2]) rfl ?_
      rw [unhide HD]
      exact ⟨none, 0, rfl, (unhide W1).2.1, unhide K9⟩
  · rw [if_neg hcode] at HLD
    have HD := hide (unhide HLD)
    clear HLD
    go_upto_region 3 with fail
    generalize w1.alloc (.cells #[.int .i64 wf, .slice ra L.length rc, .slice na nn nc, .int .i64 wt] 59) = w2 at *
    have r0 := (unhide R1).cell 0 rfl
    have r1 := (unhide R1).cell 1 rfl
    have r2 := (unhide R1).cell 2 rfl
    have f0 := (unhide R1).fro 0
    have f1 := (unhide R1).fro 1
    have f2 := (unhide R1).fro 2
    have W1 := hide (fold_ret (B := w.heap.size + 2) (tm := 0) (vo := 0) (a := none) (n := 0) (c := 0) (l := []) (unhide R1) (World.ownsRow_nil _ _ 78 3) (by omega))
    have K9 := hide ((unhide B1).trans ((unhide W1).2.2.mono (Nat.le_succ _)))
    go_wp2_with fail
    generalize ((w2.setCell ⟨w.heap.size + 1, 0, none⟩ (.int .i64 0)).setCell ⟨w.heap.size + 1, 1, none⟩ (.int .i64 0)).setCell ⟨w.heap.size + 1, 2, none⟩ (.slice none 0 0) = wf9 at *
    have z0 := (unhide W1).1.cell 0 rfl
    have z1 := (unhide W1).1.cell 1 rfl
    have z2 := (unhide W1).1.cell 2 rfl
    refine bodyPost_ret (v := .tuple #[.agg #[.int .i64 0, .int .i64 0, (.slice none 0 0)], .int .i64 wcode]) (by simp [results, Try.results15, go_sem, z0, z1, z2]) rfl ?_
    rw [unhide HD]
    exact ⟨none, 0, rfl, (unhide W1).2.1, unhide K9⟩
end Go.Proofs.Ytpdjfjapdmopoaa
namespace Go.Proofs.Ytpdjfjapdmopoaa
open Go.ChangeShapes Go.WideShapes Go.ChangeAt Go.RowKit
set_option linter.unusedVariables false
set_option linter.unusedSimpArgs false

theorem wrapSm (n : Int) (h0 : 0 ≤ n) (h1 : n < 9223372036854775808) : IntKind.i64.wrap n = n := by
  simp only [IntKind.wrap, IntKind.bits, IntKind.signed]
  simp
  omega
def mkEn (c j : Nat) : En := ⟨(c : Int) + 3 * (j : Int), (c : Int) + 3 * (j : Int) + 1, mtx (c + 3 * j + 2)⟩
/-- The entries, the first k of them marked from c on. -/
def mkTo (c : Nat) (l : List En) (k : Nat) : List En := (List.range l.length).map fun j => if j < k then mkEn c j else l.getD j default
def mkEs (c n : Nat) : List En := (List.range n).map fun j => mkEn c j
theorem mkTo_len (c : Nat) (l : List En) (k : Nat) : (mkTo c l k).length = l.length := by simp [mkTo]
theorem mkEs_len (c n : Nat) : (mkEs c n).length = n := by simp [mkEs]
theorem mkEs_get (c n j : Nat) (h : j < n) : (mkEs c n).getD j default = mkEn c j := by simp [mkEs, List.getD_eq_getElem?_getD, h]
theorem mkTo_zero (c : Nat) (l : List En) : mkTo c l 0 = l := by
  apply List.ext_getElem?
  intro j
  by_cases hj : j < l.length
  · simp [mkTo, hj, List.getD_eq_getElem?_getD]
  · simp [mkTo, hj]
theorem mkTo_all (c : Nat) (l : List En) : mkTo c l l.length = mkEs c l.length := by
  apply List.ext_getElem?
  intro j
  by_cases hj : j < l.length
  · simp [mkTo, mkEs, hj]
  · simp [mkTo, mkEs, hj]
theorem mkTo_set (c : Nat) (l : List En) (k : Nat) (hk : k < l.length) : (mkTo c l k).set k (mkEn c k) = mkTo c l (k + 1) := by
  apply List.ext_getElem?
  intro j
  rw [List.getElem?_set]
  simp only [mkTo_len]
  by_cases e : k = j
  · subst e
    rw [if_pos rfl, if_pos hk]
    simp [mkTo, hk]
  · rw [if_neg e]
    by_cases hj : j < l.length
    · by_cases h1 : j < k
      · simp [mkTo, hj, h1, show j < k + 1 by omega]
      · simp [mkTo, hj, h1, show ¬ j < k + 1 by omega]
    · simp [mkTo, hj]
set_option maxRecDepth 100000 in
set_option maxHeartbeats 2000000 in
theorem markEntryS_any (c : Nat) (hc0 : 0 < c) (hc1 : c ≤ 4194304) (B : Nat) (v : Value) (l : List En) (w : World) (h : OwnE B w v l) (hl : l.length ≤ 1048576) :
    Calls Try.prog 26 #[v, .int .i64 (c : Int)] w fun e w' => e = .returned (.int .i64 ((c : Int) + 3 * (l.length : Int))) ∧ OwnE B w' v (mkEs c l.length) ∧ Touch (fun k => v.ownBlock = some k) w w' := by
  rcases own_shape h with ⟨rfl, h0⟩ | ⟨g, cap, rfl, hB, hlt0, hn, hm⟩
  · obtain rfl : l = [] := List.eq_nil_of_length_eq_zero h0
    have HO : Hid (OwnE B w (.slice none 0 0) (mkEs c 0)) := hide h
    clear h
    go_enter Try.func26, Try.ntmps26
    go_wp2_with fail
    go_loop [1, 5] (fun k i => k = .int .i64 (c : Int) ∧ i = .int .i64 0) (fun _ _ => 0)
    case atStart => exact ⟨rfl, rfl⟩
    case round =>
      obtain ⟨rfl, rfl⟩ := hrel
      go_wp2_with fail
      go_ret
      exact ⟨ret_int (by simp), unhide HO, Touch.refl _ _⟩
  · have H : Hid (w.ownsRow B 78 3 (.slice (some ⟨g, 0, none⟩) l.length cap) l.length (ensC (mkTo c l 0))) := hide (by rw [mkTo_zero]; exact h)
    clear h
    go_enter Try.func26, Try.ntmps26
    go_wp2_with fail
    go_loopw [1, 5] (fun k i wr => ∃ j : Nat, j ≤ l.length ∧ k = .int .i64 ((c : Int) + 3 * (j : Int)) ∧ i = .int .i64 j ∧ wr.ownsRow B 78 3 (.slice (some ⟨g, 0, none⟩) l.length cap) l.length (ensC (mkTo c l j)) ∧ Touch (fun k => (Value.slice (some ⟨g, 0, none⟩) l.length cap).ownBlock = some k) w wr) (fun _ i _ => l.length - (intOf i).toNat)
    case atStart => exact ⟨0, Nat.zero_le _, congrArg (Value.int .i64) (by omega), rfl, unhide H, Touch.refl _ _⟩
    case round =>
      obtain ⟨j, hj, rfl, rfl, hL, hT⟩ := hrel
      by_cases hlt2 : j < l.length
      · have p0 : (0 : Int) ≤ (j : Int) := by omega
        have p1 : (j : Int) < (l.length : Int) := by omega
        have hfl := ensC_len (mkTo c l j)
        have hml := mkTo_len c l j
        obtain ⟨g0, g1, g2⟩ := ensC_get (mkTo c l j) j (by omega)
        have q1 : IntKind.i64.wrap ((c : Int) + 3 * (j : Int) + 1) = (c : Int) + 3 * (j : Int) + 1 := wrapSm _ (by omega) (by omega)
        have q2 : IntKind.i64.wrap ((c : Int) + 3 * (j : Int) + 1 + 1) = (c : Int) + 3 * (j : Int) + 1 + 1 := wrapSm _ (by omega) (by omega)
        have q3 : IntKind.i64.wrap ((c : Int) + 3 * (j : Int) + 1 + 1 + 1) = (c : Int) + 3 * (j : Int) + 1 + 1 + 1 := wrapSm _ (by omega) (by omega)
        have c0 := (hL.cellAt (j * 3) (by omega)).trans g0
        have c1 := (hL.cellAt (j * 3 + 1) (by omega)).trans g1
        have f0 := hL.frozenAt (j * 3)
        have f1 := hL.frozenAt (j * 3 + 1)
        have hL1 := (hL.stored (j * 3) (.int .i64 ((c : Int) + 3 * (j : Int)))).1
        have hL2 := (hL1.stored (j * 3 + 1) (.int .i64 ((c : Int) + 3 * (j : Int) + 1))).1
        have hT2 := (hT.setCell ⟨g, j * 3, none⟩ (.int .i64 ((c : Int) + 3 * (j : Int))) (fun _ => rfl)).setCell ⟨g, j * 3 + 1, none⟩ (.int .i64 ((c : Int) + 3 * (j : Int) + 1)) (fun _ => rfl)
        have c2 := (hL2.cellAt (j * 3 + 2) (by omega)).trans ((List.getElem?_set_ne (by omega)).trans ((List.getElem?_set_ne (by omega)).trans g2))
        have HL2 := hide (And.intro hL2 hT2)
        have HC2 := hide c2
        have HSET := hide (ensC_set (mkTo c l j) j (mkEn c j) (by omega))
        have HST := hide (mkTo_set c l j hlt2)
        have HFL := hide (And.intro hfl hml)
        clear hL hT hL1 hL2 hT2 c2 hfl hml g0 g1 g2
        go_wp2_with fail
        clear c0 c1 f0 f1
        generalize (wr.setCell ⟨g, j * 3, none⟩ (.int .i64 ((c : Int) + 3 * (j : Int)))).setCell ⟨g, j * 3 + 1, none⟩ (.int .i64 ((c : Int) + 3 * (j : Int) + 1)) = w3 at *
        refine (markText_int _ (c + 3 * j + 2) (by omega) w3 (by omega) (by omega)).mono ?_
        rintro e w4 ⟨rfl, hb4⟩
        have hO4 := own_kept (T := fun _ => False) (unhide HL2).1 (Touch.ofBelow hb4) (fun _ _ h => h)
        have hT4 : Touch (fun k => (Value.slice (some ⟨g, 0, none⟩) l.length cap).ownBlock = some k) w w4 := (unhide HL2).2.trans (T' := fun _ => False) (Touch.ofBelow hb4) (fun _ _ h => h.elim)
        have hlt3 : g < w3.heap.size := (World.ownsRow.lt (unhide HL2).1 g rfl).2
        have c2 := (hb4.cell (p := ⟨g, j * 3 + 2, none⟩) hlt3).trans (unhide HC2)
        have f2 := hO4.frozenAt (j * 3 + 2)
        have hO5 := (hO4.stored (j * 3 + 2) (.string (mtx (c + 3 * j + 2)))).1
        have hT5 := hT4.setCell ⟨g, j * 3 + 2, none⟩ (.string (mtx (c + 3 * j + 2))) (fun _ => rfl)
        have hse := unhide HSET
        simp only [mkEn] at hse
        rw [hse] at hO5
        have hst := unhide HST
        simp only [mkEn] at hst
        rw [hst] at hO5
        have R6 := hide (And.intro hO5 hT5)
        clear hb4 hO4 hT4 hO5 hT5 hse hst HL2 HC2 HSET HST HFL
        generalize mtx (c + 3 * j + 2) = x2 at *
        go_wp2_with fail
        refine ⟨⟨j + 1, by omega, ?_, by go_num, (unhide R6).1, (unhide R6).2⟩, ?_⟩
        · exact congrArg (Value.int .i64) (by omega)
        · simp [intOf]; omega
      · obtain rfl : j = l.length := by omega
        have R := hide (And.intro hL hT)
        clear hL hT
        go_wp2_with fail
        go_ret
        refine ⟨rfl, ?_, (unhide R).2⟩
        have := (unhide R).1
        rw [mkTo_all] at this
        unfold OwnE
        rw [mkEs_len]
        exact this
set_option maxRecDepth 100000 in
set_option maxHeartbeats 2000000 in
theorem heldEntryS_any (c : Nat) (hc0 : 0 < c) (hc1 : c ≤ 4194304) (B : Nat) (v : Value) (n : Nat) (w : World) (h : OwnE B w v (mkEs c n)) (hl : n ≤ 1048576) :
    Calls Try.prog 27 #[v, .int .i64 (c : Int)] w fun e w' => e = .returned (.int .i64 ((c : Int) + 3 * (n : Int))) ∧ Below w.heap.size w w' := by
  rcases own_shape h with ⟨rfl, h0⟩ | ⟨g, cap, rfl, hB, hlt0, hn, hm⟩
  · rw [mkEs_len] at h0
    subst h0
    clear h
    go_enter Try.func27, Try.ntmps27
    go_wp2_with fail
    go_loop [1, 5] (fun k i => k = .int .i64 (c : Int) ∧ i = .int .i64 0) (fun _ _ => 0)
    case atStart => exact ⟨rfl, rfl⟩
    case round =>
      obtain ⟨rfl, rfl⟩ := hrel
      go_wp2_with fail
      go_ret
      exact ⟨ret_int (by simp), Below.refl _ _⟩
  · have HC := hide (fun j (hj : j < n) => OwnE.cells h j (by rw [mkEs_len]; exact hj) rfl)
    have hml := mkEs_len c n
    rw [hml]
    clear h hml
    go_enter Try.func27, Try.ntmps27
    go_wp2_with fail
    go_loopw [1, 5] (fun k i wr => ∃ j : Nat, j ≤ n ∧ k = .int .i64 ((c : Int) + 3 * (j : Int)) ∧ i = .int .i64 j ∧ Below w.heap.size w wr) (fun _ i _ => n - (intOf i).toNat)
    case atStart => exact ⟨0, Nat.zero_le _, congrArg (Value.int .i64) (by omega), rfl, Below.refl _ _⟩
    case round =>
      obtain ⟨j, hj, rfl, rfl, hb⟩ := hrel
      by_cases hlt2 : j < n
      · obtain ⟨d0, d1, d2⟩ := unhide HC j hlt2
        rw [mkEs_get c n j hlt2] at d0 d1 d2
        have c0 := (hb.cell (p := ⟨g, j * 3, none⟩) hlt0).trans d0
        have c1 := (hb.cell (p := ⟨g, j * 3 + 1, none⟩) hlt0).trans d1
        have c2 := (hb.cell (p := ⟨g, j * 3 + 2, none⟩) hlt0).trans d2
        simp only [mkEn] at c0 c1 c2
        have p0 : (0 : Int) ≤ (j : Int) := by omega
        have p1 : (j : Int) < (n : Int) := by omega
        have q1 : IntKind.i64.wrap ((c : Int) + 3 * (j : Int) + 1) = (c : Int) + 3 * (j : Int) + 1 := wrapSm _ (by omega) (by omega)
        have q2 : IntKind.i64.wrap ((c : Int) + 3 * (j : Int) + 1 + 1) = (c : Int) + 3 * (j : Int) + 1 + 1 := wrapSm _ (by omega) (by omega)
        have q3 : IntKind.i64.wrap ((c : Int) + 3 * (j : Int) + 1 + 1 + 1) = (c : Int) + 3 * (j : Int) + 1 + 1 + 1 := wrapSm _ (by omega) (by omega)
        have HB := hide hb
        have hz := hb.size
        clear hb d0 d1 d2
        go_wp2_with fail
        go_region_held3 (fun wx => wx.cell? ⟨g, j * 3 + 2, none⟩ = some (.string (mtx (c + 3 * j + 2)))) (first | go_keep | exact (hb2.cell (p := ⟨g, j * 3 + 2, none⟩) (by simp; omega)).trans (by assumption)) ((go_at_call 25; refine (markText_int _ (c + 3 * j + 2) (by omega) _ (by omega) (by omega)).mono ?_; rintro e w2 ⟨rfl, hb2⟩))
        all_goals
          have HB2 := hide ((unhide HB).trans (show Below w.heap.size wr w2 from (below_drewN (Below.refl _ wr) 1).trans (hb2.mono (by simpa using hz))))
          clear hb2 HB
          go_wp2_with fail
          refine ⟨⟨j + 1, by omega, congrArg (Value.int .i64) (by omega), by go_num, unhide HB2⟩, ?_⟩
          simp [intOf]; omega
      · obtain rfl : j = n := by omega
        have R := hide hb
        clear hb
        go_wp2_with fail
        go_ret
        exact ⟨rfl, unhide R⟩
set_option maxRecDepth 100000 in
set_option maxHeartbeats 1000000 in
theorem markState_any (c : Nat) (hc0 : 0 < c) (hc1 : c ≤ 4194304) (tm vo : Int) (B : Nat) (a : Option Addr) (n cap : Nat) (l : List En) (w : World) (h : OwnE B w (.slice a n cap) l) (hl : l.length ≤ 1048576) :
    Calls Try.prog 12 #[.agg #[.int .i64 tm, .int .i64 vo, .slice a n cap], .int .i64 (c : Int)] w fun e w' => e = .returned (.int .i64 ((c : Int) + 3 * (l.length : Int))) ∧ OwnE B w' (.slice a n cap) (mkEs c l.length) ∧ Touch (fun k => (Value.slice a n cap).ownBlock = some k) w w' := by
  have H := hide (h.below ((Below.refl w.heap.size w).alloc (Nat.le_refl _) (.cells #[.int .i64 tm, .int .i64 vo, .slice a n cap] 26)))
  have T := hide ((Touch.refl (fun k => (Value.slice a n cap).ownBlock = some k) w).alloc (.cells #[.int .i64 tm, .int .i64 vo, .slice a n cap] 26))
  clear h
  go_enter Try.func12, Try.ntmps12
  go_wp2_with fail
  generalize w.alloc (.cells #[.int .i64 tm, .int .i64 vo, .slice a n cap] 26) = w1 at *
  refine (markEntryS_any c hc0 hc1 B _ l w1 (unhide H) hl).mono ?_
  rintro e w2 ⟨rfl, hO2, hT2⟩
  have T2 := hide ((unhide T).trans hT2 (fun _ _ h => h))
  have O2 := hide hO2
  clear hT2 hO2 T H
  go_wp2_with fail
  go_ret
  exact ⟨rfl, unhide O2, unhide T2⟩
set_option maxRecDepth 100000 in
set_option maxHeartbeats 1000000 in
theorem heldState_any (c : Nat) (hc0 : 0 < c) (hc1 : c ≤ 4194304) (tm vo : Int) (B : Nat) (a : Option Addr) (m cap : Nat) (n : Nat) (w : World) (h : OwnE B w (.slice a m cap) (mkEs c n)) (hl : n ≤ 1048576) :
    Calls Try.prog 13 #[.agg #[.int .i64 tm, .int .i64 vo, .slice a m cap], .int .i64 (c : Int)] w fun e w' => e = .returned (.int .i64 ((c : Int) + 3 * (n : Int))) ∧ Below w.heap.size w w' := by
  have AA := (Below.refl w.heap.size w).alloc (Nat.le_refl _) (.cells #[.int .i64 tm, .int .i64 vo, .slice a m cap] 26)
  have H := hide (h.below AA)
  have K := hide AA
  clear h AA
  go_enter Try.func13, Try.ntmps13
  go_wp2_with fail
  generalize w.alloc (.cells #[.int .i64 tm, .int .i64 vo, .slice a m cap] 26) = w1 at *
  refine (heldEntryS_any c hc0 hc1 B _ n w1 (unhide H) hl).mono ?_
  rintro e w2 ⟨rfl, hb2⟩
  have K2 := hide ((unhide K).trans (hb2.mono (unhide K).size))
  have hpos : ¬ (c : Int) + 3 * (n : Int) < 0 := by omega
  clear hb2 K H
  go_wp2_with fail
  go_ret
  exact ⟨rfl, unhide K2⟩
end Go.Proofs.Ytpdjfjapdmopoaa
namespace Go.Proofs.Ytpdjfjapdmopoaa
open Go.ChangeShapes Go.WideShapes Go.ChangeAt Go.RowKit Go.Deep
set_option linter.unusedVariables false

theorem array2 {α : Type} {cs : Array α} (h : cs.size = 2) : ∃ c0 c1, cs = #[c0, c1] := by
  obtain ⟨l⟩ := cs
  match l, h with
  | [c0, c1], _ => exact ⟨c0, c1, rfl⟩
set_option maxRecDepth 100000 in
theorem open_files {H : Type} {enc : TypeId × Value → H} {W : World} {base : Nat} {sp : Nat → Bool} {held : Bool} {fuel : Nat} {c : Value} {x : DataW H × List MemPlace}
    (h : DataW.trod enc Try.prog W base sp held fuel 34 [c] = some x) :
    ∃ l : List Fl, Fls W c l ∧ ∀ i, i < l.length → (l.getD i default).n.size ≤ maxLen ∧ (l.getD i default).d.size ≤ maxLen := by
  have i3 : Try.prog.cellsOf 3 = 1 := by kernel_rfl
  have i9 : Try.prog.cellsOf 9 = 1 := by kernel_rfl
  have iF : Try.prog.cellsOf 89 = 3 := by kernel_rfl
  rcases open_slice Try.underlying34 h with ⟨hc, _⟩ | ⟨a, len, cap, m, n, D, Pl, hc, hb, hl, hm, hmm, _, hx⟩
  · simp only [List.cons.injEq, and_true] at hc
    subst hc
    exact ⟨[], ⟨none, 0, rfl, Nat.le_refl _, by unfold maxLen; omega, .inl rfl⟩, fun i hi => by simp at hi⟩
  · simp only [List.cons.injEq, and_true] at hc
    subst hc
    have hlm : len ≤ m := by rw [hmm]; split <;> omega
    rw [iF] at hx
    have each : ∀ i, i < len → ∃ f : Fl, W.cell? (a.add (i * 3)) = some (.string f.n) ∧ W.cell? (a.add (i * 3 + 1)) = some (.string f.d) ∧ W.cell? (a.add (i * 3 + 2)) = some (.int .i64 f.s) ∧ f.n.size ≤ maxLen ∧ f.d.size ≤ maxLen := by
      intro i hi
      obtain ⟨cs', h1, h2⟩ := hx i (by omega)
      obtain ⟨_, hlen, hcell⟩ := World.cells?_some h1
      obtain ⟨xs, k, hk, hxy, _, hxl, hf⟩ := DataW.trod_struct Try.underlying89 h2
      match cs', hlen with
      | [v0, v1, v2], _ =>
        obtain ⟨y0, e0⟩ := get_some hxl (show 0 < 3 by omega)
        obtain ⟨y1, e1⟩ := get_some hxl (show 1 < 3 by omega)
        obtain ⟨y2, e2⟩ := get_some hxl (show 2 < 3 by omega)
        have g0 : DataW.trod enc Try.prog W base sp held k 9 [v0] = some y0 := by simpa [Value.cells, i9] using (hf 0 _ rfl).trans e0
        have g1 : DataW.trod enc Try.prog W base sp held k 9 [v1] = some y1 := by simpa [Value.cells, i9] using (hf 1 _ rfl).trans e1
        have g2 : DataW.trod enc Try.prog W base sp held k 3 [v2] = some y2 := by simpa [Value.cells, i3] using (hf 2 _ rfl).trans e2
        obtain ⟨a0, f0, _, q0⟩ := DataW.trod_string Try.underlying9 g0
        obtain ⟨a1, f1, _, q1⟩ := DataW.trod_string Try.underlying9 g1
        obtain ⟨a2, f2, _, q2⟩ := DataW.trod_int Try.underlying3 g2
        simp only [List.cons.injEq, and_true] at f0 f1 f2
        subst f0 f1 f2
        have c0 := hcell 0 (by omega)
        have c1 := hcell 1 (by omega)
        have c2 := hcell 2 (by omega)
        rw [add_add] at c0 c1 c2
        exact ⟨⟨a0, a1, a2⟩, by simpa using c0, by simpa using c1, by simpa using c2, q0, q1⟩
    obtain ⟨F, hF⟩ := choose_lt each
    have hlen : ((List.range len).map F).length = len := by simp
    have hget : ∀ i, i < len → ((List.range len).map F).getD i default = F i := fun i hi => by simp [List.getD_eq_getElem?_getD, hi]
    refine ⟨(List.range len).map F, ⟨some a, cap, by rw [hlen], by rw [hlen]; exact hl, hm, ?_⟩, fun i hi => ?_⟩
    · by_cases h0 : len = 0
      · exact .inl (by rw [hlen]; exact h0)
      · obtain ⟨b, off, spot⟩ := a
        have hc := (hF 0 (by omega)).1
        have hspot : spot = none := by simpa [Addr.add] using World.cell?_spot hc
        subst hspot
        have hblk := World.block_lt_of_cell? W _ hc
        have e0 : ∀ i, (⟨b, off, none⟩ : Addr).add i = ⟨b, off + i, none⟩ := fun i => by unfold Addr.add; split <;> simp_all
        rw [e0] at hblk
        refine .inr ⟨b, off, rfl, hblk, fun i hi => ?_⟩
        rw [hlen] at hi
        obtain ⟨k0, k1, k2, _, _⟩ := hF i hi
        rw [e0] at k0 k1 k2
        rw [hget i hi]
        exact ⟨k0, by rw [Nat.add_assoc]; exact k1, by rw [Nat.add_assoc]; exact k2⟩
    · rw [hlen] at hi
      rw [hget i hi]
      exact ⟨(hF i hi).2.2.2.1, (hF i hi).2.2.2.2⟩
set_option maxRecDepth 100000 in
theorem open_disk {H : Type} {enc : TypeId × Value → H} {W : World} {base b0 : Nat} {r : Reach} {sp : Nat → Bool} {held : Bool} {v : Value} {d : DataW H} {p : List MemPlace}
    (hv : Value.okWide Try.prog W r b0 36 v) (h : DataW.Trod enc Try.prog W base sp held 36 v d p) :
    ∃ (room : Int) (u : Value) (l : List Fl), v = .agg #[.int .i64 room, u] ∧ (Lit.int .i64 room).wf = true ∧ Fls W u l ∧ ∀ i, i < l.length → (l.getD i default).n.size ≤ maxLen ∧ (l.getD i default).d.size ≤ maxLen := by
  obtain ⟨cs, rfl, hsz⟩ := okWide_struct Try.underlying36 hv
  have hC : Try.prog.cellsOf 36 = 2 := by kernel_rfl
  obtain ⟨c0, c1, rfl⟩ := array2 (hsz.trans hC)
  obtain ⟨fuel, hf⟩ := h
  obtain ⟨xs, n, _, _, _, hlen, hfl⟩ := DataW.trod_struct Try.underlying36 hf
  have i3 : Try.prog.cellsOf 3 = 1 := by kernel_rfl
  have iS : Try.prog.cellsOf 34 = 1 := by kernel_rfl
  obtain ⟨y0, e0⟩ := get_some hlen (show 0 < 2 by omega)
  obtain ⟨y1, e1⟩ := get_some hlen (show 1 < 2 by omega)
  have g0 : DataW.trod enc Try.prog W base sp held n 3 [c0] = some y0 := by simpa [Value.cells, i3] using (hfl 0 _ rfl).trans e0
  have g1 : DataW.trod enc Try.prog W base sp held n 34 [c1] = some y1 := by simpa [Value.cells, iS] using (hfl 1 _ rfl).trans e1
  obtain ⟨a0, f0, _, q0⟩ := DataW.trod_int Try.underlying3 g0
  simp only [List.cons.injEq, and_true] at f0
  subst f0
  obtain ⟨l, h1, h2⟩ := open_files g1
  exact ⟨a0, c1, l, rfl, q0, h1, h2⟩
end Go.Proofs.Ytpdjfjapdmopoaa
namespace Go.Proofs.Ytpdjfjapdmopoaa
open Go.ChangeShapes Go.WideShapes Go.ChangeAt Go.RowKit
set_option linter.unusedVariables false
set_option linter.unusedSimpArgs false

theorem wrapMk (n : Int) (h0 : 0 ≤ n) (h1 : n < 9223372036854775808) : IntKind.i64.wrap n = n := by
  simp only [IntKind.wrap, IntKind.bits, IntKind.signed]
  simp
  omega
set_option maxRecDepth 100000 in
set_option maxHeartbeats 2000000 in
theorem markFileS_any (B g cap : Nat) (l : List Fl) (w : World) (h : w.ownsRow B 91 3 (.slice (some ⟨g, 0, none⟩) l.length cap) l.length (flsC l)) (hl : l.length ≤ 1048576) :
    Calls Try.prog 33 #[.slice (some ⟨g, 0, none⟩) l.length cap, .int .i64 1] w fun e w' => e = .returned (.int .i64 (1 + 3 * (l.length : Int))) ∧ Touch (fun k => k = g) w w' := by
  have H := hide h
  clear h
  go_enter Try.func33, Try.ntmps33
  go_wp2_with fail
  go_loopw [1, 5] (fun k i wr => ∃ (j : Nat) (m : List Fl), j ≤ l.length ∧ m.length = l.length ∧ k = .int .i64 (1 + 3 * (j : Int)) ∧ i = .int .i64 j ∧ wr.ownsRow B 91 3 (.slice (some ⟨g, 0, none⟩) l.length cap) l.length (flsC m) ∧ Touch (fun k => k = g) w wr) (fun _ i _ => l.length - (intOf i).toNat)
  case atStart => exact ⟨0, l, Nat.zero_le _, rfl, rfl, rfl, unhide H, Touch.refl _ _⟩
  case round =>
    obtain ⟨j, m, hj, hm, rfl, rfl, hL, hT⟩ := hrel
    by_cases hlt2 : j < l.length
    · have p0 : (0 : Int) ≤ (j : Int) := by omega
      have p1 : (j : Int) < (l.length : Int) := by omega
      have hfl := flsC_len m
      have HM := hide (And.intro hm hfl)
      have HL := hide (And.intro hL hT)
      have q1 : IntKind.i64.wrap (1 + 3 * (j : Int) + 1) = 1 + 3 * (j : Int) + 1 := wrapMk _ (by omega) (by omega)
      have q2 : IntKind.i64.wrap (1 + 3 * (j : Int) + 1 + 1) = 1 + 3 * (j : Int) + 1 + 1 := wrapMk _ (by omega) (by omega)
      have q3 : IntKind.i64.wrap (1 + 3 * (j : Int) + 1 + 1 + 1) = 1 + 3 * (j : Int) + 1 + 1 + 1 := wrapMk _ (by omega) (by omega)
      clear hL hT hfl hm
      go_wp2_with fail
      refine (markText_int _ (1 + 3 * j) (by omega) wr (by omega) (by omega)).mono ?_
      rintro e w2 ⟨rfl, hb2⟩
      have hO := own_kept (T := fun _ => False) (unhide HL).1 (Touch.ofBelow hb2) (fun _ _ h => h)
      have hT2 : Touch (fun k => k = g) w w2 := (unhide HL).2.trans (T' := fun _ => False) (Touch.ofBelow hb2) (fun _ _ h => h.elim)
      have hjm : j < m.length := by rw [(unhide HM).1]; exact hlt2
      have c0 := (hO.cellAt (j * 3) (by omega)).trans (flsC_get m j hjm).1
      have f0 := hO.frozenAt (j * 3)
      have HG := hide (flsC_get m j hjm)
      have R2 := hide (And.intro (hO.stored (j * 3) (.string (mtx (1 + 3 * j)))).1 (hT2.setCell ⟨g, j * 3, none⟩ (.string (mtx (1 + 3 * j))) (fun _ => rfl)))
      clear hb2 hO hT2 HL
      generalize mtx (1 + 3 * j) = x1 at *
      go_wp2_with fail
      clear c0 f0
      generalize w2.setCell ⟨g, j * 3, none⟩ (.string x1) = w3 at *
      refine (markText_int _ (1 + 3 * j + 1) (by omega) w3 (by omega) (by omega)).mono ?_
      rintro e w4 ⟨rfl, hb4⟩
      have hO4 := own_kept (T := fun _ => False) (unhide R2).1 (Touch.ofBelow hb4) (fun _ _ h => h)
      have hT4 : Touch (fun k => k = g) w w4 := (unhide R2).2.trans (T' := fun _ => False) (Touch.ofBelow hb4) (fun _ _ h => h.elim)
      have c1 := (hO4.cellAt (j * 3 + 1) (by omega)).trans ((List.getElem?_set_ne (by omega)).trans (unhide HG).2.1)
      have f1 := hO4.frozenAt (j * 3 + 1)
      have c2 := (hO4.cellAt (j * 3 + 2) (by omega)).trans ((List.getElem?_set_ne (by omega)).trans (unhide HG).2.2)
      have f2 := hO4.frozenAt (j * 3 + 2)
      have hO5 := (hO4.stored (j * 3 + 1) (.string (mtx (1 + 3 * j + 1)))).1
      have hO6 := (hO5.stored (j * 3 + 2) (.int .i64 (1 + 3 * (j : Int) + 1 + 1))).1
      have hT6 := (hT4.setCell ⟨g, j * 3 + 1, none⟩ (.string (mtx (1 + 3 * j + 1))) (fun _ => rfl)).setCell ⟨g, j * 3 + 2, none⟩ (.int .i64 (1 + 3 * (j : Int) + 1 + 1)) (fun _ => rfl)
      have hset := flsC_set m j ⟨x1, mtx (1 + 3 * j + 1), 1 + 3 * (j : Int) + 1 + 1⟩ hjm
      dsimp only at hset
      rw [hset] at hO6
      have R6 := hide (And.intro hO6 hT6)
      have HML := hide (show (m.set j ⟨x1, mtx (1 + 3 * j + 1), 1 + 3 * (j : Int) + 1 + 1⟩).length = l.length by rw [List.length_set]; exact (unhide HM).1)
      clear hb4 hO4 hT4 hO5 hO6 hT6 hset R2 HG HM
      generalize mtx (1 + 3 * j + 1) = x2 at *
      go_wp2_with fail
      refine ⟨⟨j + 1, _, by omega, unhide HML, ?_, by go_num, (unhide R6).1, (unhide R6).2⟩, ?_⟩
      · have e : (1 : Int) + 3 * (j : Int) + 1 + 1 + 1 = 1 + 3 * ((j + 1 : Nat) : Int) := by omega
        rw [← e]
      · simp [intOf]; omega
    · obtain rfl : j = l.length := by omega
      have R := hide hT
      clear hL hT
      go_wp2_with fail
      go_ret
      exact ⟨rfl, unhide R⟩
set_option maxRecDepth 100000 in
set_option maxHeartbeats 1000000 in
theorem markDisk_any (room : Int) (B g cap : Nat) (l : List Fl) (w : World) (h : w.ownsRow B 91 3 (.slice (some ⟨g, 0, none⟩) l.length cap) l.length (flsC l)) (hl : l.length ≤ 1048576) :
    Calls Try.prog 19 #[.agg #[.int .i64 room, .slice (some ⟨g, 0, none⟩) l.length cap], .int .i64 1] w fun e w' => e = .returned (.int .i64 (1 + 3 * (l.length : Int))) ∧ Touch (fun k => k = g) w w' := by
  have H := hide (own_kept (T := fun _ => False) h (((Touch.refl _ w).alloc (.cells #[.int .i64 room, .slice (some ⟨g, 0, none⟩) l.length cap] 41))) (fun _ _ h => h))
  have T := hide ((Touch.refl (fun k => k = g) w).alloc (.cells #[.int .i64 room, .slice (some ⟨g, 0, none⟩) l.length cap] 41))
  clear h
  go_enter Try.func19, Try.ntmps19
  go_wp2_with fail
  generalize w.alloc (.cells #[.int .i64 room, .slice (some ⟨g, 0, none⟩) l.length cap] 41) = w1 at *
  refine (markFileS_any B g cap l w1 (unhide H) hl).mono ?_
  rintro e w2 ⟨rfl, hT2⟩
  have T2 := hide ((unhide T).trans hT2 (fun _ _ h => h))
  clear hT2 T H
  go_wp2_with fail
  go_ret
  exact ⟨rfl, unhide T2⟩
end Go.Proofs.Ytpdjfjapdmopoaa
