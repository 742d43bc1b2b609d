/- Histories: impl.firstOrder, LinearOrder, walked. -/
import Derived.Test.YtedfidpmehamdaaHiH
import Derived.Laws.EntriesVeiled
import Derived.Test.YtedfidpmehamdaaHiE
namespace Go.Proofs.Ytedfidpmehamdaa
open Go.ChangeShapes Go.WideShapes Go.ChangeAt Go.RowKit Go.Deep
set_option linter.unusedVariables false
set_option linter.unusedSimpArgs false

set_option maxRecDepth 100000 in
set_option maxHeartbeats 2000000 in
theorem firstOrder_any (la : Option Addr) (lc : Nat) (l : List Op) (hs : opsB l = true) (w : World) (hl : Ops w (.slice la l.length lc) l) :
    Calls Try.prog 20 #[.slice la l.length lc] w fun e w' => ∃ r b, e = .returned (.tuple #[r, .bool b]) ∧ SrR w.heap.size w' (.slice none 0 0) [] r b (srch l (l.length + 1) [] ⟨#[]⟩) ∧ Below w.heap.size w w' := by
  have HOP := hide (fun (wx : World) (hb : Below w.heap.size w wx) => hl.below hb)
  have HSE := hide (fun (wx : World) h1 h2 h3 h4 h5 => search_any la lc l hs w.heap.size (w.heap.size + 1) (l.length + 1) [] ⟨#[]⟩ (.slice none 0 0) wx h1 h2 h3 h4 h5 (.inl ⟨rfl, rfl⟩) (Plc.nil _) (by simp))
  generalize srch l (l.length + 1) [] ⟨#[]⟩ = R at *
  clear hl
  go_enter Try.func20, Try.ntmps20
  have B3 := hide (((Below.refl w.heap.size w).alloc (Nat.le_refl _) (.cells #[.slice la l.length lc] 23)).alloc (by simp) (.cells #[.func (.func 37) #[] #[.pointer (some ⟨w.heap.size, 0, none⟩), .pointer (some ⟨w.heap.size + 1, 0, none⟩)]] 63))
  have X3 := hide ((Blk.new w #[.slice la l.length lc] 23 w.heap.size rfl).alloc (.cells #[.func (.func 37) #[] #[.pointer (some ⟨w.heap.size, 0, none⟩), .pointer (some ⟨w.heap.size + 1, 0, none⟩)]] 63))
  have Y3 := hide (Blk.new (w.alloc (.cells #[.slice la l.length lc] 23)) #[.func (.func 37) #[] #[.pointer (some ⟨w.heap.size, 0, none⟩), .pointer (some ⟨w.heap.size + 1, 0, none⟩)]] 63 (w.heap.size + 1) (by simp))
  go_upto_region 3 with fail
  generalize (w.alloc (.cells #[.slice la l.length lc] 23)).alloc (.cells #[.func (.func 37) #[] #[.pointer (some ⟨w.heap.size, 0, none⟩), .pointer (some ⟨w.heap.size + 1, 0, none⟩)]] 63) = w3 at *
  have x0 := (unhide X3).cell 0 rfl
  have y0 := (unhide Y3).cell 0 rfl
  go_wp2_with fail
  refine (unhide HSE w3 (unhide HOP w3 (unhide B3)) x0 y0 (unhide X3).1 (unhide Y3).1).mono ?_
  rintro e w4 ⟨r, b, rfl, hS4, hb4⟩
  have B4 := hide ((unhide B3).trans (hb4.mono (unhide B3).size))
  have S4 : Hid (SrR w.heap.size w4 (.slice none 0 0) [] r b R) := hide (by
    rcases hS4 with h | ⟨o', h1, h2, h3⟩
    · exact .inl h
    · refine .inr ⟨o', h1, h2, ?_⟩
      rcases h3 with h3 | h3
      · exact .inl h3
      · exact .inr (OwnI.mono h3 (unhide B3).size))
  clear hb4 hS4 x0 y0
  go_wp2_with fail
  refine bodyPost_ret (v := .tuple #[r, .bool b]) (by simp [results, Try.results20, go_sem]) rfl ?_
  exact ⟨_, _, rfl, unhide S4, unhide B4⟩
set_option maxRecDepth 100000 in
set_option maxHeartbeats 2000000 in
theorem implLinearOrder_any (v : Value) (l : List Op) (w : World) (h : Ops w v l) (hs : l.length ≤ 1048576) :
    Calls Try.prog 6 #[v] w fun e w' => ∃ r, e = .returned (.tuple #[r, .int .i64 (loOut l).2]) ∧ OwnI w.heap.size w' r (loOut l).1 ∧ Below w.heap.size w w' := by
  have HOF := hide (opsFault_any v l w h hs)
  have HOP := hide (fun (wx : World) (hb : Below w.heap.size w wx) => h.below hb)
  obtain ⟨la, lc, rfl, _, _, _⟩ := h
  by_cases h0 : ofC l ≠ 0
  · have E : loOut l = ([], ofC l) := by unfold loOut; rw [if_pos h0]
    have hb : (ofC l != 0) = true := by simpa using h0
    rw [E]
    clear E h0
    generalize ofC l = cd at *
    go_enter Try.func6, Try.ntmps6
    go_wp2_with fail
    refine (unhide HOF).mono ?_
    rintro e w1 ⟨rfl, hb1⟩
    have B1 := hide hb1
    clear hb1
    go_wp2_with fail
    refine bodyPost_ret (v := .tuple #[.slice none 0 0, .int .i64 cd]) (by simp [results, Try.results6, go_sem]) rfl ?_
    exact ⟨_, rfl, World.ownsRow_nil _ _ 3 1, unhide B1⟩
  have h0' : ofC l = 0 := by omega
  have HFO := hide (fun (wx : World) (hb : Below w.heap.size w wx) => firstOrder_any la lc l (ofC_zero h0') wx (unhide HOP wx hb))
  have E1 : Hid (srch l (l.length + 1) [] ⟨#[]⟩ = none → loOut l = ([], 5)) := hide (fun hx => by unfold loOut; rw [if_neg h0, hx])
  have E2 : Hid (∀ r, srch l (l.length + 1) [] ⟨#[]⟩ = some r → loOut l = (r, 0)) := hide (fun r hx => by unfold loOut; rw [if_neg h0, hx])
  rw [h0'] at HOF
  clear h0 h0'
  generalize srch l (l.length + 1) [] ⟨#[]⟩ = R at *
  generalize loOut l = out at *
  go_enter Try.func6, Try.ntmps6
  go_wp2_with fail
  refine (unhide HOF).mono ?_
  rintro e w1 ⟨rfl, hb1⟩
  have B1 := hide hb1
  clear hb1
  go_wp2_with fail
  refine (unhide HFO w1 (unhide B1)).mono ?_
  rintro e w2 ⟨r, b, rfl, hS2, hb2⟩
  have B2 := hide ((unhide B1).trans (hb2.mono (unhide B1).size))
  clear hb2
  rcases hS2 with ⟨hn, rfl⟩ | ⟨o', hso, rfl, hd⟩
  · have E := hide (unhide E1 hn)
    clear hn E1 E2
    go_wp2_with fail
    refine bodyPost_ret (v := .tuple #[.slice none 0 0, .int .i64 5]) (by simp [results, Try.results6, go_sem]) rfl ?_
    exact ⟨_, by rw [unhide E], by rw [unhide E]; exact World.ownsRow_nil _ _ 3 1, unhide B2⟩
  · have E := hide (unhide E2 o' hso)
    have OO : Hid (OwnI w.heap.size w2 r o') := hide (by
      rcases hd with ⟨rfl, rfl⟩ | hd
      · exact World.ownsRow_nil _ _ 3 1
      · exact OwnI.mono hd (unhide B1).size)
    clear hso hd E1 E2
    go_wp2_with fail
    refine bodyPost_ret (v := .tuple #[r, .int .i64 0]) (by simp [results, Try.results6, go_sem]) rfl ?_
    exact ⟨_, by rw [unhide E], by rw [unhide E]; exact unhide OO, unhide B2⟩
end Go.Proofs.Ytedfidpmehamdaa
