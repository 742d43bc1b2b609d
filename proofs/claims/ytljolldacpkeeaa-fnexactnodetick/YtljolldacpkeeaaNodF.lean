/- (*actor).become, resetTold, follow; impl.freshNode, walked. -/
import Derived.Test.YtljolldacpkeeaaHaa
namespace Go.Proofs.Ytljolldacpkeeaa
open Go.ChangeShapes Go.WideShapes Go.ChangeAt Go.RowKit Go.Deep
set_option linter.unusedVariables false
set_option maxRecDepth 100000 in
theorem folNumber_any (b : Nat) (w : World) :
    Calls Try.prog 105 #[.agg #[.pointer (some ⟨b, 0, none⟩)]] w fun e w' => e = .returned (.int .i64 0) ∧ w' = w.alloc (.cells #[.pointer (some ⟨b, 0, none⟩)] 83) := by
  go_enter Try.func105, Try.ntmps105
  go_wp2_with fail
  go_ret
  exact ⟨rfl, rfl⟩
set_option maxRecDepth 100000 in
set_option maxHeartbeats 1000000 in
theorem becomeFol_any (b : Nat) (vs : List Value) (hv : 5 < vs.length) (w : World) (h : Blk w b vs) :
    Calls Try.prog 72 #[.pointer (some ⟨b, 0, none⟩), .iface 83 (.agg #[.pointer (some ⟨b, 0, none⟩)])] w fun e w' => (∃ v, e = .returned v) ∧ Blk w' b (vs.set 5 (.int .i64 0)) ∧ Touch (fun k => k = b) w w' := by
  have h2 := h.alloc (.cells #[.pointer (some ⟨b, 0, none⟩)] 83)
  obtain ⟨x, hx⟩ : ∃ x, vs[5]? = some x := ⟨_, List.getElem?_eq_getElem hv⟩
  have c5 := h2.cell 5 hx
  have f5 := h2.fro 5
  have R := hide (And.intro (h2.set 5 (.int .i64 0) hv) (((Touch.refl (fun k => k = b) w).alloc (.cells #[.pointer (some ⟨b, 0, none⟩)] 83)).setCell ⟨b, 5, none⟩ (.int .i64 0) (fun _ => rfl)))
  clear h h2
  go_enter Try.func72, Try.ntmps72
  go_wp2_with fail
  refine (folNumber_any b w).mono ?_
  rintro e w' ⟨rfl, rfl⟩
  go_wp2_with fail
  go_end0
  exact ⟨⟨_, rfl⟩, (unhide R).1, (unhide R).2⟩
theorem LaidI.kept {T : Nat → Prop} {w w' : World} {g cap n : Nat} {f : Nat → Int} (h : LaidI w g cap f n) (ht : Touch T w w') (hn : ¬ T g) : LaidI w' g cap f n := by
  obtain ⟨cur, hg, rest⟩ := h
  exact ⟨cur, (ht.block g (Array.getElem?_eq_some_iff.1 hg).1 hn).trans hg, rest⟩
/-- The first k of seven numbers are x. -/
def resF (l : List Int) (x : Int) (k j : Nat) : Int := if j < k then x else l.getD j 0
set_option maxRecDepth 100000 in
set_option maxHeartbeats 2000000 in
theorem resetTold_any (B b g c g' c' : Nat) (next : Int) (l l' : List Int) (vs : List Value) (w : World) (h : Blk w b vs) (h7 : vs[7]? = some (.slice (some ⟨g, 0, none⟩) 7 c)) (h8 : vs[8]? = some (.slice (some ⟨g', 0, none⟩) 7 c'))
    (hl : l.length = 7) (hl' : l'.length = 7) (hO : OwnI B w (.slice (some ⟨g, 0, none⟩) 7 c) l) (hO' : OwnI B w (.slice (some ⟨g', 0, none⟩) 7 c') l') (hne : g ≠ g') (hb : b ≠ g) (hb' : b ≠ g') :
    Calls Try.prog 85 #[.pointer (some ⟨b, 0, none⟩), .int .i64 next] w fun e w' => (∃ v, e = .returned v) ∧ OwnI B w' (.slice (some ⟨g, 0, none⟩) 7 c) (List.replicate 7 next) ∧ OwnI B w' (.slice (some ⟨g', 0, none⟩) 7 c') (List.replicate 7 0) ∧ Touch (fun k => k = g ∨ k = g') w w' := by
  obtain ⟨hL, hm, hB, hq1, hlt⟩ := LaidI.of hO
  obtain ⟨hL', hm', hB', hq2, hlt'⟩ := LaidI.of hO'
  clear hq1 hq2
  rw [hl] at hL
  rw [hl'] at hL'
  have HL := hide (And.intro hL hL')
  have HX := hide h
  have HM := hide (And.intro hm hm')
  clear hO hO' hL hL' h hm hm'
  go_enter Try.func85, Try.ntmps85
  go_wp2_with fail
  go_loopw [4, 5] (fun _ i wr => ∃ k : Nat, k ≤ 7 ∧ i = .int .i64 k ∧ LaidI wr g c (resF l next k) 7 ∧ LaidI wr g' c' (resF l' 0 k) 7 ∧ Touch (fun k => k = g ∨ k = g') w wr) (fun _ i _ => 7 - (intOf i).toNat)
  case atStart => exact ⟨0, Nat.zero_le _, rfl, (unhide HL).1, (unhide HL).2, Touch.refl _ _⟩
  case round =>
    obtain ⟨k, hk, rfl, hA, hA', hT⟩ := hrel
    have XX := (unhide HX).kept hT (fun e => by rcases e with e | e <;> omega)
    have y7 := XX.cell 7 h7
    have y8 := XX.cell 8 h8
    by_cases hlt2 : k < 7
    · obtain ⟨c1, f1⟩ := hA.cell k hlt2
      obtain ⟨c2, f2⟩ := hA'.cell k hlt2
      have p0 : (0 : Int) ≤ (k : Int) := by omega
      have p1 : (k : Int) < 7 := by omega
      have HA := hide hA
      have HA' := hide hA'
      have HT := hide hT
      have HNE := hide (And.intro hne (And.intro hb hb'))
      have d1 : (wr.setCell ⟨g, k, none⟩ (.int .i64 next)).cell? ⟨g', k, none⟩ = some (.int .i64 (resF l' 0 k k)) := (World.cell?_setCell_other _ _ _ _ (fun e => hne (by simp at e <;> omega))).trans c2
      have d2 : (wr.setCell ⟨g, k, none⟩ (.int .i64 next)).frozen? ⟨g', k, none⟩ = false := by rw [World.frozen?_setCell]; exact f2
      have d3 : (wr.setCell ⟨g, k, none⟩ (.int .i64 next)).cell? ⟨b, 8, none⟩ = some (.slice (some ⟨g', 0, none⟩) 7 c') := (World.cell?_setCell_other _ _ _ _ (fun e => hb (by simp at e <;> omega))).trans y8
      clear hA hA' hT XX h7 h8 hl hl' HX hB hB' hlt hlt' hne hb hb' HL HM
      generalize resF l next k k = z at *
      generalize resF l' 0 k k = z' at *
      go_wp2_with fail
      go_big_region
      all_goals
        have hne := (unhide HNE).1
        have T1 := (Touch.refl (fun q => q = g) wr).setCell ⟨g, k, none⟩ (.int .i64 next) (fun _ => rfl)
        have T2 := (Touch.refl (fun q => q = g') (wr.setCell ⟨g, k, none⟩ (.int .i64 next))).setCell ⟨g', k, none⟩ (.int .i64 0) (fun _ => rfl)
        have R1 := ((unhide HA).set (f' := resF l next (k + 1)) k next hlt2 (by unfold resF; rw [if_pos (by omega)]) (fun j hj => by
          unfold resF
          by_cases h1 : j < k
          · rw [if_pos h1, if_pos (by omega)]
          · rw [if_neg h1, if_neg (by omega)])).kept T2 (fun e => hne e)
        have R2 := ((unhide HA').kept T1 (fun e => hne e.symm)).set (f' := resF l' 0 (k + 1)) k 0 hlt2 (by unfold resF; rw [if_pos (by omega)]) (fun j hj => by
          unfold resF
          by_cases h1 : j < k
          · rw [if_pos h1, if_pos (by omega)]
          · rw [if_neg h1, if_neg (by omega)])
        have T3 := ((unhide HT).setCell ⟨g, k, none⟩ (.int .i64 next) (fun _ => .inl rfl)).setCell ⟨g', k, none⟩ (.int .i64 0) (fun _ => .inr rfl)
        have TD := (Touch.refl (fun _ => False) ((wr.setCell ⟨g, k, none⟩ (.int .i64 next)).setCell ⟨g', k, none⟩ (.int .i64 0))).drewN 1
        have R := hide (And.intro (R1.kept TD (fun e => e)) (And.intro (R2.kept TD (fun e => e)) (T3.drewN 1)))
        clear R1 R2 T1 T2 T3 TD hne d1 d2 d3 c1 c2 f1 f2 y7 y8
        go_wp2_with fail
        refine ⟨⟨k + 1, by omega, by go_num, (unhide R).1, (unhide R).2.1, (unhide R).2.2⟩, ?_⟩
        simp [intOf]; omega
    · obtain rfl : k = 7 := by omega
      have R := hide (And.intro hA (And.intro hA' hT))
      clear hA hA' hT XX
      go_wp2_with fail
      go_end0
      obtain ⟨r1, r2, r3⟩ := unhide R
      refine ⟨⟨_, rfl⟩, ?_, ?_, r3⟩
      · exact LaidI.own (l := List.replicate 7 next) (f := resF l next 7) r1 (fun j hj => by unfold resF; rw [if_pos (by simpa using hj)]; rw [List.getD_eq_getElem?_getD, List.getElem?_replicate, if_pos (by simpa using hj)]; rfl) hB (unhide HM).1
      · exact LaidI.own (l := List.replicate 7 0) (f := resF l' 0 7) r2 (fun j hj => by unfold resF; rw [if_pos (by simpa using hj)]; rw [List.getD_eq_getElem?_getD, List.getElem?_replicate, if_pos (by simpa using hj)]; rfl) hB' (unhide HM).2
end Go.Proofs.Ytljolldacpkeeaa
