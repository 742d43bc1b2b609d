/- impl.ReadFrames, walked. -/
import Derived.Test.YtfihhkhdigbmiaaGreatDoorFrN
import Derived.Deep.Onto
namespace Go.Proofs.YtfihhkhdigbmiaaGreatDoor
open Go.ChangeShapes Go.WideShapes Go.ChangeAt Go.RowKit fnExactCheck32
set_option linter.unusedVariables false

theorem FR.new (a : Option Addr) (cap : Nat) (l : List Int) (w : World) (h : RdV w w.heap.size (.slice a l.length cap) l) (t : TypeId) : FR (w.alloc (.cells #[.slice a l.length cap, .bool false, .slice none 0 0, .int .i64 0] t)) w.heap.size (some l) (.slice none 0 0) [] 0 := by
  have hB := Blk.new w #[.slice a l.length cap, .bool false, .slice none 0 0, .int .i64 0] t w.heap.size rfl
  exact ⟨⟨⟨_, hB.cell 0 rfl, h.kept (Nat.le_refl _) ((Touch.refl (fun _ => False) w).alloc _) (fun _ _ h => h)⟩, hB.cell 1 rfl, hB.fro, hB.1⟩, hB.cell 2 rfl, OwnS.nil _ _, hB.cell 3 rfl⟩
def msr (B L : Nat) (c : Value) (wr : World) : Nat := if intOf c = 0 then 1 + L - (intOf ((wr.cell? ⟨B, 3, none⟩).getD (.int .i64 0))).toNat else 0
theorem msr_zero {B L p : Nat} {wr : World} (h : wr.cell? ⟨B, 3, none⟩ = some (.int .i64 p)) : msr B L (.int .i64 0) wr = 1 + L - p := by
  unfold msr; rw [h]; simp [intOf]
theorem msr_code {B L : Nat} {wr : World} {c : Int} (h : c ≠ 0) : msr B L (.int .i64 c) wr = 0 := by
  unfold msr; rw [if_neg (by simpa [intOf] using h)]
theorem doneP_iff {l : List Int} {p : Nat} : doneP (some (l.drop p)) = decide (l.length ≤ p) := by
  cases hd : l.drop p with
  | nil => have := congrArg List.length hd; rw [List.length_drop] at this; simp [doneP]; simp at this; omega
  | cons x r => have := congrArg List.length hd; rw [List.length_drop] at this; simp [doneP]; simp at this; omega

set_option maxRecDepth 100000 in
set_option maxHeartbeats 1600000 in
theorem implReadFrames_any (a : Option Addr) (cap : Nat) (l : List Int) (w : World) (h : RdV w w.heap.size (.slice a l.length cap) l) :
    Calls Tryz.prog 42 #[.slice a l.length cap] w fun e w' => ∃ dv, e = .returned (.tuple #[dv, .int .i64 (rfOut l).2.1, .int .i64 (rfOut l).2.2]) ∧ OwnS w.heap.size w' dv ((rfOut l).1.map strOfNums) ∧ Below w.heap.size w w' := by
  have H := hide h
  have hml : l.length ≤ maxLen := by obtain ⟨_, _, e, h1, h2, _⟩ := h; omega
  unfold maxLen at hml
  clear h
  by_cases hl : 65536 < l.length
  · have E := hide (show rfOut l = ([], 0, 2) by unfold rfOut; rw [if_pos hl])
    have hl2 : (65536 : Int) < (l.length : Int) := by omega
    go_enter Tryz.func42, Tryz.ntmps42
    go_wp2_with fail
    refine bodyPost_ret (v := .tuple #[.slice none 0 0, .int .i64 0, .int .i64 2]) (by simp [results, Tryz.results42, go_sem]) rfl ?_
    rw [unhide E]
    exact ⟨.slice none 0 0, rfl, OwnS.nil _ _, Below.refl _ _⟩
  · have E := hide (show rfOut l = frP l 0 by unfold rfOut; rw [if_neg hl])
    have hl2 : ¬ (65536 : Int) < (l.length : Int) := by omega
    go_enter Tryz.func42, Tryz.ntmps42
    go_wp2_with fail
    have F0 := hide (FR.new a cap l w (unhide H) 102)
    have B0 := hide ((Below.refl w.heap.size w).alloc (Nat.le_refl _) (.cells #[.slice a l.length cap, .bool false, .slice none 0 0, .int .i64 0] 102))
    clear H
    generalize w.alloc (.cells #[.slice a l.length cap, .bool false, .slice none 0 0, .int .i64 0] 102) = w1 at *
    obtain ⟨B, hBe⟩ : ∃ B, B = w.heap.size := ⟨_, rfl⟩
    rw [← hBe] at F0 B0 ⊢
    have HBE := hide hBe
    clear hBe
    go_loopw [6] (fun c wr => (∃ (p : Nat) (ds : List (List Int)) (dv : Value), c = .int .i64 0 ∧ FrAt l p ds ∧ FR wr B (some (l.drop p)) dv ds p ∧ Below B w wr) ∨ (∃ (code : Int) (p : Nat) (ds : List (List Int)) (dv : Value) (st : Option (List Int)), code ≠ 0 ∧ c = .int .i64 code ∧ FR wr B st dv ds p ∧ frP l 0 = (ds, p, code) ∧ Below B w wr)) (fun c wr => msr B l.length c wr)
    case atStart => exact .inl ⟨0, [], .slice none 0 0, rfl, FrAt.zero l, by rw [List.drop_zero]; exact unhide F0, unhide B0⟩
    case round =>
      rcases hrel with ⟨p, ds, dv, rfl, hat, hF, hb⟩ | ⟨code, p, ds, dv, st, hne, rfl, hF, hE, hb⟩
      · have HF := hide (And.intro hF (And.intro hat hb))
        have hple := hat.2.1
        have hdle := hat.2.2.1
        clear hF hat hb
        by_cases hp : p < l.length
        · have hD : doneP (some (l.drop p)) = false := by rw [doneP_iff]; simp; omega
          go_wp2_with fail
          refine (done_any B (some (l.drop p)) wr (unhide HF).1.1).mono ?_
          rintro e w2 ⟨rfl, hw2⟩
          have hw3 := hw2.symm
          clear hw2
          subst hw3
          rw [hD]
          go_wp2_with fail
          refine (next_any B (l.drop p) dv ds p wr (unhide HF).1 (by rw [List.length_drop]; omega) (by omega) (by omega)).mono ?_
          rintro e w3 ⟨rfl, hy, hn, hb3⟩
          have HY := hide (And.intro hy (And.intro hn hb3))
          clear hy hn hb3 hD
          obtain ⟨q, hq⟩ : ∃ q, q = frStep (l.drop p) := ⟨_, rfl⟩
          rw [← hq] at HY ⊢
          have HQ := hide hq
          clear hq
          obtain ⟨code, d⟩ := q
          dsimp only at HY ⊢
          go_wp2_with fail
          have hm0 := msr_zero (L := l.length) (unhide HF).1.2.2.2
          obtain ⟨hy, hn, hb3⟩ := unhide HY
          have hbb := (unhide HF).2.2.trans hb3
          by_cases hc : code = 0
          · subst hc
            obtain ⟨dv', hF'⟩ := hy rfl
            have hnx := (unhide HF).2.1.next hp (unhide HQ).symm
            rw [List.drop_drop, ← Nat.add_assoc] at hF'
            refine ⟨.inl ⟨p + 6 + d.length, ds ++ [d], dv', rfl, hnx, hF', hbb⟩, ?_⟩
            rw [hm0, msr_zero hF'.2.2.2]
            have := hnx.2.1
            omega
          · obtain ⟨st, hF'⟩ := hn hc
            have hst := (unhide HF).2.1.stop hp (by rw [← unhide HQ]; exact hc)
            rw [← unhide HQ] at hst
            refine ⟨.inr ⟨code, p, ds, dv, st, hc, rfl, hF', hst, hbb⟩, ?_⟩
            rw [hm0, msr_code hc]; omega
        · have hD : doneP (some (l.drop p)) = true := by rw [doneP_iff]; simp; omega
          have HE := hide ((unhide HF).2.1.done hp)
          have c2 := (unhide HF).1.2.1
          have c3 := (unhide HF).1.2.2.2
          go_wp2_with fail
          refine (done_any B (some (l.drop p)) wr (unhide HF).1.1).mono ?_
          rintro e w2 ⟨rfl, hw2⟩
          have hw3 := hw2.symm
          clear hw2
          subst hw3
          rw [hD]
          go_wp2_with fail
          go_quiet (fail)
          go_wp2_with fail
          refine bodyPost_ret (v := .tuple #[dv, .int .i64 p, .int .i64 0]) (by simp [results, Tryz.results42, go_sem]) rfl ?_
          rw [unhide E, unhide HE, ← unhide HBE]
          exact ⟨dv, rfl, OwnS.drewN (World.ownsRow.mono (unhide HF).1.2.2.1 (by omega)) _, below_drewN (unhide HF).2.2 _⟩
      · have hne2 : (code == 0) = false := by rw [beq_eq_false_iff_ne]; exact hne
        have HE := hide (And.intro hF (And.intro hE hb))
        have c2 := hF.2.1
        have c3 := hF.2.2.2
        clear hF hE hb
        go_wp2_with fail
        go_quiet (fail)
        go_wp2_with fail
        refine bodyPost_ret (v := .tuple #[dv, .int .i64 p, .int .i64 code]) (by simp [results, Tryz.results42, go_sem]) rfl ?_
        rw [unhide E, (unhide HE).2.1, ← unhide HBE]
        exact ⟨dv, rfl, OwnS.drewN (World.ownsRow.mono (unhide HE).1.2.2.1 (by omega)) _, below_drewN (unhide HE).2.2 _⟩
end Go.Proofs.YtfihhkhdigbmiaaGreatDoor
