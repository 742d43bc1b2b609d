/- impl.ReadEntry and spec.ReadEntry, walked. -/
import Derived.Test.YtpdjfjapdmopoaaRdE
import Derived.Test.YtpdjfjapdmopoaaEnt
import Derived.Test.YtpdjfjapdmopoaaSRdP
namespace Go.Proofs.Ytpdjfjapdmopoaa
open Go.ChangeShapes Go.WideShapes Go.ChangeAt Go.RowKit
set_option linter.unusedVariables false
set_option linter.unusedSimpArgs false

/-- What ReadCommand answers of the bytes l. -/
def entRead (l : List Int) : (Int × Int × ByteArray) × Int :=
  if 65536 < l.length then ((0, 0, ⟨#[]⟩), 2)
  else if doneP (entP (some l)).2 && entOK (entP (some l)).1.1 (entP (some l)).1.2.1 (entP (some l)).1.2.2 then ((entP (some l)).1, 0) else ((0, 0, ⟨#[]⟩), 3)
def zeroE : Int × Int × ByteArray := (0, 0, ⟨#[]⟩)
theorem entP_size {st : Option (List Int)} (h : rangeP st) : (entP st).1.2.2.size ≤ maxLen := by
  have r1 : rangeP (numP 4 st).2 := (takeP_range h 4).2
  have r2 : rangeP (numP 1 (numP 4 st).2).2 := (takeP_range r1 1).2
  have l4 := textP_len r2
  show (strOfNums (textP (numP 1 (numP 4 st).2).2).1).size ≤ maxLen
  exact strOfNums_small _ (by omega)

set_option maxRecDepth 100000 in
set_option maxHeartbeats 1000000 in
theorem implReadEntry_any (a : Option Addr) (cap : Nat) (l : List Int) (w : World) (h : RdV w w.heap.size (.slice a l.length cap) l) :
    Calls Try.prog 39 #[.slice a l.length cap] w fun e w' => e = .returned (.tuple #[entVal (entRead l).1, .int .i64 (entRead l).2]) ∧ Below w.heap.size w w' := by
  have hm : (l.length : Int) ≤ 9223372036854775807 := by
    obtain ⟨_, _, _, h1, h2, _⟩ := h; unfold maxLen at h2; omega
  have hrg : ∀ i, 0 ≤ l.getD i 0 ∧ l.getD i 0 ≤ 255 := by obtain ⟨_, _, _, _, _, _, hr⟩ := h; exact hr
  have HSZ := hide (entP_size (st := some l) hrg)
  have H := hide h
  have B0 := hide ((Below.refl w.heap.size w).alloc (Nat.le_refl _) (.cells #[.int .i64 0, .int .i64 0, .string ⟨#[]⟩] 78))
  have R0 := hide (Blk.new w #[.int .i64 0, .int .i64 0, .string ⟨#[]⟩] 78 w.heap.size rfl)
  clear h hrg
  by_cases hl : 65536 < l.length
  · have E := hide (show entRead l = (zeroE, 2) by simp [entRead, hl, zeroE])
    go_enter Try.func39, Try.ntmps39
    go_wp2_with fail
    refine bodyPost_ret (v := .tuple #[.agg #[.int .i64 0, .int .i64 0, .string ⟨#[]⟩], .int .i64 2]) (by simp [results, Try.results39, go_sem]) rfl ⟨by rw [unhide E]; rfl, ?_⟩
    exact unhide B0
  · have E := hide (show entRead l = _ by unfold entRead; rw [if_neg hl])
    go_enter Try.func39, Try.ntmps39
    go_wp2_with fail
    have R1 := hide ((unhide R0).alloc (.cells #[.slice a l.length cap, .bool false] 108))
    have B1 := hide ((unhide B0).alloc (by simp) (.cells #[.slice a l.length cap, .bool false] 108))
    have N1 : Hid (((w.alloc (.cells #[.int .i64 0, .int .i64 0, .string ⟨#[]⟩] 78)).alloc (.cells #[.slice a l.length cap, .bool false] 108)).heap.size = w.heap.size + 2) := hide (by simp)
    have S1 : Hid (Rd ((w.alloc (.cells #[.int .i64 0, .int .i64 0, .string ⟨#[]⟩] 78)).alloc (.cells #[.slice a l.length cap, .bool false] 108)) (w.heap.size + 1) (some l)) := hide (by
      have hB := Blk.new (w.alloc (.cells #[.int .i64 0, .int .i64 0, .string ⟨#[]⟩] 78)) #[.slice a l.length cap, .bool false] 108 (w.heap.size + 1) (by simp)
      refine ⟨⟨_, hB.cell 0 rfl, ?_⟩, hB.cell 1 rfl, hB.fro, hB.1⟩
      have h1 := (unhide H).kept (Nat.le_refl _) (((Touch.refl (fun _ => False) w).alloc (.cells #[.int .i64 0, .int .i64 0, .string ⟨#[]⟩] 78)).alloc (.cells #[.slice a l.length cap, .bool false] 108)) (fun _ _ h => h)
      obtain ⟨a', c', hv, q1, q2, hc, hr⟩ := h1
      refine ⟨a', c', hv, q1, q2, ?_, hr⟩
      rcases hc with h0 | ⟨c, off, ha, hlt, hcell⟩
      · exact .inl h0
      · exact .inr ⟨c, off, ha, by omega, hcell⟩)
    clear H R0 B0
    generalize (w.alloc (.cells #[.int .i64 0, .int .i64 0, .string ⟨#[]⟩] 78)).alloc (.cells #[.slice a l.length cap, .bool false] 108) = w1 at *
    refine (implEntry_any (w.heap.size + 1) (some l) w1 (unhide S1)).mono ?_
    rintro e w2 ⟨rfl, hR2, hT2⟩
    have R2 := hide ((unhide R1).kept hT2 (by show ¬ w.heap.size = w.heap.size + 1; omega))
    have B2 := hide ((unhide B1).trans (hT2.below (B := w.heap.size) (unhide B1).size (fun k hk e => by subst e; omega)))
    have hz2 : w.heap.size + 2 ≤ w2.heap.size := by have := hT2.size; have := unhide N1; omega
    have S2 := hide hR2
    clear hR2 hT2 R1 B1 N1 S1
    generalize hcp : entP (some l) = cp at *
    obtain ⟨⟨x1, x2, s5⟩, st⟩ := cp
    have HC := hide hcp
    clear hcp
    dsimp only [entVal] at E HSZ S2 ⊢
    have C3 := hide (Blk.new w2 #[.int .i64 x1, .int .i64 x2, .string s5] 78 w2.heap.size rfl)
    have R3 := hide ((unhide R2).alloc (.cells #[.int .i64 x1, .int .i64 x2, .string s5] 78))
    have B3 := hide ((unhide B2).alloc (unhide B2).size (.cells #[.int .i64 x1, .int .i64 x2, .string s5] 78))
    have S3 := hide ((unhide S2).alloc (.cells #[.int .i64 x1, .int .i64 x2, .string s5] 78))
    go_wp2_with fail
    clear R2 B2 S2
    generalize w2.alloc (.cells #[.int .i64 x1, .int .i64 x2, .string s5] 78) = w3 at *
    refine (done_any (w.heap.size + 1) st w3 (unhide S3)).mono ?_
    rintro e w3' ⟨rfl, rfl⟩
    have c0 := (unhide C3).cell 0 rfl
    have c1 := (unhide C3).cell 1 rfl
    have c2 := (unhide C3).cell 2 rfl
    cases hd : doneP st with
    | false =>
      rw [hd] at E
      have HD := hide hd
      clear hd
      have q0 := (unhide R3).fro 0
      have q1 := (unhide R3).fro 1
      have q2 := (unhide R3).fro 2
      have r0 := (unhide R3).cell 0 rfl
      have r1 := (unhide R3).cell 1 rfl
      have r2 := (unhide R3).cell 2 rfl
      go_wp2_with fail
      have F := ((((unhide R3).set 0 (.int .i64 0) (by simp)).set 1 (.int .i64 0) (by simp)).set 2 (.string ⟨#[]⟩) (by simp))
      have e0 := F.cell 0 rfl
      have e1 := F.cell 1 rfl
      have e2 := F.cell 2 rfl
      refine bodyPost_ret (v := .tuple #[.agg #[.int .i64 0, .int .i64 0, .string ⟨#[]⟩], .int .i64 3]) (by simp [results, Try.results39, go_sem, e0, e1, e2]) rfl ⟨by rw [unhide E]; rfl, ?_⟩
      exact ((((unhide B3).setCell (p := ⟨w.heap.size, 0, none⟩) (Nat.le_refl _) _).setCell (p := ⟨w.heap.size, 1, none⟩) (Nat.le_refl _) _).setCell (p := ⟨w.heap.size, 2, none⟩) (Nat.le_refl _) _)
    | true =>
      rw [hd] at E
      have HD := hide hd
      clear hd
      go_wp2_with fail
      refine (implEntryOK_any x1 x2 s5 _ (unhide HSZ)).mono ?_
      rintro e w4 ⟨rfl, hb4⟩
      have R4 := hide ((unhide R3).below hb4)
      have C4 := hide ((unhide C3).below hb4)
      have B4 := hide ((unhide B3).trans (hb4.mono (unhide B3).size))
      clear hb4 R3 C3 B3 S3 c0 c1 c2
      have c0 := (unhide C4).cell 0 rfl
      have c1 := (unhide C4).cell 1 rfl
      have c2 := (unhide C4).cell 2 rfl
      have q0 := (unhide R4).fro 0
      have q1 := (unhide R4).fro 1
      have q2 := (unhide R4).fro 2
      have r0 := (unhide R4).cell 0 rfl
      have r1 := (unhide R4).cell 1 rfl
      have r2 := (unhide R4).cell 2 rfl
      have hne1 : w.heap.size ≠ w2.heap.size := by omega
      have hne2 : w2.heap.size ≠ w.heap.size := by omega
      generalize entOK x1 x2 s5 = ok at *
      cases ok
      · go_wp2_with fail
        have F := ((((unhide R4).set 0 (.int .i64 0) (by simp)).set 1 (.int .i64 0) (by simp)).set 2 (.string ⟨#[]⟩) (by simp))
        have e0 := F.cell 0 rfl
        have e1 := F.cell 1 rfl
        have e2 := F.cell 2 rfl
        refine bodyPost_ret (v := .tuple #[.agg #[.int .i64 0, .int .i64 0, .string ⟨#[]⟩], .int .i64 3]) (by simp [results, Try.results39, go_sem, e0, e1, e2]) rfl ⟨by rw [unhide E]; rfl, ?_⟩
        exact ((((unhide B4).setCell (p := ⟨w.heap.size, 0, none⟩) (Nat.le_refl _) _).setCell (p := ⟨w.heap.size, 1, none⟩) (Nat.le_refl _) _).setCell (p := ⟨w.heap.size, 2, none⟩) (Nat.le_refl _) _)
      · go_wp2_with fail
        have F := ((((unhide R4).set 0 (.int .i64 x1) (by simp)).set 1 (.int .i64 x2) (by simp)).set 2 (.string s5) (by simp))
        have e0 := F.cell 0 rfl
        have e1 := F.cell 1 rfl
        have e2 := F.cell 2 rfl
        refine bodyPost_ret (v := .tuple #[.agg #[.int .i64 x1, .int .i64 x2, .string s5], .int .i64 0]) (by simp [results, Try.results39, go_sem, e0, e1, e2]) rfl ⟨by rw [unhide E]; rfl, ?_⟩
        exact ((((unhide B4).setCell (p := ⟨w.heap.size, 0, none⟩) (Nat.le_refl _) _).setCell (p := ⟨w.heap.size, 1, none⟩) (Nat.le_refl _) _).setCell (p := ⟨w.heap.size, 2, none⟩) (Nat.le_refl _) _)
end Go.Proofs.Ytpdjfjapdmopoaa
