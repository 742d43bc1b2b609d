/- impl.FrameBytes, spec.FrameBytes, walked. -/
import Derived.Test.YtjkmnnjagcabdaaFrS
namespace Go.Proofs.Ytjkmnnjagcabdaa
open Go.ChangeShapes Go.WideShapes Go.ChangeAt Go.RowKit fnExactCheck32
set_option linter.unusedVariables false

set_option maxRecDepth 100000 in
set_option maxHeartbeats 1000000 in
theorem implFrameBytes_any (v : Value) (l : List Int) (w : World) (h : Bytes w v l) :
    Calls Try.prog 18 #[v] w fun e w' => ∃ v', e = .returned (.tuple #[v', .int .i64 (frOut l).2]) ∧ OwnB w.heap.size w' v' (frOut l).1 ∧ Below w.heap.size w w' := by
  obtain ⟨a, cap, rfl, hm, hc, hr⟩ := h
  have HR := hide hr
  unfold maxLen at hm
  by_cases hl : 65536 < l.length
  · have E := hide (show frOut l = ([], 2) by simp [frOut, hl])
    clear hc hr
    go_enter Try.func18, Try.ntmps18
    go_wp2_with fail
    go_ret2
    exact ⟨.slice none 0 0, ret_two (by rw [unhide E]), by rw [unhide E]; exact OwnB.nil _ _, Below.refl _ _⟩
  rcases Bool.eq_false_or_eq_true (inB l.length 1 200) with hin | hin
  · have E := hide (show frOut l = (frameL l, 0) by simp [frOut, hl, hin])
    obtain ⟨g0, g1⟩ := inB_iff.1 hin
    have hs := sumF_range l hr
    obtain ⟨c, off, rfl, hcl, hcell⟩ : ∃ c off, a = some ⟨c, off, none⟩ ∧ c < w.heap.size ∧ ∀ i, i < l.length → w.cell? ⟨c, off + i, none⟩ = some (.int .u8 (l.getD i 0)) := by
      rcases hc with h0 | h1
      · omega
      · exact h1
    have HC := hide hcell
    clear hc hr hcell
    go_enter Try.func18, Try.ntmps18
    go_wp2_with (go_at_call 39; refine (within_any _ _ _ _).mono ?_; rintro e w' ⟨rfl, hw'⟩; have hw2 := hw'.symm; clear hw'; subst hw2)
    have W0 := hide (Wr.new w w.heap.size rfl 56)
    have HS0 : Hid ((w.alloc (.cells #[.slice none 0 0] 56)).heap.size = w.heap.size + 1) := hide (by simp)
    have B0 := hide ((Below.refl w.heap.size w).alloc (Nat.le_refl _) (.cells #[.slice none 0 0] 56))
    generalize w.alloc (.cells #[.slice none 0 0] 56) = w2 at *
    refine (numbers_new1 w.heap.size 2 2 rfl _ [] l.length w2 (unhide W0) _ (unhide HS0) (by omega) (by omega) (by omega) (by simp)).mono ?_
    rintro e w3 ⟨rfl, v3, hW3, hT3, hL3⟩
    rw [List.nil_append] at hW3
    have B3 := hide ((unhide B0).trans ((unhide W0).below hT3 (Nat.le_refl _)))
    have W3 := hide hW3
    clear hW3 hT3 hL3
    go_wp2_with fail
    refine (frameSum_any c off cap l w3 (Nat.lt_of_lt_of_le hcl (unhide B3).size) (fun i hi => ((unhide B3).cell (p := ⟨c, off + i, none⟩) hcl).trans (unhide HC i hi)) (unhide HR) (by omega) (by omega)).mono ?_
    rintro e w4 ⟨rfl, hb4⟩
    have B4 := hide ((unhide B3).trans (hb4.mono (unhide B3).size))
    have W4 := hide ((unhide W3).kept (T := fun _ => False) (Touch.ofBelow hb4) (fun h => h) (fun _ _ h => h))
    clear hb4 W3 B3
    go_wp2_with fail
    refine (numbers_new1 w.heap.size 4 4 rfl v3 _ (sumF l) w4 (unhide W4) _ rfl (by omega) hs.1 hs.2 (by simp [encN])).mono ?_
    rintro e w5 ⟨rfl, v5, hW5, hT5, hL5⟩
    have B5 := hide ((unhide B4).trans ((unhide W4).below hT5 (Nat.le_refl _)))
    have W5 := hide hW5
    clear hW5 hT5 hL5
    go_wp2_with fail
    refine (raw_any w.heap.size v5 _ l c off cap w5 (unhide W5) (Nat.lt_of_lt_of_le hcl (unhide B5).size) (fun i hi => ((unhide B5).cell (p := ⟨c, off + i, none⟩) hcl).trans (unhide HC i hi)) (unhide HR) (by omega) (by omega) (by simp [encN])).mono ?_
    rintro e w6 ⟨rfl, v6, hW6, hT6, hL6⟩
    have B6 := hide ((unhide B5).trans ((unhide W5).below hT6 (Nat.le_refl _)))
    have hcell := hW6.1
    have W6 := hide hW6
    clear hW6 hT6 hL6
    go_wp2_with fail
    go_ret2
    refine ⟨v6, ret_two (by rw [unhide E]), ?_, unhide B6⟩
    rw [unhide E]
    exact OwnB.mono (B := w.heap.size + 1) ⟨(unhide W6).2.2.2.1, (unhide W6).2.2.2.2⟩ (by omega)
  · have E := hide (show frOut l = ([], 4) by simp [frOut, hl, hin])
    clear hc hr
    go_enter Try.func18, Try.ntmps18
    go_wp2_with (go_at_call 39; refine (within_any _ _ _ _).mono ?_; rintro e w' ⟨rfl, hw'⟩; have hw2 := hw'.symm; clear hw'; subst hw2)
    go_ret2
    exact ⟨.slice none 0 0, ret_two (by rw [unhide E]), by rw [unhide E]; exact OwnB.nil _ _, Below.refl _ _⟩
set_option maxRecDepth 100000 in
set_option maxHeartbeats 1000000 in
theorem specFrameBytes_any (v : Value) (l : List Int) (w : World) (h : Bytes w v l) :
    Calls Try.prog 19 #[v] w fun e w' => ∃ v', e = .returned (.tuple #[v', .int .i64 (frOut l).2]) ∧ OwnB w.heap.size w' v' (frOut l).1 ∧ Below w.heap.size w w' := by
  obtain ⟨a, cap, rfl, hm, hc, hr⟩ := h
  have HR := hide hr
  unfold maxLen at hm
  by_cases hl : 65536 < l.length
  · have E := hide (show frOut l = ([], 2) by simp [frOut, hl])
    clear hc hr
    go_enter Try.func19, Try.ntmps19
    go_wp2_with fail
    go_ret2
    exact ⟨.slice (some ⟨w.heap.size, 0, none⟩) 0 0, ret_two (by rw [unhide E]), by rw [unhide E]; exact own_empty w _ _ rfl (Nat.le_refl _), (Below.refl _ _).alloc (Nat.le_refl _) _⟩
  by_cases hl0 : l.length = 0
  · have E := hide (show frOut l = ([], 4) by unfold frOut; rw [if_neg hl, if_neg (by rw [inB_iff]; omega)])
    have hb : ((l.length : Int) == 0) = true := by rw [hl0]; rfl
    clear hc hr
    go_enter Try.func19, Try.ntmps19
    go_wp2_with fail
    go_ret2
    exact ⟨.slice (some ⟨w.heap.size, 0, none⟩) 0 0, ret_two (by rw [unhide E]), by rw [unhide E]; exact own_empty w _ _ rfl (Nat.le_refl _), (Below.refl _ _).alloc (Nat.le_refl _) _⟩
  have hb : ((l.length : Int) == 0) = false := by rw [beq_eq_false_iff_ne]; omega
  by_cases hl2 : 200 < l.length
  · have E := hide (show frOut l = ([], 4) by unfold frOut; rw [if_neg hl, if_neg (by rw [inB_iff]; omega)])
    have hl3 : (200 : Int) < (l.length : Int) := by omega
    clear hc hr
    go_enter Try.func19, Try.ntmps19
    go_wp2_with fail
    go_ret2
    exact ⟨.slice (some ⟨w.heap.size, 0, none⟩) 0 0, ret_two (by rw [unhide E]), by rw [unhide E]; exact own_empty w _ _ rfl (Nat.le_refl _), (Below.refl _ _).alloc (Nat.le_refl _) _⟩
  · have E := hide (show frOut l = (frameL l, 0) by unfold frOut; rw [if_neg hl, if_pos (by rw [inB_iff]; omega)])
    obtain ⟨c, off, rfl, hcl, hcell⟩ : ∃ c off, a = some ⟨c, off, none⟩ ∧ c < w.heap.size ∧ ∀ i, i < l.length → w.cell? ⟨c, off + i, none⟩ = some (.int .u8 (l.getD i 0)) := by
      rcases hc with h0 | h1
      · omega
      · exact h1
    have HC := hide hcell
    have hl3 : ¬ (200 : Int) < (l.length : Int) := by omega
    clear hc hr hcell
    go_enter Try.func19, Try.ntmps19
    go_wp2_with fail
    refine (l02Frame_any c off cap l w hcl (unhide HC) (unhide HR) (by omega) (by omega)).mono ?_
    rintro e w1 ⟨v1, rfl, hO, hb1⟩
    have R := hide (And.intro hO hb1)
    clear hO hb1
    go_wp2_with fail
    go_ret2
    exact ⟨v1, ret_two (by rw [unhide E]), by rw [unhide E]; exact (unhide R).1, (unhide R).2⟩
end Go.Proofs.Ytjkmnnjagcabdaa
