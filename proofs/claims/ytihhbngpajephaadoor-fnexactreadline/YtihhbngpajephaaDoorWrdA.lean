/- A text's words: pure; spec.l00Words. -/
import Derived.Test.YtihhbngpajephaaDoorStrP
import Derived.Test.YtihhbngpajephaaDoorAppR
import Derived.Test.YtihhbngpajephaaDoorIn
import Derived.Test.YtihhbngpajephaaDoorWrdP
namespace Go.Proofs.YtihhbngpajephaaDoor.Sha
open Go.ChangeShapes Go.WideShapes Go.ChangeAt Go.RowKit
set_option linter.unusedVariables false
set_option linter.unusedSimpArgs false

set_option maxRecDepth 100000 in
set_option maxHeartbeats 2000000 in
theorem l00Words_any (t : ByteArray) (w : World) (ht : t.size ≤ 65536) :
    Calls Tryd.prog 7 #[.string t] w fun e w' => ∃ u, e = .returned u ∧ OwnS w.heap.size w' u (wordsL t) ∧ Below w.heap.size w w' := by
  obtain ⟨i0, hi, hz0, hz1, hz2⟩ := info_parts9
  have B0 := hide ((Below.refl w.heap.size w).alloc (Nat.le_refl _) (.cells #[] 9))
  have O0 : Hid (OwnS w.heap.size (w.alloc (.cells #[] 9)) (.slice (some ⟨w.heap.size, 0, none⟩) 0 0) []) := hide ⟨rfl, .inr ⟨w.heap.size, 0, #[], rfl, Nat.le_refl _, heap_alloc_new w _, Nat.le_refl _, by unfold maxLen; omega, rfl, rfl⟩⟩
  have HF := hide (wst_from t)
  go_enter Tryd.func7, Tryd.ntmps7
  go_wp2_with fail
  go_loopw [3, 4, 5] (fun ov fv iv wr => ∃ k : Nat, k ≤ t.size + 1 ∧ iv = .int .i64 k ∧ fv = .int .i64 ((wst t k).2 : Nat) ∧ OwnS w.heap.size wr ov (wst t k).1 ∧ Below w.heap.size w wr) (fun _ _ i _ => t.size + 1 - (intOf i).toNat)
  case atStart => exact ⟨0, Nat.zero_le _, rfl, rfl, unhide O0, unhide B0⟩
  case round =>
    obtain ⟨k, hk, rfl, rfl, hOS, hb⟩ := hrel
    by_cases hlt : k = t.size + 1
    · have HE : Hid ((wst t k).1 = wordsL t) := hide (by rw [hlt]; rfl)
      have R := hide (And.intro hOS hb)
      rw [unhide HE] at R
      clear hOS hb
      have hk1 : ¬ (k : Int) ≤ (t.size : Int) := by omega
      clear hlt
      go_wp2_with fail
      go_ret
      exact ⟨_, rfl, (unhide R).1, (unhide R).2⟩
    · have hk0 : (0 : Int) ≤ (k : Int) := by omega
      have hk1 : (k : Int) ≤ (t.size : Int) := by omega
      have hkt : k ≤ 65536 := by omega
      obtain ⟨hf1, hf2⟩ := unhide HF k
      have HP := hide (fun h h2 => wst_push (t := t) (i := k) h h2)
      have HS := hide (fun h h2 => wst_skip (t := t) (i := k) h h2)
      have HN := hide (fun h => wst_no (t := t) (i := k) h)
      have HO := hide hOS
      have HB := hide hb
      have hbs := hb.size
      have hms : (k + 1) ≤ t.size + 1 := by omega
      clear hOS hb
      generalize hws : wst t k = st at *
      obtain ⟨o, f⟩ := st
      dsimp only at *
      clear hws
      by_cases he : k = t.size
      · have hsep : sepB t k = true := by unfold sepB; rw [decide_eq_true he]; rfl
        have heb : ((k : Int) == (t.size : Int)) = true := by rw [beq_iff_eq]; omega
        clear he
        by_cases hpu : f < k
        · have HE := hide (unhide HP hsep hpu)
          have HO3 := hide (show wr.ownsRow w.heap.size 9 1 u3 o.length (o.map Value.string) from unhide HO)
          have hfk : (f : Int) < (k : Int) := by omega
          have hf0 : (0 : Int) ≤ (f : Int) := by omega
          have hfk2 : (f : Int) ≤ (k : Int) := by omega
          clear HP HS HN hsep
          go_wp2_with (at_builtin; refine wpList_append_lies _ rfl _ _ _ rfl w.heap.size 9 i0 _ 1 16 Tryd.underlying28 hi hz0 hz1 hz2 rfl (by omega) u3 o.length (o.map Value.string) rfl (own_kept (T := fun _ => False) (unhide HO3) (Touch.ofBelow ((Below.refl wr.heap.size wr).alloc (Nat.le_refl _) (.cells #[.string (t.extract f k)] 9))) (fun _ _ h => h)) ⟨wr.heap.size, 0, none⟩ 1 1 [_] rfl rfl (World.news_of_block (cs := #[_]) (t := 9) (fr := (0, 0)) (heap_alloc_new wr _)) (by simp [Value.oneCell']) (by omega) (by unfold maxLen; omega) (by omega) (by have := (unhide HB).size; simp; omega) _ rfl ?_; intro g3 cap3 w3 hown3 hgrow3 hat3 hlt3; have R := hide (And.intro (strs_pushed (t := t.extract f k) hown3) (((unhide HB).alloc (unhide HB).size (.cells #[.string (t.extract f k)] 9)).grown hgrow3 (by have := (unhide HB).size; simp; omega) (fun r hr => ((unhide HO3).lt r hr).1))); clear hown3 hgrow3 hat3 hlt3)
          refine ⟨⟨k + 1, hms, by go_num, by rw [unhide HE]; go_num, by rw [unhide HE]; exact (unhide R).1, (unhide R).2⟩, ?_⟩
          simp [intOf]; omega
        · have HE := hide (unhide HS hsep hpu)
          have hfk : ¬ (f : Int) < (k : Int) := by omega
          clear HP HS HN hsep
          go_wp2_with fail
          refine ⟨⟨k + 1, hms, by go_num, by rw [unhide HE]; go_num, by rw [unhide HE]; exact unhide HO, unhide HB⟩, ?_⟩
          simp [intOf]; omega
      · have heb : ((k : Int) == (t.size : Int)) = false := by rw [beq_eq_false_iff_ne]; omega
        have hlt2 : (k : Int) < (t.size : Int) := by omega
        have hb0 := bAt_eq t k (by omega)
        by_cases hc : bAt t k = 32
        · have hsep : sepB t k = true := by unfold sepB; rw [hc]; simp
          rw [hc] at hb0
          clear he hc
          by_cases hpu : f < k
          · have HE := hide (unhide HP hsep hpu)
            have HO3 := hide (show wr.ownsRow w.heap.size 9 1 u3 o.length (o.map Value.string) from unhide HO)
            have hfk : (f : Int) < (k : Int) := by omega
            have hf0 : (0 : Int) ≤ (f : Int) := by omega
            have hfk2 : (f : Int) ≤ (k : Int) := by omega
            clear HP HS HN hsep
            go_wp2_with (at_builtin; refine wpList_append_lies _ rfl _ _ _ rfl w.heap.size 9 i0 _ 1 16 Tryd.underlying28 hi hz0 hz1 hz2 rfl (by omega) u3 o.length (o.map Value.string) rfl (own_kept (T := fun _ => False) (unhide HO3) (Touch.ofBelow ((Below.refl wr.heap.size wr).alloc (Nat.le_refl _) (.cells #[.string (t.extract f k)] 9))) (fun _ _ h => h)) ⟨wr.heap.size, 0, none⟩ 1 1 [_] rfl rfl (World.news_of_block (cs := #[_]) (t := 9) (fr := (0, 0)) (heap_alloc_new wr _)) (by simp [Value.oneCell']) (by omega) (by unfold maxLen; omega) (by omega) (by have := (unhide HB).size; simp; omega) _ rfl ?_; intro g3 cap3 w3 hown3 hgrow3 hat3 hlt3; have R := hide (And.intro (strs_pushed (t := t.extract f k) hown3) (((unhide HB).alloc (unhide HB).size (.cells #[.string (t.extract f k)] 9)).grown hgrow3 (by have := (unhide HB).size; simp; omega) (fun r hr => ((unhide HO3).lt r hr).1))); clear hown3 hgrow3 hat3 hlt3)
            refine ⟨⟨k + 1, hms, by go_num, by rw [unhide HE]; go_num, by rw [unhide HE]; exact (unhide R).1, (unhide R).2⟩, ?_⟩
            simp [intOf]; omega
          · have HE := hide (unhide HS hsep hpu)
            have hfk : ¬ (f : Int) < (k : Int) := by omega
            clear HP HS HN hsep
            go_wp2_with fail
            refine ⟨⟨k + 1, hms, by go_num, by rw [unhide HE]; go_num, by rw [unhide HE]; exact unhide HO, unhide HB⟩, ?_⟩
            simp [intOf]; omega
        · have hsep : sepB t k = false := by unfold sepB; rw [decide_eq_false he]; simp [hc]
          have HE := hide (unhide HN hsep)
          have hcb : (bAt t k == 32) = false := by rw [beq_eq_false_iff_ne]; exact hc
          clear he hc HP HS HN hsep
          generalize bAt t k = c at *
          go_wp2_with fail
          refine ⟨⟨k + 1, hms, by go_num, by rw [unhide HE], by rw [unhide HE]; exact unhide HO, unhide HB⟩, ?_⟩
          simp [intOf]; omega
end Go.Proofs.YtihhbngpajephaaDoor.Sha
