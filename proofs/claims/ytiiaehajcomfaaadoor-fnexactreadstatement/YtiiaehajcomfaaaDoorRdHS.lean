/- spec.ReadHash. -/
import Derived.Test.YtiiaehajcomfaaaDoorReadHash
namespace Go.Proofs.YtiiaehajcomfaaaDoor.fnExactReadHash
open Go.ChangeShapes Go.WideShapes Go.ChangeAt Go.RowKit
open Go.ChangeMaps (open_string shut_string)
set_option linter.unusedVariables false
theorem l01Nibble_any (c : Int) (w : World) (h0 : 0 ≤ c) (h1 : c ≤ 255) :
    Calls Tryd.prog 54 #[.int .u8 c] w fun e w' => e = .returned (.int .i64 (nib c)) ∧ w' = w := by
  go_enter Tryd.func54, Tryd.ntmps54
  go_wp2
  all_goals (go_ret; exact ⟨ret_int (by unfold nib; (repeat split) <;> omega), rfl⟩)

theorem read_zero (w : World) (s : ByteArray) : (w.alloc (Obj.cells #[] 5)).ownsRow w.heap.size 5 1 (Value.slice (some { block := w.heap.size, off := 0 }) 0 0) 0 (List.map (Value.int .u8) (readL s 0)) :=
  World.ownsRow_made w #[] 0 (Nat.le_refl _) (by unfold maxLen; omega) rfl

theorem read_step {s : ByteArray} {k : Nat} {x : Int} {w wr w1 : World} {o : Obj} {u v' : Value} (hr : readL s (k + 1) = readL s k ++ [x])
    (hown : wr.ownsRow w.heap.size 5 1 u k ((readL s k).map (Value.int .u8))) (hbel : Below w.heap.size w wr)
    (h1 : w1.ownsRow w.heap.size 5 1 v' (k + 1) ((readL s k).map (Value.int .u8) ++ [.int .u8 x]))
    (hg : (wr.alloc o).grownBy w1 u.ownBlock) :
    w1.ownsRow w.heap.size 5 1 v' (k + 1) ((readL s (k + 1)).map (Value.int .u8)) ∧ Below w.heap.size w w1 := by
  constructor
  · rw [hr]; simpa using h1
  · have hz := hbel.size
    refine (hbel.alloc (by omega) o).grown hg (by simp; omega) ?_
    intro r hr
    exact (hown.lt r hr).1
set_option maxRecDepth 100000 in
set_option maxHeartbeats 1000000 in
theorem specRead_any (s : ByteArray) (w : World) (hs : s.size ≤ maxLen) :
    Calls Tryd.prog 30 #[.string s] w fun e w' => e = .returned (readV s) ∧ Below w.heap.size w w' := by
  unfold maxLen at hs
  by_cases h1 : 65536 < s.size
  · have H := hide (readV_long h1)
    go_enter Tryd.func30, Tryd.ntmps30
    go_wp2_with fail
    go_ret2
    exact ⟨ret_eq (unhide H).symm, Below.refl _ _⟩
  · by_cases h2 : s.size = 64
    · have H2 := hide h2
      have h2' : ((s.size : Int) != 64) = false := by simp; omega
      have hle : s.size ≤ 64 := by omega
      have hge : 64 ≤ s.size := by omega
      clear h2 h1
      obtain ⟨i0, hi, hz0, hz1, hz2⟩ := info_parts info5
      go_enter Tryd.func30, Tryd.ntmps30
      go_wp2_with fail
      go_loopw [4, 5, 6, 7] (fun v i _ _ wr => ∃ k : Nat, k ≤ 32 ∧ i = .int .i64 (2 * k) ∧ goodTo s k ∧ wr.ownsRow w.heap.size 5 1 v k ((readL s k).map (Value.int .u8)) ∧ Below w.heap.size w wr)
        (fun _ i _ _ _ => 64 - (intOf i).toNat)
      case atStart => exact ⟨0, Nat.zero_le _, rfl, fun j hj => by omega, read_zero w s, (Below.refl _ _).alloc (Nat.le_refl _) _⟩
      case round =>
        obtain ⟨k, hk, rfl, hgood, hown, hbel⟩ := hrel
        by_cases hlt : k < 32
        · have e1 := bAt_eq s (2 * k) (by omega)
          have e2 := bAt_eq s (2 * k + 1) (by omega)
          go_wp2_with fail
          refine (l01Nibble_any _ _ (bAt_lo _ _) (bAt_hi _ _)).mono ?_
          rintro e w1 ⟨rfl, rfl⟩
          go_wp2_with fail
          refine (l01Nibble_any _ _ (bAt_lo _ _) (bAt_hi _ _)).mono ?_
          rintro e w2 ⟨rfl, rfl⟩
          clear e1 e2
          have HR : Hid (readL s (k + 1) = readL s k ++ [16 * nib (bAt s (2 * k)) + nib (bAt s (2 * k + 1))]) := rfl
          have HG : Hid (0 ≤ nib (bAt s (2 * k)) → 0 ≤ nib (bAt s (2 * k + 1)) → goodTo s (k + 1)) := good_succ hgood
          have HN : Hid (nib (bAt s (2 * k)) < 0 ∨ nib (bAt s (2 * k + 1)) < 0 → allB s = false) := allB_no hlt
          have ha0 := nib_lo (bAt s (2 * k))
          have ha1 := nib_hi (bAt s (2 * k))
          have hb0 := nib_lo (bAt s (2 * k + 1))
          have hb1 := nib_hi (bAt s (2 * k + 1))
          generalize nib (bAt s (2 * k)) = a at *
          generalize nib (bAt s (2 * k + 1)) = b at *
          by_cases ha : a < 0
          · have H := hide (readV_bad (unhide H2) (unhide HN (.inl ha)))
            go_wp2_with fail
            go_ret2
            exact ⟨ret_eq (unhide H).symm, hbel⟩
          · by_cases hb : b < 0
            · have H := hide (readV_bad (unhide H2) (unhide HN (.inr hb)))
              go_wp2_with fail
              go_ret2
              exact ⟨ret_eq (unhide H).symm, hbel⟩
            · have ha' : 0 ≤ a := by omega
              have hb' : 0 ≤ b := by omega
              go_wp2_with (at_builtin; refine wpList_append_own _ rfl _ _ 81 rfl w.heap.size 5 i0 (.int .u8 0) 1 1 Tryd.underlying81 hi hz0 hz1 hz2 rfl (by decide) _ _ _ rfl (hown.alloc _) ⟨w2.heap.size, 0, none⟩ 1 1 [_] rfl rfl (World.news_of_block (cs := #[_]) (t := 5) (fr := (0, 0)) (heap_alloc_new w2 _)) (by simp [Value.oneCell']) (by unfold maxLen; omega) (by omega) (by have := hbel.size; simp; omega) ?_; intro v' w3 hown1 hgrow hnil)
              have R := hide (read_step (x := 16 * a + b) (unhide HR) hown hbel hown1 hgrow)
              clear hown1 hgrow hown hbel hnil
              refine ⟨⟨k + 1, by omega, by go_num, unhide HG ha' hb', (unhide R).1, (unhide R).2⟩, ?_⟩
              simp [intOf]; omega
        · obtain rfl : k = 32 := by omega
          have H := hide (readV_yes (unhide H2) (allB_yes hgood))
          have hc := conv_own (P := Tryd.prog) 81 9 5 Tryd.underlying81 Tryd.underlying5 Tryd.underlying9 hown
          go_wp2_with fail
          go_ret2
          exact ⟨ret_eq (unhide H).symm, hbel⟩
    · have H := hide (readV_no h1 h2)
      have h2' : ((s.size : Int) != 64) = true := by simp; omega
      clear h2
      go_enter Tryd.func30, Tryd.ntmps30
      go_wp2_with fail
      go_ret2
      exact ⟨ret_eq (unhide H).symm, Below.refl _ _⟩

end Go.Proofs.YtiiaehajcomfaaaDoor.fnExactReadHash
