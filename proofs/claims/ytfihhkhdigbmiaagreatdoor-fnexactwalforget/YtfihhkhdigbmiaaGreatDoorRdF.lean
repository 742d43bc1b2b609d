/- take and number once more: the cells of the reader's block behind its own two stay as they are. -/
import Derived.Test.YtfihhkhdigbmiaaGreatDoorRdD
import Derived.WalkSpells
namespace Go.Proofs.YtfihhkhdigbmiaaGreatDoor
open Go.ChangeShapes Go.WideShapes Go.ChangeAt Go.RowKit
set_option linter.unusedVariables false

def Kept2 (w w' : World) (b : Nat) : Prop := ∀ j, 2 ≤ j → w'.cell? ⟨b, j, none⟩ = w.cell? ⟨b, j, none⟩
theorem Kept2.set (w : World) (b i : Nat) (hi : i < 2) (v : Value) : Kept2 w (w.setCell ⟨b, i, none⟩ v) b := fun j hj => World.cell?_setCell_other _ _ _ _ (fun e => by have := congrArg Addr.off e; simp at this; omega)
theorem Kept2.trans {w w' w2 : World} {b : Nat} (h : Kept2 w w' b) (k : Kept2 w' w2 b) : Kept2 w w2 b := fun j hj => (k j hj).trans (h j hj)

set_option maxRecDepth 100000 in
set_option maxHeartbeats 1000000 in
theorem take_kept (n : Nat) (b : Nat) (st : Option (List Int)) (w : World) (h : Rd w b st) (hn : n ≤ 65535) :
    Calls Tryz.prog 80 #[.pointer (some ⟨b, 0, none⟩), .int .i64 n] w fun e w' => ∃ v1, e = .returned v1 ∧ RdV w' b v1 (takeP n st).1 ∧ Rd w' b (takeP n st).2 ∧ Touch (fun k => k = b) w w' ∧ w'.heap.size = w.heap.size ∧ Kept2 w w' b := by
  cases st with
  | none =>
    obtain ⟨c0, c1, hf, hb⟩ := h
    have f0 := hf 0
    have f1 := hf 1
    have HF := hide hf
    clear hf
    by_cases h0 : n = 0
    · subst h0
      go_enter Tryz.func80, Tryz.ntmps80
      go_wp2_with fail
      go_ret
      refine ⟨.slice none 0 0, rfl, RdV.nil _ _, ⟨World.cell?_setCell_same _ _ _ c0, ?_, fun j => by simpa using unhide HF j, by simpa using hb⟩, set_touch _ _ _ _, by simp, Kept2.set _ _ _ (by omega) _⟩
      rw [World.cell?_setCell_other _ _ _ _ (by simp)]; exact c1
    · have hn0 : (0 : Int) < (n : Int) := by omega
      have d1 : (w.setCell ⟨b, 0, none⟩ (.slice none 0 0)).cell? ⟨b, 1, none⟩ = some (.bool true) := by rw [World.cell?_setCell_other _ _ _ _ (by simp)]; exact c1
      have R := hide (take_short c0 c1 (unhide HF) hb)
      go_enter Tryz.func80, Tryz.ntmps80
      go_wp2_with fail
      go_ret
      exact ⟨.slice none 0 0, rfl, RdV.nil _ _, (unhide R).1, (unhide R).2, by simp, (Kept2.set _ _ _ (by omega) _).trans (Kept2.set _ _ _ (by omega) _)⟩
  | some rs =>
    obtain ⟨⟨v, c0, a, cap, rfl, hc1, hc2, hsrc, hr⟩, c1, hf, hb⟩ := h
    have f0 := hf 0
    have f1 := hf 1
    have HF := hide hf
    have HM := hide hc2
    clear hf
    unfold maxLen at hc2
    by_cases hle : n ≤ rs.length
    · have HP := hide (show takeP n (some rs) = (rs.take n, some (rs.drop n)) by simp [takeP, hle])
      rcases hsrc with rfl | ⟨c, off, rfl, hlt, hcell⟩
      · have hl0 : rs.length = 0 := by omega
        obtain rfl : rs = [] := List.eq_nil_of_length_eq_zero hl0
        obtain rfl : n = 0 := by omega
        clear hr hl0
        cases a with
        | none =>
          go_enter Tryz.func80, Tryz.ntmps80
          go_wp2_with fail
          go_ret
          rw [unhide HP]
          refine ⟨.slice none 0 0, rfl, RdV.nil _ _, ⟨⟨_, World.cell?_setCell_same _ _ _ c0, RdV.nil _ _⟩, ?_, fun j => by simpa using unhide HF j, by simpa using hb⟩, set_touch _ _ _ _, by simp, Kept2.set _ _ _ (by omega) _⟩
          rw [World.cell?_setCell_other _ _ _ _ (by simp)]; exact c1
        | some x =>
          go_enter Tryz.func80, Tryz.ntmps80
          go_wp2_with fail
          go_ret
          rw [unhide HP]
          refine ⟨.slice (some x) 0 0, rfl, RdV.zero _ _ _, ⟨⟨_, World.cell?_setCell_same _ _ _ c0, RdV.zero _ _ _⟩, ?_, fun j => by simpa using unhide HF j, by simpa using hb⟩, set_touch _ _ _ _, by simp, Kept2.set _ _ _ (by omega) _⟩
          rw [World.cell?_setCell_other _ _ _ _ (by simp)]; exact c1
      · have R := fun v2 hv => take_fits (v2 := v2) c0 c1 (unhide HF) hb hc1 (unhide HM) hlt hcell hr hle hv
        have HR := hide R
        clear hcell hr R
        have hle2 : (n : Int) ≤ (rs.length : Int) := by omega
        have hle3 : (n : Int) ≤ (cap : Int) := by omega
        go_enter Tryz.func80, Tryz.ntmps80
        go_wp2_with fail
        all_goals
          go_ret
          rw [unhide HP]
        · have hcn : cap = n := by assumption
          have r := unhide HR _ (.inr ⟨rfl, hcn⟩)
          rw [hcn] at r
          exact ⟨_, rfl, r.1, r.2, set_touch _ _ _ _, by simp, Kept2.set _ _ _ (by omega) _⟩
        · have r := unhide HR _ (.inl rfl)
          exact ⟨_, rfl, r.1, r.2, set_touch _ _ _ _, by simp, Kept2.set _ _ _ (by omega) _⟩
    · have HP := hide (show takeP n (some rs) = ([], none) by simp [takeP]; omega)
      have hn0 : (rs.length : Int) < (n : Int) := by omega
      have d1 : (w.setCell ⟨b, 0, none⟩ (.slice none 0 0)).cell? ⟨b, 1, none⟩ = some (.bool false) := by rw [World.cell?_setCell_other _ _ _ _ (by simp)]; exact c1
      have R := hide (take_short c0 c1 (unhide HF) hb)
      clear hsrc hr
      go_enter Tryz.func80, Tryz.ntmps80
      go_wp2_with fail
      go_ret
      rw [unhide HP]
      exact ⟨.slice none 0 0, rfl, RdV.nil _ _, (unhide R).1, (unhide R).2, by simp, (Kept2.set _ _ _ (by omega) _).trans (Kept2.set _ _ _ (by omega) _)⟩

set_option maxRecDepth 100000 in
set_option maxHeartbeats 1000000 in
theorem implNumber_kept (n : Nat) (ni : Int) (hni : ni = (n : Int)) (b : Nat) (st : Option (List Int)) (w : World) (h : Rd w b st) (hn : n ≤ 4) :
    Calls Tryz.prog 77 #[.pointer (some ⟨b, 0, none⟩), .int .i64 ni] w fun e w' => e = .returned (.int .i64 (numP n st).1) ∧ Rd w' b (numP n st).2 ∧ Touch (fun k => k = b) w w' ∧ w'.heap.size = w.heap.size ∧ Kept2 w w' b := by
  subst hni
  have H := hide h
  clear h
  go_enter Tryz.func77, Tryz.ntmps77
  go_wp2_with fail
  refine (take_kept n b st w (unhide H) (by omega)).mono ?_
  rintro e w1 ⟨v1, rfl, hv, hR, hT, hz, hk2⟩
  have R := hide (And.intro hR (And.intro hT (And.intro hz hk2)))
  have hln := takeP_len n st
  have HP := hide (show (numP n st).1 = dec (takeP n st).1 from rfl)
  clear hR hT hz hk2 H
  generalize (takeP n st).1 = tk at *
  obtain ⟨a, cap, rfl, hc1, hc2, hsrc, hr⟩ := hv
  have HC := hide hsrc
  have HR := hide hr
  clear hsrc hr
  go_wp2_with fail
  go_loop [5, 7, 12] (fun x _ i => ∃ k : Nat, k ≤ tk.length ∧ i = .int .i64 k ∧ x = .int .i64 (decN tk k)) (fun _ _ i => tk.length - (intOf i).toNat)
  case atStart => exact ⟨0, Nat.zero_le _, rfl, rfl⟩
  case round =>
    obtain ⟨k, hk, rfl, rfl⟩ := hrel
    by_cases hlt : k < tk.length
    · obtain ⟨c, off, rfl, hcb, hcell⟩ : ∃ c off, a = some ⟨c, off, none⟩ ∧ c < b ∧ ∀ i, i < tk.length → w1.cell? ⟨c, off + i, none⟩ = some (.int .u8 (tk.getD i 0)) := by
        rcases unhide HC with h0 | h0
        · omega
        · exact h0
      have hs1 := hcell k hlt
      have hx := unhide HR k
      have hd := decN_lo tk (unhide HR) k
      have hp : (256 : Int) ^ k ≤ 16777216 := by rcases (show k = 0 ∨ k = 1 ∨ k = 2 ∨ k = 3 by omega) with rfl | rfl | rfl | rfl <;> decide
      have hd2 : decN tk k < 16777216 := by omega
      have hd1 := hd.1
      have HS : Hid (decN tk (k + 1) = decN tk k * 256 + tk.getD k 0) := rfl
      clear hcell hd hp
      generalize tk.getD k 0 = x at *
      generalize decN tk k = y at *
      have m1 : IntKind.i64.wrap (y * 256) = y * 256 := by simp only [IntKind.wrap, IntKind.bits, IntKind.signed]; simp; omega
      have m2 := or_byte y x hd1 hd2 hx.1 hx.2
      have hk0 : (0 : Int) ≤ (k : Int) := by omega
      have hk1 : (k : Int) < (tk.length : Int) := by omega
      go_wp2_with fail
      go_round
      case rel => exact ⟨k + 1, by omega, by go_num, by rw [unhide HS]⟩
      case measure => simp [intOf]; omega
    · obtain rfl : k = tk.length := by omega
      go_wp2_with fail
      go_ret
      exact ⟨ret_int (unhide HP).symm, (unhide R).1, (unhide R).2.1, (unhide R).2.2.1, (unhide R).2.2.2⟩
end Go.Proofs.YtfihhkhdigbmiaaGreatDoor
