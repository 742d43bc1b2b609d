/- The reader: bounds of what it reads, whether it is done, what else touches it not. -/
import Derived.Test.YtfihhkhdigbmiaaGreatDoorRd
import Derived.Test.YtfihhkhdigbmiaaGreatDoorBlk
namespace Go.Proofs.YtfihhkhdigbmiaaGreatDoor
open Go.ChangeShapes Go.WideShapes Go.ChangeAt Go.RowKit
set_option linter.unusedVariables false
set_option linter.unusedSimpArgs false

def rangeP : Option (List Int) → Prop
  | none => True
  | some rs => ∀ i, 0 ≤ rs.getD i 0 ∧ rs.getD i 0 ≤ 255
theorem Rd.range {w : World} {b : Nat} {st : Option (List Int)} (h : Rd w b st) : rangeP st := by
  cases st with
  | none => trivial
  | some rs => obtain ⟨⟨v, _, _, _, _, _, _, _, hr⟩, _⟩ := h; exact hr
theorem takeP_range {st : Option (List Int)} (h : rangeP st) (n : Nat) : (∀ i, 0 ≤ (takeP n st).1.getD i 0 ∧ (takeP n st).1.getD i 0 ≤ 255) ∧ rangeP (takeP n st).2 := by
  cases st with
  | none => exact ⟨fun i => by simp [takeP], trivial⟩
  | some rs =>
    by_cases hle : n ≤ rs.length
    · simp only [takeP, hle, if_true]; exact ⟨range_take n h, range_drop n h⟩
    · simp only [takeP, hle, if_false]; exact ⟨fun i => by simp, trivial⟩
theorem num1_range {st : Option (List Int)} (h : rangeP st) : 0 ≤ (numP 1 st).1 ∧ (numP 1 st).1 ≤ 255 := by
  have hl := takeP_len 1 st
  have hr := (takeP_range h 1).1
  show 0 ≤ dec (takeP 1 st).1 ∧ dec (takeP 1 st).1 ≤ 255
  have hd := decN_lo _ hr (takeP 1 st).1.length
  unfold dec
  rcases (show (takeP 1 st).1.length = 0 ∨ (takeP 1 st).1.length = 1 by omega) with e | e
  · rw [e] at hd ⊢; simp at hd; omega
  · rw [e] at hd ⊢; simp at hd; omega
theorem ret_str {a b : ByteArray} (h : a = b) : Ending.returned (.string a) = .returned (.string b) := by rw [h]
def textP (st : Option (List Int)) : List Int × Option (List Int) := takeP (numP 1 st).1.toNat (numP 1 st).2
theorem conv_zero {P : Program} (src dst e : TypeId) (hs : P.underlying src = some (.slice e)) (he : P.underlying e = some (.int .u8)) (hd : P.underlying dst = some .string) (a : Option Addr) (cap : Nat) (w : World) :
    (convert src dst (.slice a 0 cap)).run P w = .ok (.string (strOfNums [])) w := by
  cases a with
  | none => exact run_convert_bytes_nil w src e hs he 0 cap dst hd
  | some x =>
    have hl : (loadCells x 0).run P w = .ok (([] : List Int).map (Value.int .u8)).toArray w := run_loadCells_list (P := P) w x [] (fun j v hj => by simp at hj)
    rw [run_convert_bytes_string w src dst e _ 0 cap hs he hd, run_bytesToString w _ 0 cap [] hl]
    rfl
theorem conv_rd {P : Program} {w : World} {b : Nat} {v : Value} {l : List Int} (src dst e : TypeId)
    (hs : P.underlying src = some (.slice e)) (he : P.underlying e = some (.int .u8)) (hd : P.underlying dst = some .string)
    (h : RdV w b v l) : (convert src dst v).run P w = .ok (.string (strOfNums l)) w := by
  obtain ⟨a, cap, rfl, _, _, hc, _⟩ := h
  rcases hc with rfl | ⟨c, off, rfl, _, hcell⟩
  · have : l.length = 0 := by omega
    obtain rfl := List.eq_nil_of_length_eq_zero this
    exact conv_zero src dst e hs he hd a 0 w
  · exact run_convert_bytes_arg w src e hs he c off l.length cap l rfl hcell dst hd

def doneP : Option (List Int) → Bool
  | some [] => true
  | _ => false
set_option maxRecDepth 100000 in
set_option maxHeartbeats 1000000 in
theorem done_any (b : Nat) (st : Option (List Int)) (w : World) (h : Rd w b st) :
    Calls Tryz.prog 66 #[.pointer (some ⟨b, 0, none⟩)] w fun e w' => e = .returned (.bool (doneP st)) ∧ w' = w := by
  cases st with
  | none =>
    obtain ⟨c0, c1, _, _⟩ := h
    go_enter Tryz.func66, Tryz.ntmps66
    go_wp2_with fail
    go_ret
    exact ⟨rfl, rfl⟩
  | some rs =>
    obtain ⟨⟨v, c0, a, cap, rfl, hc1, hc2, _, _⟩, c1, _, _⟩ := h
    unfold maxLen at hc2
    cases rs with
    | nil =>
      simp only [List.length_nil] at c0
      go_enter Tryz.func66, Tryz.ntmps66
      go_wp2_with fail
      go_ret
      exact ⟨rfl, rfl⟩
    | cons x r =>
      have hx : (((x :: r).length : Int) == 0) = false := by simp; omega
      generalize (x :: r).length = n at *
      go_enter Tryz.func66, Tryz.ntmps66
      go_wp2_with fail
      go_ret
      exact ⟨rfl, rfl⟩

theorem Rd.alloc {w : World} {b : Nat} {st : Option (List Int)} (h : Rd w b st) (o : Obj) : Rd (w.alloc o) b st := h.kept (T := fun _ => False) ((Touch.refl _ _).alloc o) (fun _ _ h => h)
theorem Rd.other {w : World} {b C : Nat} {st : Option (List Int)} (h : Rd w b st) (j : Nat) (v : Value) (hne : b < C) : Rd (w.setCell ⟨C, j, none⟩ v) b st :=
  h.kept (T := fun k => k = C) ((Touch.refl _ _).setCell _ _ (fun _ => rfl)) (fun k hk e => by omega)

end Go.Proofs.YtfihhkhdigbmiaaGreatDoor
