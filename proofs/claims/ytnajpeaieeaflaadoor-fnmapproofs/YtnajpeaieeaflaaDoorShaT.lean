/- hashWords.text: the thirty-two bytes of a state. -/
import Derived.Test.YtnajpeaieeaflaaDoorShaM
namespace Go.Proofs.YtnajpeaieeaflaaDoor.Sha
open Go.ChangeShapes Go.WideShapes Go.ChangeAt Go.RowKit
set_option linter.unusedVariables false

/-- The first n cells of block b hold the bytes f, and may be written. -/
def Row8 (w : World) (b n : Nat) (f : Nat → Int) : Prop := ∀ j, j < n → w.cell? ⟨b, j, none⟩ = some (.int .u8 (f j)) ∧ w.frozen? ⟨b, j, none⟩ = false
theorem Row8.congr {w : World} {b n : Nat} {f g : Nat → Int} (h : Row8 w b n f) (e : ∀ j, j < n → f j = g j) : Row8 w b n g := fun j hj => by rw [← e j hj]; exact h j hj
theorem Row8.set {w : World} {b n : Nat} {f : Nat → Int} (h : Row8 w b n f) (k : Nat) (x : Int) : Row8 (w.setCell ⟨b, k, none⟩ (.int .u8 x)) b n (fun j => if j = k then x else f j) := by
  intro j hj
  refine ⟨?_, by rw [World.frozen?_setCell]; exact (h j hj).2⟩
  by_cases e : j = k
  · subst e; dsimp only; rw [if_pos rfl]; exact World.cell?_setCell_same w _ _ (h j hj).1
  · dsimp only; rw [if_neg e, World.cell?_setCell_other w _ _ _ (fun h => e (by simpa using (congrArg Addr.off h).symm))]
    exact (h j hj).1
theorem Row8.below {w w' : World} {b n B : Nat} {f : Nat → Int} (h : Row8 w b n f) (hb : Below B w w') (hB : b < B) : Row8 w' b n f := fun j hj => by
  rw [hb.cell (p := ⟨b, j, none⟩) hB, hb.frozen (p := ⟨b, j, none⟩) hB]; exact h j hj
def upTo8 (k : Nat) (f : Nat → Int) (j : Nat) : Int := if j < k then f j else 0
theorem upTo8_step (k : Nat) (f : Nat → Int) (j : Nat) : (if j = k then f k else upTo8 k f j) = upTo8 (k + 1) f j := by
  unfold upTo8
  by_cases e : j = k
  · subst e; rw [if_pos rfl, if_pos (by omega)]
  · rw [if_neg e]
    by_cases h : j < k
    · rw [if_pos h, if_pos (by omega)]
    · rw [if_neg h, if_neg (by omega)]
theorem upTo8_in {k j : Nat} (f : Nat → Int) (h : j < k) : upTo8 k f j = f j := by unfold upTo8; rw [if_pos h]
theorem row8_box (w : World) (n : Nat) (f : Nat → Int) (t : TypeId) (b : Nat) (hb : b = w.heap.size) : Row8 (w.alloc (.cells ((List.range n).map fun j => Value.int .u8 (f j)).toArray t)) b n f := by
  subst hb
  intro j hj
  refine ⟨?_, by simp⟩
  rw [World.cell?_alloc_at _ _ _ _ rfl]
  simp [hj]
theorem zero32 (w : World) (t : TypeId) (b : Nat) (hb : b = w.heap.size) : Row8 (w.alloc (Obj.cells #[Value.int IntKind.u8 0, Value.int IntKind.u8 0, Value.int IntKind.u8 0, Value.int IntKind.u8 0, Value.int IntKind.u8 0, Value.int IntKind.u8 0, Value.int IntKind.u8 0, Value.int IntKind.u8 0, Value.int IntKind.u8 0, Value.int IntKind.u8 0, Value.int IntKind.u8 0, Value.int IntKind.u8 0, Value.int IntKind.u8 0, Value.int IntKind.u8 0, Value.int IntKind.u8 0, Value.int IntKind.u8 0, Value.int IntKind.u8 0, Value.int IntKind.u8 0, Value.int IntKind.u8 0, Value.int IntKind.u8 0, Value.int IntKind.u8 0, Value.int IntKind.u8 0, Value.int IntKind.u8 0, Value.int IntKind.u8 0, Value.int IntKind.u8 0, Value.int IntKind.u8 0, Value.int IntKind.u8 0, Value.int IntKind.u8 0, Value.int IntKind.u8 0, Value.int IntKind.u8 0, Value.int IntKind.u8 0, Value.int IntKind.u8 0] t)) b 32 (fun _ => 0) :=
  row8_box w 32 (fun _ => 0) t b hb

def byteOf (s : Nat → Nat) (i : Nat) : Int := ((s (i / 4) : Nat) : Int) / 2 ^ (24 - 8 * (i % 4)) % 256
def textL (s : Nat → Nat) : List Int := (List.range 32).map (byteOf s)
theorem textL_len (s : Nat → Nat) : (textL s).length = 32 := by simp [textL]
theorem textL_get (s : Nat → Nat) {i : Nat} (h : i < 32) : (textL s).getD i 0 = byteOf s i := by simp [textL, h]

set_option maxRecDepth 100000 in
set_option maxHeartbeats 1000000 in
theorem text_any (s : Nat → Nat) (w : World) (hs : ∀ j, s j < 4294967296) :
    Calls Tryd.prog 57 #[.agg (cells32 8 s).toArray] w fun e w' => e = .returned (.string (strOfNums (textL s))) ∧ Below w.heap.size w w' := by
  have HS := hide hs
  clear hs
  go_enter Tryd.func57, Tryd.ntmps57
  go_wp2_with fail
  go_loopw [4, 5] (fun _ i wr => ∃ k : Nat, k ≤ 32 ∧ i = .int .i64 k ∧ Row8 wr (w.heap.size + 1) 32 (upTo8 k (byteOf s)) ∧ Row32 wr w.heap.size 8 s ∧ Below w.heap.size w wr)
    (fun _ i _ => 32 - (intOf i).toNat)
  case atStart =>
    refine ⟨0, Nat.zero_le _, rfl, (zero32 _ _ _ (by simp)).congr (fun j _ => rfl), (row_box w 8 s _ _ rfl).alloc (by simp) _ _, ((Below.refl _ _).alloc (Nat.le_refl _) _).alloc (by simp) _⟩
  case round =>
    obtain ⟨k, hk, rfl, hX, hA, hbel⟩ := hrel
    by_cases hlt : k < 32
    · have x1 := (hA (k / 4) (by omega)).1
      have x2 := (hX k hlt).1
      have z2 := (hX k hlt).2
      have hsl := unhide HS (k / 4)
      have hX' := hide hX
      have hA' := hide hA
      have hb' := hide hbel
      have hk0 : (0 : Int) ≤ (k : Int) := by omega
      have hk1 : (k : Int) < 32 := by omega
      have hk2 : (0 : Int) ≤ (k : Int) / 4 := by omega
      have hk3 : (k : Int) / 4 < 8 := by omega
      clear hX hA hbel
      go_wp2_with fail
      have hst : Row8 _ _ 32 (upTo8 (k + 1) (byteOf s)) := ((unhide hX').set k (byteOf s k)).congr fun j _ => upTo8_step k _ j
      refine ⟨⟨k + 1, by omega, by go_num, hst, (unhide hA').other (a := ⟨w.heap.size + 1, k, none⟩) (by simp) _, (unhide hb').setCell (by simp) _⟩, ?_⟩
      simp [intOf]; omega
    · obtain rfl : k = 32 := by omega
      have hc := run_convert_bytes_arg (P := Tryd.prog) wr 22 5 Tryd.underlying22 Tryd.underlying5 (w.heap.size + 1) 0 32 32 (textL s) (textL_len s) (fun i hi => by rw [Nat.zero_add, (hX i hi).1, upTo8_in _ hi, textL_get s hi]) 9 Tryd.underlying9
      have hb' := hide hbel
      clear hX hA hbel
      go_wp2_with fail
      go_ret
      exact ⟨rfl, unhide hb'⟩
end Go.Proofs.YtnajpeaieeaflaaDoor.Sha
