/- impl.ReadHash, walked. -/
import Derived.Test.YtiiaehajcomfaaaDoorBase
import Derived.Deep.RegionHeld3
import Derived.Deep.QuietTactic
import Derived.BigQuiet
import Derived.WalkSpells
namespace Go.Proofs.YtiiaehajcomfaaaDoor.fnExactReadHash
open Go.ChangeShapes Go.WideShapes Go.ChangeAt Go.RowKit
open Go.ChangeMaps (open_string shut_string)
set_option linter.unusedVariables false

theorem info5 : (Tryd.prog.info? 5).map (fun i => (i.zero, i.size, i.bytes)) = some (some (.int .u8 0), 1, 1) := by kernel_rfl

def nib (c : Int) : Int := if 48 ≤ c ∧ c ≤ 57 then c - 48 else if 97 ≤ c ∧ c ≤ 102 then c - 87 else -1
theorem nib_lo (c : Int) : -1 ≤ nib c := by unfold nib; split <;> (try split) <;> omega
theorem nib_hi (c : Int) : nib c ≤ 15 := by unfold nib; split <;> (try split) <;> omega

theorem hexValue_any (c : Int) (w : World) (h0 : 0 ≤ c) (h1 : c ≤ 255) :
    Calls Tryd.prog 77 #[.int .u8 c] w fun e w' => e = .returned (.int .i64 (nib c)) ∧ w' = w := by
  go_enter Tryd.func77, Tryd.ntmps77
  go_wp2
  all_goals (go_ret; exact ⟨ret_int (by unfold nib; (repeat split) <;> omega), rfl⟩)

def readL (s : ByteArray) : Nat → List Int
  | 0 => []
  | k + 1 => readL s k ++ [16 * nib (bAt s (2 * k)) + nib (bAt s (2 * k + 1))]
theorem readL_len (s : ByteArray) (k : Nat) : (readL s k).length = k := by
  induction k with
  | zero => rfl
  | succ k ih => simp [readL, ih]
def goodTo (s : ByteArray) (k : Nat) : Prop := ∀ j, j < k → 0 ≤ nib (bAt s (2 * j)) ∧ 0 ≤ nib (bAt s (2 * j + 1))
theorem good_succ {s : ByteArray} {k : Nat} (h : goodTo s k) (c : 0 ≤ nib (bAt s (2 * k))) (d : 0 ≤ nib (bAt s (2 * k + 1))) : goodTo s (k + 1) := by
  intro j hj
  by_cases e : j = k
  · subst e; exact ⟨c, d⟩
  · exact h j (by omega)
def allB (s : ByteArray) : Bool := (List.range 32).all fun j => decide (0 ≤ nib (bAt s (2 * j))) && decide (0 ≤ nib (bAt s (2 * j + 1)))
theorem allB_yes {s : ByteArray} (h : goodTo s 32) : allB s = true := by
  unfold allB; rw [List.all_eq_true]
  intro j hj
  have := h j (by simpa using hj)
  simp [this.1, this.2]
theorem allB_no {s : ByteArray} {k : Nat} (hk : k < 32) (h : nib (bAt s (2 * k)) < 0 ∨ nib (bAt s (2 * k + 1)) < 0) : allB s = false := by
  unfold allB; rw [List.all_eq_false]
  refine ⟨k, by simpa using hk, ?_⟩
  simp; omega
def readV (s : ByteArray) : Value :=
  if 65536 < s.size then .tuple #[.string ⟨#[]⟩, .int .i64 2] else if s.size = 64 ∧ allB s = true then .tuple #[.string (strOfNums (readL s 32)), .int .i64 0] else .tuple #[.string ⟨#[]⟩, .int .i64 3]
theorem readV_long {s : ByteArray} (h : 65536 < s.size) : readV s = .tuple #[.string ⟨#[]⟩, .int .i64 2] := by unfold readV; rw [if_pos h]
theorem readV_yes {s : ByteArray} (h : s.size = 64) (h2 : allB s = true) : readV s = .tuple #[.string (strOfNums (readL s 32)), .int .i64 0] := by
  unfold readV; rw [if_neg (by omega), if_pos ⟨h, h2⟩]
theorem readV_no {s : ByteArray} (h : ¬ 65536 < s.size) (h2 : s.size ≠ 64) : readV s = .tuple #[.string ⟨#[]⟩, .int .i64 3] := by
  unfold readV; rw [if_neg h, if_neg (fun x => h2 x.1)]
theorem readV_bad {s : ByteArray} (h : s.size = 64) (h2 : allB s = false) : readV s = .tuple #[.string ⟨#[]⟩, .int .i64 3] := by
  unfold readV; rw [if_neg (by omega), if_neg (by simp [h2])]
theorem ret_eq {a b : Value} (h : a = b) : Ending.returned a = .returned b := by rw [h]

def got (s : ByteArray) (k j : Nat) : Int := if j < k then 16 * nib (bAt s (2 * j)) + nib (bAt s (2 * j + 1)) else 0

theorem got_old {s : ByteArray} {k j : Nat} (h : j ≠ k) : got s (k + 1) j = got s k j := by
  unfold got
  by_cases h1 : j < k
  · rw [if_pos h1, if_pos (by omega)]
  · rw [if_neg h1, if_neg (by omega)]
theorem read_got (s : ByteArray) (k j : Nat) (h : j < k) : (readL s k).getD j 0 = got s k j := by
  induction k with
  | zero => omega
  | succ k ih =>
    by_cases e : j = k
    · subst e
      have hl := readL_len s j
      unfold got
      rw [if_pos (by omega), readL, List.getD_eq_getElem?_getD, List.getElem?_append_right (by omega)]
      simp [hl]
    · rw [got_old e, ← ih (by omega)]
      have hl := readL_len s k
      rw [readL, List.getD_eq_getElem?_getD, List.getD_eq_getElem?_getD, List.getElem?_append_left (by omega)]
theorem or16F : ∀ a b : Fin 16, bits BinOp.or IntKind.i64 ((a.val : Int) * 16) (b.val : Int) % 256 = 16 * (a.val : Int) + (b.val : Int) := by decide +kernel
theorem or16 (a b : Int) (h1 : 0 ≤ a) (h2 : a < 16) (h3 : 0 ≤ b) (h4 : b < 16) : bits BinOp.or IntKind.i64 (a * 16) b % 256 = 16 * a + b := by
  have := or16F ⟨a.toNat, by omega⟩ ⟨b.toNat, by omega⟩
  simpa [Int.toNat_of_nonneg h1, Int.toNat_of_nonneg h3] using this
theorem below_drewN {B : Nat} {a w : World} (h : Below B a w) (n : Nat) : Below B a (w.drewN n) := h.trans ⟨rfl, rfl, rfl, Nat.le_refl _, fun _ _ => rfl⟩
theorem got_step {s : ByteArray} {k nq : Nat} (hk : k < 32) {x y : Int} {w wr : World} (hr : got s (k + 1) k = x)
    (hc : ∀ j, j < 32 → wr.cell? ⟨w.heap.size, j, none⟩ = some (.int .u8 (got s k j))) (hf : ∀ j, j < 32 → wr.frozen? ⟨w.heap.size, j, none⟩ = false) (hb : Below w.heap.size w wr) (hy : y = x) :
    (∀ j, j < 32 → ((wr.drewN nq).setCell ⟨w.heap.size, k, none⟩ (.int .u8 y)).cell? ⟨w.heap.size, j, none⟩ = some (.int .u8 (got s (k + 1) j))) ∧
    (∀ j, j < 32 → ((wr.drewN nq).setCell ⟨w.heap.size, k, none⟩ (.int .u8 y)).frozen? ⟨w.heap.size, j, none⟩ = false) ∧
    Below w.heap.size w ((wr.drewN nq).setCell ⟨w.heap.size, k, none⟩ (.int .u8 y)) := by
  refine ⟨fun j hj => ?_, fun j hj => ?_, (below_drewN hb nq).setCell (Nat.le_refl _) _⟩
  · by_cases e : j = k
    · subst e
      rw [hr, ← hy]
      exact World.cell?_setCell_same (wr.drewN nq) _ _ (hc j hj)
    · rw [got_old e, World.cell?_setCell_other (wr.drewN nq) _ _ _ (fun h => e (by simpa using (congrArg Addr.off h).symm))]
      exact hc j hj
  · rw [World.frozen?_setCell]; exact hf j hj
theorem zero_cells (w : World) (s : ByteArray) : ∀ j, j < 32 → (w.alloc (Obj.cells #[Value.int IntKind.u8 0, Value.int IntKind.u8 0, Value.int IntKind.u8 0, Value.int IntKind.u8 0, Value.int IntKind.u8 0, Value.int IntKind.u8 0, Value.int IntKind.u8 0, Value.int IntKind.u8 0, Value.int IntKind.u8 0, Value.int IntKind.u8 0, Value.int IntKind.u8 0, Value.int IntKind.u8 0, Value.int IntKind.u8 0, Value.int IntKind.u8 0, Value.int IntKind.u8 0, Value.int IntKind.u8 0, Value.int IntKind.u8 0, Value.int IntKind.u8 0, Value.int IntKind.u8 0, Value.int IntKind.u8 0, Value.int IntKind.u8 0, Value.int IntKind.u8 0, Value.int IntKind.u8 0, Value.int IntKind.u8 0, Value.int IntKind.u8 0, Value.int IntKind.u8 0, Value.int IntKind.u8 0, Value.int IntKind.u8 0, Value.int IntKind.u8 0, Value.int IntKind.u8 0, Value.int IntKind.u8 0, Value.int IntKind.u8 0] 111)).cell? ⟨w.heap.size, j, none⟩ = some (.int .u8 (got s 0 j)) := by
  intro j hj
  rw [World.cell?_alloc_at _ _ _ _ rfl, show got s 0 j = 0 from rfl]
  have : ∀ j : Fin 32, (#[Value.int IntKind.u8 0, Value.int IntKind.u8 0, Value.int IntKind.u8 0, Value.int IntKind.u8 0, Value.int IntKind.u8 0, Value.int IntKind.u8 0, Value.int IntKind.u8 0, Value.int IntKind.u8 0, Value.int IntKind.u8 0, Value.int IntKind.u8 0, Value.int IntKind.u8 0, Value.int IntKind.u8 0, Value.int IntKind.u8 0, Value.int IntKind.u8 0, Value.int IntKind.u8 0, Value.int IntKind.u8 0, Value.int IntKind.u8 0, Value.int IntKind.u8 0, Value.int IntKind.u8 0, Value.int IntKind.u8 0, Value.int IntKind.u8 0, Value.int IntKind.u8 0, Value.int IntKind.u8 0, Value.int IntKind.u8 0, Value.int IntKind.u8 0, Value.int IntKind.u8 0, Value.int IntKind.u8 0, Value.int IntKind.u8 0, Value.int IntKind.u8 0, Value.int IntKind.u8 0, Value.int IntKind.u8 0, Value.int IntKind.u8 0] : Array Value)[j.val]? = some (Value.int IntKind.u8 0) := by
    intro j
    rcases j with ⟨j, hj⟩
    simp only [List.getElem?_toArray]
    repeat (rcases j with _ | j; · rfl)
    omega
  exact this ⟨j, hj⟩
theorem zero_free (w : World) : ∀ j, j < 32 → (w.alloc (Obj.cells #[Value.int IntKind.u8 0, Value.int IntKind.u8 0, Value.int IntKind.u8 0, Value.int IntKind.u8 0, Value.int IntKind.u8 0, Value.int IntKind.u8 0, Value.int IntKind.u8 0, Value.int IntKind.u8 0, Value.int IntKind.u8 0, Value.int IntKind.u8 0, Value.int IntKind.u8 0, Value.int IntKind.u8 0, Value.int IntKind.u8 0, Value.int IntKind.u8 0, Value.int IntKind.u8 0, Value.int IntKind.u8 0, Value.int IntKind.u8 0, Value.int IntKind.u8 0, Value.int IntKind.u8 0, Value.int IntKind.u8 0, Value.int IntKind.u8 0, Value.int IntKind.u8 0, Value.int IntKind.u8 0, Value.int IntKind.u8 0, Value.int IntKind.u8 0, Value.int IntKind.u8 0, Value.int IntKind.u8 0, Value.int IntKind.u8 0, Value.int IntKind.u8 0, Value.int IntKind.u8 0, Value.int IntKind.u8 0, Value.int IntKind.u8 0] 111)).frozen? ⟨w.heap.size, j, none⟩ = false := by
  intro j hj
  simp
set_option maxRecDepth 100000 in
set_option maxHeartbeats 1000000 in
theorem implRead_any (s : ByteArray) (w : World) (hs : s.size ≤ maxLen) :
    Calls Tryd.prog 56 #[.string s] w fun e w' => e = .returned (readV s) ∧ Below w.heap.size w w' := by
  unfold maxLen at hs
  by_cases h1 : 65536 < s.size
  · have H := hide (readV_long h1)
    go_enter Tryd.func56, Tryd.ntmps56
    go_wp2_with fail
    go_ret2
    exact ⟨ret_eq (unhide H).symm, Below.refl _ _⟩
  · by_cases h2 : s.size = 64
    · have H2 := hide h2
      have h2' : ((s.size : Int) != 64) = false := by simp; omega
      have hle : s.size ≤ 64 := by omega
      have hge : 64 ≤ s.size := by omega
      clear h2 h1
      go_enter Tryd.func56, Tryd.ntmps56
      go_wp2_with fail
      go_loopw [5, 6, 7, 14] (fun _ _ _ i wr => ∃ k : Nat, k ≤ 32 ∧ i = .int .i64 k ∧ goodTo s k ∧ (∀ j, j < 32 → wr.cell? ⟨w.heap.size, j, none⟩ = some (.int .u8 (got s k j))) ∧ (∀ j, j < 32 → wr.frozen? ⟨w.heap.size, j, none⟩ = false) ∧ Below w.heap.size w wr)
        (fun _ _ _ i _ => 32 - (intOf i).toNat)
      case atStart =>
        refine ⟨0, Nat.zero_le _, rfl, fun j hj => by omega, ?_, ?_, (Below.refl _ _).alloc (Nat.le_refl _) _⟩
        · exact zero_cells w s
        · exact zero_free w
      case round =>
        obtain ⟨k, hk, rfl, hgood, hcell, hfro, hbel⟩ := hrel
        by_cases hlt : k < 32
        · have e1 := bAt_eq s (2 * k) (by omega)
          have e2 := bAt_eq s (2 * k + 1) (by omega)
          have hi1 : (0 : Int) ≤ 2 * (k : Int) := by omega
          have hi2 : 2 * (k : Int) < (s.size : Int) := by omega
          have hi3 : (0 : Int) ≤ 2 * (k : Int) + 1 := by omega
          have hi4 : 2 * (k : Int) + 1 < (s.size : Int) := by omega
          have HC := hide hcell
          have HF := hide hfro
          clear hcell hfro
          go_wp2_with fail
          go_quiet ((go_at_call 77; exact Calls.quiet_of_same (hexValue_any _ _ (bAt_lo _ _) (bAt_hi _ _))))
          clear e1 e2
          have HR : Hid (got s (k + 1) k = 16 * nib (bAt s (2 * k)) + nib (bAt s (2 * k + 1))) := by unfold Hid got; rw [if_pos (by omega)]
          have HG : Hid (0 ≤ nib (bAt s (2 * k)) → 0 ≤ nib (bAt s (2 * k + 1)) → goodTo s (k + 1)) := good_succ hgood
          have HN : Hid (nib (bAt s (2 * k)) < 0 ∨ nib (bAt s (2 * k + 1)) < 0 → allB s = false) := allB_no hlt
          have ha0 := nib_lo (bAt s (2 * k))
          have ha1 := nib_hi (bAt s (2 * k))
          have hb0 := nib_lo (bAt s (2 * k + 1))
          have hb1 := nib_hi (bAt s (2 * k + 1))
          generalize nib (bAt s (2 * k)) = a at *
          generalize nib (bAt s (2 * k + 1)) = b at *
          by_cases ha : a < 0
          · have H := hide (readV_bad (unhide H2) (unhide HN (.inl ha)))
            go_wp2_with fail
            go_ret2
            exact ⟨ret_eq (unhide H).symm, below_drewN hbel _⟩
          · by_cases hb : b < 0
            · have H := hide (readV_bad (unhide H2) (unhide HN (.inr hb)))
              go_wp2_with fail
              go_ret2
              exact ⟨ret_eq (unhide H).symm, below_drewN hbel _⟩
            · have ha' : 0 ≤ a := by omega
              have hb' : 0 ≤ b := by omega
              have hck := unhide HC k (by omega)
              have hfk := unhide HF k (by omega)
              have hk0 : (0 : Int) ≤ (k : Int) := by omega
              have hk1 : (k : Int) < 32 := by omega
              go_wp2_with fail
              have R := hide (got_step (nq := nq) hlt (unhide HR) (unhide HC) (unhide HF) hbel (or16 a b ha' (by omega) hb' (by omega)))
              clear hck hfk hbel
              refine ⟨⟨k + 1, by omega, by go_num, unhide HG ha' hb', (unhide R).1, (unhide R).2.1, (unhide R).2.2⟩, ?_⟩
              simp [intOf]; omega
        · obtain rfl : k = 32 := by omega
          have H := hide (readV_yes (unhide H2) (allB_yes hgood))
          have hc := run_convert_bytes_arg (P := Tryd.prog) wr 81 5 Tryd.underlying81 Tryd.underlying5 w.heap.size 0 32 32 (readL s 32) (readL_len s 32) (fun i hi => by rw [Nat.zero_add, hcell i hi, read_got s 32 i hi]) 9 Tryd.underlying9
          clear hcell hfro
          go_wp2_with fail
          go_ret2
          exact ⟨ret_eq (unhide H).symm, hbel⟩
    · have H := hide (readV_no h1 h2)
      have h2' : ((s.size : Int) != 64) = true := by simp; omega
      clear h2
      go_enter Tryd.func56, Tryd.ntmps56
      go_wp2_with fail
      go_ret2
      exact ⟨ret_eq (unhide H).symm, Below.refl _ _⟩
end Go.Proofs.YtiiaehajcomfaaaDoor.fnExactReadHash
