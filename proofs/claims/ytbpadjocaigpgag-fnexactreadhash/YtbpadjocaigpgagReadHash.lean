/- For every text that can be read, laws.FnExactReadHash returns true and the text reads as it did. No condition. -/
import Derived.Test.YtbpadjocaigpgagBase
import Derived.Deep.RegionHeld3
import Derived.Deep.QuietTactic
import Derived.BigQuiet
import Derived.WalkSpells
namespace Go.Proofs.Ytbpadjocaigpgag.fnExactReadHash
open Go.ChangeShapes Go.WideShapes Go.ChangeAt Go.RowKit
open Go.ChangeMaps (open_string shut_string)
set_option linter.unusedVariables false

theorem info5 : (Try.prog.info? 5).map (fun i => (i.zero, i.size, i.bytes)) = some (some (.int .u8 0), 1, 1) := by kernel_rfl

def nib (c : Int) : Int := if 48 ≤ c ∧ c ≤ 57 then c - 48 else if 97 ≤ c ∧ c ≤ 102 then c - 87 else -1
theorem nib_lo (c : Int) : -1 ≤ nib c := by unfold nib; split <;> (try split) <;> omega
theorem nib_hi (c : Int) : nib c ≤ 15 := by unfold nib; split <;> (try split) <;> omega

theorem l01Nibble_any (c : Int) (w : World) (h0 : 0 ≤ c) (h1 : c ≤ 255) :
    Calls Try.prog 17 #[.int .u8 c] w fun e w' => e = .returned (.int .i64 (nib c)) ∧ w' = w := by
  go_enter Try.func17, Try.ntmps17
  go_wp2
  all_goals (go_ret; exact ⟨ret_int (by unfold nib; (repeat split) <;> omega), rfl⟩)
theorem hexValue_any (c : Int) (w : World) (h0 : 0 ≤ c) (h1 : c ≤ 255) :
    Calls Try.prog 18 #[.int .u8 c] w fun e w' => e = .returned (.int .i64 (nib c)) ∧ w' = w := by
  go_enter Try.func18, Try.ntmps18
  go_wp2
  all_goals (go_ret; exact ⟨ret_int (by unfold nib; (repeat split) <;> omega), rfl⟩)

def readL (s : ByteArray) : Nat → List Int
  | 0 => []
  | k + 1 => readL s k ++ [16 * nib (bAt s (2 * k)) + nib (bAt s (2 * k + 1))]
theorem readL_len (s : ByteArray) (k : Nat) : (readL s k).length = k := by
  induction k with
  | zero => rfl
  | succ k ih => simp [readL, ih]
def goodTo (s : ByteArray) (k : Nat) : Prop := ∀ j, j < k → 0 ≤ nib (bAt s (2 * j)) ∧ 0 ≤ nib (bAt s (2 * j + 1))
theorem good_succ {s : ByteArray} {k : Nat} (h : goodTo s k) (c : 0 ≤ nib (bAt s (2 * k))) (d : 0 ≤ nib (bAt s (2 * k + 1))) : goodTo s (k + 1) := by
  intro j hj
  by_cases e : j = k
  · subst e; exact ⟨c, d⟩
  · exact h j (by omega)
def allB (s : ByteArray) : Bool := (List.range 32).all fun j => decide (0 ≤ nib (bAt s (2 * j))) && decide (0 ≤ nib (bAt s (2 * j + 1)))
theorem allB_yes {s : ByteArray} (h : goodTo s 32) : allB s = true := by
  unfold allB; rw [List.all_eq_true]
  intro j hj
  have := h j (by simpa using hj)
  simp [this.1, this.2]
theorem allB_no {s : ByteArray} {k : Nat} (hk : k < 32) (h : nib (bAt s (2 * k)) < 0 ∨ nib (bAt s (2 * k + 1)) < 0) : allB s = false := by
  unfold allB; rw [List.all_eq_false]
  refine ⟨k, by simpa using hk, ?_⟩
  simp; omega
def readV (s : ByteArray) : Value :=
  if 65536 < s.size then .tuple #[.string ⟨#[]⟩, .int .i64 2] else if s.size = 64 ∧ allB s = true then .tuple #[.string (strOfNums (readL s 32)), .int .i64 0] else .tuple #[.string ⟨#[]⟩, .int .i64 3]
theorem readV_long {s : ByteArray} (h : 65536 < s.size) : readV s = .tuple #[.string ⟨#[]⟩, .int .i64 2] := by unfold readV; rw [if_pos h]
theorem readV_yes {s : ByteArray} (h : s.size = 64) (h2 : allB s = true) : readV s = .tuple #[.string (strOfNums (readL s 32)), .int .i64 0] := by
  unfold readV; rw [if_neg (by omega), if_pos ⟨h, h2⟩]
theorem readV_no {s : ByteArray} (h : ¬ 65536 < s.size) (h2 : s.size ≠ 64) : readV s = .tuple #[.string ⟨#[]⟩, .int .i64 3] := by
  unfold readV; rw [if_neg h, if_neg (fun x => h2 x.1)]
theorem readV_bad {s : ByteArray} (h : s.size = 64) (h2 : allB s = false) : readV s = .tuple #[.string ⟨#[]⟩, .int .i64 3] := by
  unfold readV; rw [if_neg (by omega), if_neg (by simp [h2])]
theorem ret_eq {a b : Value} (h : a = b) : Ending.returned a = .returned b := by rw [h]

theorem read_zero (w : World) (s : ByteArray) : (w.alloc (Obj.cells #[] 5)).ownsRow w.heap.size 5 1 (Value.slice (some { block := w.heap.size, off := 0 }) 0 0) 0 (List.map (Value.int .u8) (readL s 0)) :=
  World.ownsRow_made w #[] 0 (Nat.le_refl _) (by unfold maxLen; omega) rfl

theorem read_step {s : ByteArray} {k : Nat} {x : Int} {w wr w1 : World} {o : Obj} {u v' : Value} (hr : readL s (k + 1) = readL s k ++ [x])
    (hown : wr.ownsRow w.heap.size 5 1 u k ((readL s k).map (Value.int .u8))) (hbel : Below w.heap.size w wr)
    (h1 : w1.ownsRow w.heap.size 5 1 v' (k + 1) ((readL s k).map (Value.int .u8) ++ [.int .u8 x]))
    (hg : (wr.alloc o).grownBy w1 u.ownBlock) :
    w1.ownsRow w.heap.size 5 1 v' (k + 1) ((readL s (k + 1)).map (Value.int .u8)) ∧ Below w.heap.size w w1 := by
  constructor
  · rw [hr]; simpa using h1
  · have hz := hbel.size
    refine (hbel.alloc (by omega) o).grown hg (by simp; omega) ?_
    intro r hr
    exact (hown.lt r hr).1
set_option maxRecDepth 100000 in
set_option maxHeartbeats 1000000 in
theorem specRead_any (s : ByteArray) (w : World) (hs : s.size ≤ maxLen) :
    Calls Try.prog 10 #[.string s] w fun e w' => e = .returned (readV s) ∧ Below w.heap.size w w' := by
  unfold maxLen at hs
  by_cases h1 : 65536 < s.size
  · have H := hide (readV_long h1)
    go_enter Try.func10, Try.ntmps10
    go_wp2_with fail
    go_ret2
    exact ⟨ret_eq (unhide H).symm, Below.refl _ _⟩
  · by_cases h2 : s.size = 64
    · have H2 := hide h2
      have h2' : ((s.size : Int) != 64) = false := by simp; omega
      have hle : s.size ≤ 64 := by omega
      have hge : 64 ≤ s.size := by omega
      clear h2 h1
      obtain ⟨i0, hi, hz0, hz1, hz2⟩ := info_parts info5
      go_enter Try.func10, Try.ntmps10
      go_wp2_with fail
      go_loopw [4, 5, 6, 7] (fun v i _ _ wr => ∃ k : Nat, k ≤ 32 ∧ i = .int .i64 (2 * k) ∧ goodTo s k ∧ wr.ownsRow w.heap.size 5 1 v k ((readL s k).map (Value.int .u8)) ∧ Below w.heap.size w wr)
        (fun _ i _ _ _ => 64 - (intOf i).toNat)
      case atStart => exact ⟨0, Nat.zero_le _, rfl, fun j hj => by omega, read_zero w s, (Below.refl _ _).alloc (Nat.le_refl _) _⟩
      case round =>
        obtain ⟨k, hk, rfl, hgood, hown, hbel⟩ := hrel
        by_cases hlt : k < 32
        · have e1 := bAt_eq s (2 * k) (by omega)
          have e2 := bAt_eq s (2 * k + 1) (by omega)
          go_wp2_with fail
          refine (l01Nibble_any _ _ (bAt_lo _ _) (bAt_hi _ _)).mono ?_
          rintro e w1 ⟨rfl, rfl⟩
          go_wp2_with fail
          refine (l01Nibble_any _ _ (bAt_lo _ _) (bAt_hi _ _)).mono ?_
          rintro e w2 ⟨rfl, rfl⟩
          clear e1 e2
          have HR : Hid (readL s (k + 1) = readL s k ++ [16 * nib (bAt s (2 * k)) + nib (bAt s (2 * k + 1))]) := rfl
          have HG : Hid (0 ≤ nib (bAt s (2 * k)) → 0 ≤ nib (bAt s (2 * k + 1)) → goodTo s (k + 1)) := good_succ hgood
          have HN : Hid (nib (bAt s (2 * k)) < 0 ∨ nib (bAt s (2 * k + 1)) < 0 → allB s = false) := allB_no hlt
          have ha0 := nib_lo (bAt s (2 * k))
          have ha1 := nib_hi (bAt s (2 * k))
          have hb0 := nib_lo (bAt s (2 * k + 1))
          have hb1 := nib_hi (bAt s (2 * k + 1))
          generalize nib (bAt s (2 * k)) = a at *
          generalize nib (bAt s (2 * k + 1)) = b at *
          by_cases ha : a < 0
          · have H := hide (readV_bad (unhide H2) (unhide HN (.inl ha)))
            go_wp2_with fail
            go_ret2
            exact ⟨ret_eq (unhide H).symm, hbel⟩
          · by_cases hb : b < 0
            · have H := hide (readV_bad (unhide H2) (unhide HN (.inr hb)))
              go_wp2_with fail
              go_ret2
              exact ⟨ret_eq (unhide H).symm, hbel⟩
            · have ha' : 0 ≤ a := by omega
              have hb' : 0 ≤ b := by omega
              go_wp2_with (at_builtin; refine wpList_append_own _ rfl _ _ 28 rfl w.heap.size 5 i0 (.int .u8 0) 1 1 Try.underlying28 hi hz0 hz1 hz2 rfl (by decide) _ _ _ rfl (hown.alloc _) ⟨w2.heap.size, 0, none⟩ 1 1 [_] rfl rfl (World.news_of_block (cs := #[_]) (t := 5) (fr := (0, 0)) (heap_alloc_new w2 _)) (by simp [Value.oneCell']) (by unfold maxLen; omega) (by omega) (by have := hbel.size; simp; omega) ?_; intro v' w3 hown1 hgrow hnil)
              have R := hide (read_step (x := 16 * a + b) (unhide HR) hown hbel hown1 hgrow)
              clear hown1 hgrow hown hbel hnil
              refine ⟨⟨k + 1, by omega, by go_num, unhide HG ha' hb', (unhide R).1, (unhide R).2⟩, ?_⟩
              simp [intOf]; omega
        · obtain rfl : k = 32 := by omega
          have H := hide (readV_yes (unhide H2) (allB_yes hgood))
          have hc := conv_own (P := Try.prog) 28 9 5 Try.underlying28 Try.underlying5 Try.underlying9 hown
          go_wp2_with fail
          go_ret2
          exact ⟨ret_eq (unhide H).symm, hbel⟩
    · have H := hide (readV_no h1 h2)
      have h2' : ((s.size : Int) != 64) = true := by simp; omega
      clear h2
      go_enter Try.func10, Try.ntmps10
      go_wp2_with fail
      go_ret2
      exact ⟨ret_eq (unhide H).symm, Below.refl _ _⟩

def got (s : ByteArray) (k j : Nat) : Int := if j < k then 16 * nib (bAt s (2 * j)) + nib (bAt s (2 * j + 1)) else 0

theorem got_old {s : ByteArray} {k j : Nat} (h : j ≠ k) : got s (k + 1) j = got s k j := by
  unfold got
  by_cases h1 : j < k
  · rw [if_pos h1, if_pos (by omega)]
  · rw [if_neg h1, if_neg (by omega)]
theorem read_got (s : ByteArray) (k j : Nat) (h : j < k) : (readL s k).getD j 0 = got s k j := by
  induction k with
  | zero => omega
  | succ k ih =>
    by_cases e : j = k
    · subst e
      have hl := readL_len s j
      unfold got
      rw [if_pos (by omega), readL, List.getD_eq_getElem?_getD, List.getElem?_append_right (by omega)]
      simp [hl]
    · rw [got_old e, ← ih (by omega)]
      have hl := readL_len s k
      rw [readL, List.getD_eq_getElem?_getD, List.getD_eq_getElem?_getD, List.getElem?_append_left (by omega)]
theorem or16F : ∀ a b : Fin 16, bits BinOp.or IntKind.i64 ((a.val : Int) * 16) (b.val : Int) % 256 = 16 * (a.val : Int) + (b.val : Int) := by decide +kernel
theorem or16 (a b : Int) (h1 : 0 ≤ a) (h2 : a < 16) (h3 : 0 ≤ b) (h4 : b < 16) : bits BinOp.or IntKind.i64 (a * 16) b % 256 = 16 * a + b := by
  have := or16F ⟨a.toNat, by omega⟩ ⟨b.toNat, by omega⟩
  simpa [Int.toNat_of_nonneg h1, Int.toNat_of_nonneg h3] using this
theorem below_drewN {B : Nat} {a w : World} (h : Below B a w) (n : Nat) : Below B a (w.drewN n) := h.trans ⟨rfl, rfl, rfl, Nat.le_refl _, fun _ _ => rfl⟩
theorem got_step {s : ByteArray} {k nq : Nat} (hk : k < 32) {x y : Int} {w wr : World} (hr : got s (k + 1) k = x)
    (hc : ∀ j, j < 32 → wr.cell? ⟨w.heap.size, j, none⟩ = some (.int .u8 (got s k j))) (hf : ∀ j, j < 32 → wr.frozen? ⟨w.heap.size, j, none⟩ = false) (hb : Below w.heap.size w wr) (hy : y = x) :
    (∀ j, j < 32 → ((wr.drewN nq).setCell ⟨w.heap.size, k, none⟩ (.int .u8 y)).cell? ⟨w.heap.size, j, none⟩ = some (.int .u8 (got s (k + 1) j))) ∧
    (∀ j, j < 32 → ((wr.drewN nq).setCell ⟨w.heap.size, k, none⟩ (.int .u8 y)).frozen? ⟨w.heap.size, j, none⟩ = false) ∧
    Below w.heap.size w ((wr.drewN nq).setCell ⟨w.heap.size, k, none⟩ (.int .u8 y)) := by
  refine ⟨fun j hj => ?_, fun j hj => ?_, (below_drewN hb nq).setCell (Nat.le_refl _) _⟩
  · by_cases e : j = k
    · subst e
      rw [hr, ← hy]
      exact World.cell?_setCell_same (wr.drewN nq) _ _ (hc j hj)
    · rw [got_old e, World.cell?_setCell_other (wr.drewN nq) _ _ _ (fun h => e (by simpa using (congrArg Addr.off h).symm))]
      exact hc j hj
  · rw [World.frozen?_setCell]; exact hf j hj
theorem zero_cells (w : World) (s : ByteArray) : ∀ j, j < 32 → (w.alloc (Obj.cells #[Value.int IntKind.u8 0, Value.int IntKind.u8 0, Value.int IntKind.u8 0, Value.int IntKind.u8 0, Value.int IntKind.u8 0, Value.int IntKind.u8 0, Value.int IntKind.u8 0, Value.int IntKind.u8 0, Value.int IntKind.u8 0, Value.int IntKind.u8 0, Value.int IntKind.u8 0, Value.int IntKind.u8 0, Value.int IntKind.u8 0, Value.int IntKind.u8 0, Value.int IntKind.u8 0, Value.int IntKind.u8 0, Value.int IntKind.u8 0, Value.int IntKind.u8 0, Value.int IntKind.u8 0, Value.int IntKind.u8 0, Value.int IntKind.u8 0, Value.int IntKind.u8 0, Value.int IntKind.u8 0, Value.int IntKind.u8 0, Value.int IntKind.u8 0, Value.int IntKind.u8 0, Value.int IntKind.u8 0, Value.int IntKind.u8 0, Value.int IntKind.u8 0, Value.int IntKind.u8 0, Value.int IntKind.u8 0, Value.int IntKind.u8 0] 31)).cell? ⟨w.heap.size, j, none⟩ = some (.int .u8 (got s 0 j)) := by
  intro j hj
  rw [World.cell?_alloc_at _ _ _ _ rfl, show got s 0 j = 0 from rfl]
  have : ∀ j : Fin 32, (#[Value.int IntKind.u8 0, Value.int IntKind.u8 0, Value.int IntKind.u8 0, Value.int IntKind.u8 0, Value.int IntKind.u8 0, Value.int IntKind.u8 0, Value.int IntKind.u8 0, Value.int IntKind.u8 0, Value.int IntKind.u8 0, Value.int IntKind.u8 0, Value.int IntKind.u8 0, Value.int IntKind.u8 0, Value.int IntKind.u8 0, Value.int IntKind.u8 0, Value.int IntKind.u8 0, Value.int IntKind.u8 0, Value.int IntKind.u8 0, Value.int IntKind.u8 0, Value.int IntKind.u8 0, Value.int IntKind.u8 0, Value.int IntKind.u8 0, Value.int IntKind.u8 0, Value.int IntKind.u8 0, Value.int IntKind.u8 0, Value.int IntKind.u8 0, Value.int IntKind.u8 0, Value.int IntKind.u8 0, Value.int IntKind.u8 0, Value.int IntKind.u8 0, Value.int IntKind.u8 0, Value.int IntKind.u8 0, Value.int IntKind.u8 0] : Array Value)[j.val]? = some (Value.int IntKind.u8 0) := by
    intro j
    rcases j with ⟨j, hj⟩
    simp only [List.getElem?_toArray]
    repeat (rcases j with _ | j; · rfl)
    omega
  exact this ⟨j, hj⟩
theorem zero_free (w : World) : ∀ j, j < 32 → (w.alloc (Obj.cells #[Value.int IntKind.u8 0, Value.int IntKind.u8 0, Value.int IntKind.u8 0, Value.int IntKind.u8 0, Value.int IntKind.u8 0, Value.int IntKind.u8 0, Value.int IntKind.u8 0, Value.int IntKind.u8 0, Value.int IntKind.u8 0, Value.int IntKind.u8 0, Value.int IntKind.u8 0, Value.int IntKind.u8 0, Value.int IntKind.u8 0, Value.int IntKind.u8 0, Value.int IntKind.u8 0, Value.int IntKind.u8 0, Value.int IntKind.u8 0, Value.int IntKind.u8 0, Value.int IntKind.u8 0, Value.int IntKind.u8 0, Value.int IntKind.u8 0, Value.int IntKind.u8 0, Value.int IntKind.u8 0, Value.int IntKind.u8 0, Value.int IntKind.u8 0, Value.int IntKind.u8 0, Value.int IntKind.u8 0, Value.int IntKind.u8 0, Value.int IntKind.u8 0, Value.int IntKind.u8 0, Value.int IntKind.u8 0, Value.int IntKind.u8 0] 31)).frozen? ⟨w.heap.size, j, none⟩ = false := by
  intro j hj
  simp
set_option maxRecDepth 100000 in
set_option maxHeartbeats 1000000 in
theorem implRead_any (s : ByteArray) (w : World) (hs : s.size ≤ maxLen) :
    Calls Try.prog 11 #[.string s] w fun e w' => e = .returned (readV s) ∧ Below w.heap.size w w' := by
  unfold maxLen at hs
  by_cases h1 : 65536 < s.size
  · have H := hide (readV_long h1)
    go_enter Try.func11, Try.ntmps11
    go_wp2_with fail
    go_ret2
    exact ⟨ret_eq (unhide H).symm, Below.refl _ _⟩
  · by_cases h2 : s.size = 64
    · have H2 := hide h2
      have h2' : ((s.size : Int) != 64) = false := by simp; omega
      have hle : s.size ≤ 64 := by omega
      have hge : 64 ≤ s.size := by omega
      clear h2 h1
      go_enter Try.func11, Try.ntmps11
      go_wp2_with fail
      go_loopw [5, 6, 7, 14] (fun _ _ _ i wr => ∃ k : Nat, k ≤ 32 ∧ i = .int .i64 k ∧ goodTo s k ∧ (∀ j, j < 32 → wr.cell? ⟨w.heap.size, j, none⟩ = some (.int .u8 (got s k j))) ∧ (∀ j, j < 32 → wr.frozen? ⟨w.heap.size, j, none⟩ = false) ∧ Below w.heap.size w wr)
        (fun _ _ _ i _ => 32 - (intOf i).toNat)
      case atStart =>
        refine ⟨0, Nat.zero_le _, rfl, fun j hj => by omega, ?_, ?_, (Below.refl _ _).alloc (Nat.le_refl _) _⟩
        · exact zero_cells w s
        · exact zero_free w
      case round =>
        obtain ⟨k, hk, rfl, hgood, hcell, hfro, hbel⟩ := hrel
        by_cases hlt : k < 32
        · have e1 := bAt_eq s (2 * k) (by omega)
          have e2 := bAt_eq s (2 * k + 1) (by omega)
          have hi1 : (0 : Int) ≤ 2 * (k : Int) := by omega
          have hi2 : 2 * (k : Int) < (s.size : Int) := by omega
          have hi3 : (0 : Int) ≤ 2 * (k : Int) + 1 := by omega
          have hi4 : 2 * (k : Int) + 1 < (s.size : Int) := by omega
          have HC := hide hcell
          have HF := hide hfro
          clear hcell hfro
          go_wp2_with fail
          go_quiet ((go_at_call 18; exact Calls.quiet_of_same (hexValue_any _ _ (bAt_lo _ _) (bAt_hi _ _))))
          clear e1 e2
          have HR : Hid (got s (k + 1) k = 16 * nib (bAt s (2 * k)) + nib (bAt s (2 * k + 1))) := by unfold Hid got; rw [if_pos (by omega)]
          have HG : Hid (0 ≤ nib (bAt s (2 * k)) → 0 ≤ nib (bAt s (2 * k + 1)) → goodTo s (k + 1)) := good_succ hgood
          have HN : Hid (nib (bAt s (2 * k)) < 0 ∨ nib (bAt s (2 * k + 1)) < 0 → allB s = false) := allB_no hlt
          have ha0 := nib_lo (bAt s (2 * k))
          have ha1 := nib_hi (bAt s (2 * k))
          have hb0 := nib_lo (bAt s (2 * k + 1))
          have hb1 := nib_hi (bAt s (2 * k + 1))
          generalize nib (bAt s (2 * k)) = a at *
          generalize nib (bAt s (2 * k + 1)) = b at *
          by_cases ha : a < 0
          · have H := hide (readV_bad (unhide H2) (unhide HN (.inl ha)))
            go_wp2_with fail
            go_ret2
            exact ⟨ret_eq (unhide H).symm, below_drewN hbel _⟩
          · by_cases hb : b < 0
            · have H := hide (readV_bad (unhide H2) (unhide HN (.inr hb)))
              go_wp2_with fail
              go_ret2
              exact ⟨ret_eq (unhide H).symm, below_drewN hbel _⟩
            · have ha' : 0 ≤ a := by omega
              have hb' : 0 ≤ b := by omega
              have hck := unhide HC k (by omega)
              have hfk := unhide HF k (by omega)
              have hk0 : (0 : Int) ≤ (k : Int) := by omega
              have hk1 : (k : Int) < 32 := by omega
              go_wp2_with fail
              have R := hide (got_step (nq := nq) hlt (unhide HR) (unhide HC) (unhide HF) hbel (or16 a b ha' (by omega) hb' (by omega)))
              clear hck hfk hbel
              refine ⟨⟨k + 1, by omega, by go_num, unhide HG ha' hb', (unhide R).1, (unhide R).2.1, (unhide R).2.2⟩, ?_⟩
              simp [intOf]; omega
        · obtain rfl : k = 32 := by omega
          have H := hide (readV_yes (unhide H2) (allB_yes hgood))
          have hc := run_convert_bytes_arg (P := Try.prog) wr 28 5 Try.underlying28 Try.underlying5 w.heap.size 0 32 32 (readL s 32) (readL_len s 32) (fun i hi => by rw [Nat.zero_add, hcell i hi, read_got s 32 i hi]) 9 Try.underlying9
          clear hcell hfro
          go_wp2_with fail
          go_ret2
          exact ⟨ret_eq (unhide H).symm, hbel⟩
    · have H := hide (readV_no h1 h2)
      have h2' : ((s.size : Int) != 64) = true := by simp; omega
      clear h2
      go_enter Try.func11, Try.ntmps11
      go_wp2_with fail
      go_ret2
      exact ⟨ret_eq (unhide H).symm, Below.refl _ _⟩
theorem own : ownKnob Try.prog.godebug = none := by kernel_rfl


theorem readV_form (s : ByteArray) : ∃ x c, readV s = .tuple #[.string x, .int .i64 c] := by
  unfold readV; split
  · exact ⟨_, _, rfl⟩
  · split <;> exact ⟨_, _, rfl⟩
set_option maxHeartbeats 400000 in
theorem walk (a0 : ByteArray) (w0 : a0.size ≤ maxLen) (w : World) :
    Calls Try.prog 5 #[.string a0] w fun e w' => e = .returned (.bool true) ∧ Below w.heap.size w w' := by
  have hb : a0.size ≤ 9223372036854775807 := by unfold maxLen at w0; omega
  by_cases h : a0.size ≤ 1048576
  · obtain ⟨x, c, hx⟩ := readV_form a0
    have H := hide hx
    clear hx
    go_enter Try.func5, Try.ntmps5
    go_wp2_with fail
    refine (specRead_any a0 _ w0).mono ?_
    rintro e w1 ⟨rfl, hb1⟩
    rw [unhide H]
    go_wp2_with fail
    refine (implRead_any a0 _ w0).mono ?_
    rintro e w2 ⟨rfl, hb2⟩
    rw [unhide H]
    go_wp2_with fail
    go_ret
    exact ⟨rfl, hb1.trans (hb2.mono hb1.size)⟩
  · go_enter Try.func5, Try.ntmps5
    go_wp2_with fail
    go_ret
    exact ⟨rfl, Below.refl _ _⟩

set_option maxRecDepth 100000 in
theorem lifted (os : Os) (started : os.Started) (H : Type) (enc : TypeId × Value → H) :
    ReturnsInHanded {} Try.checked os 5 .any (Rows.fnExactReadHashSpec.pre6 enc Try.prog Try.f5 Rows.fnExactReadHashRow.domain false) (Rows.fnExactReadHashSpec.post enc Try.prog Try.f5 false true false false) := by
  refine returnsInHanded_of_change (C := Try.checked) own started (by kernel_rfl) Try.func5
    (ChangeSpec.witness6 (enc := enc) (C := Try.checked) false ⟨#[], #[.string ByteArray.empty], []⟩ 8 (by kernel_rfl) (by kernel_rfl) (by kernel_rfl) (by kernel_rfl)) ?_
  intro W base args ds gs before hval0 hW hcnd _
  have hval : ∀ (j : Nat) t v, Try.f5.params[j]? = some t → args[j]? = some v → Value.okWide Try.prog W .any base t v := hval0
  have hW' := hW
  obtain ⟨p, q, hA0, hV, rfl, hfz, hnd⟩ := hW
  have hA : DataW.TrodAll enc Try.prog W 0 (fun _ => true) true Try.f5.params.toList args.toList ds p := hA0
  rw [Try.params5] at hA hval
  obtain ⟨v0, vs0, d0, ds0, p0, q0, hargs, rfl, rfl, h0, r0⟩ := trodAll_cons hA
  obtain ⟨rfl, rfl, rfl⟩ := trodAll_nil r0
  obtain rfl : args = #[v0] := by cases args; simp_all
  obtain ⟨rfl, rfl⟩ := trodVars_none hV
  obtain ⟨a0, rfl, rfl, rfl, w0⟩ := open_string Try.underlying9 (hval 0 9 v0 rfl rfl) h0
  clear hA0 hval0
  simp only [List.append_nil] at hW'
  refine (walk a0 w0 W).mono fun e W' ⟨he, bel⟩ => ?_
  subst he
  exact ⟨_, rfl, _, _, _, [], _, [], hW', trodAll_mk1 (shut_bool Try.underlying4 _), (trodAll_cons_mk (shut_string Try.underlying9 w0) trodAll_mk0), rfl, bel.frame _, fun h => by cases h⟩

theorem over : Rows.fnExactReadHashRow.holds Try.pinned (OpenSpec.ofChange Rows.fnExactReadHashSpec) :=
  OpenClaim.holds_of_wide 5 Try.f5 rfl rfl rfl rfl rfl rfl rfl ⟨rfl, rfl, rfl, rfl, rfl⟩ rfl rfl rfl rfl rfl (by kernel_rfl) Try.func5 (by kernel_rfl)
    (of_decide_eq_true (by kernel_rfl)) (by unfold Func.isWrapper; first | (rw [if_pos (by decide +kernel)]; kernel_rfl) | (rw [if_neg (by decide +kernel)]; exact ⟨rfl, rfl⟩))
    (fun os started H enc _ => lifted os started H enc)

end Go.Proofs.Ytbpadjocaigpgag.fnExactReadHash
namespace Go.Proofs.Ytbpadjocaigpgag
theorem fnExactReadHash_holds : Rows.FnExactReadHashSaid := fnExactReadHash.over
#print axioms fnExactReadHash_holds
end Go.Proofs.Ytbpadjocaigpgag
