/- The reader of bytes in a block of its own: take, number, text, done. -/
import Derived.Test.YtfihhkhdigbmiaaGreatDoorWr
import Derived.WalkSpells
namespace Go.Proofs.YtfihhkhdigbmiaaGreatDoor
open Go.ChangeShapes Go.WideShapes Go.ChangeAt Go.RowKit
set_option linter.unusedVariables false

/-- The value is a slice over a block below b that holds the bytes rs. -/
def RdV (w : World) (b : Nat) (v : Value) (rs : List Int) : Prop :=
  ∃ a cap, v = .slice a rs.length cap ∧ rs.length ≤ cap ∧ cap ≤ maxLen ∧ (cap = 0 ∨ ∃ c off, a = some ⟨c, off, none⟩ ∧ c < b ∧ ∀ i, i < rs.length → w.cell? ⟨c, off + i, none⟩ = some (.int .u8 (rs.getD i 0))) ∧ ∀ i, 0 ≤ rs.getD i 0 ∧ rs.getD i 0 ≤ 255
theorem RdV.kept {T : Nat → Prop} {w w' : World} {b : Nat} {v : Value} {rs : List Int} (h : RdV w b v rs) (hb : b ≤ w.heap.size) (ht : Touch T w w') (hn : ∀ k, k < b → ¬ T k) : RdV w' b v rs := by
  obtain ⟨a, cap, hv, h1, h2, hc, hr⟩ := h
  refine ⟨a, cap, hv, h1, h2, ?_, hr⟩
  rcases hc with h0 | ⟨c, off, ha, hlt, hcell⟩
  · exact .inl h0
  · exact .inr ⟨c, off, ha, hlt, fun i hi => (ht.cell (p := ⟨c, off + i, none⟩) (Nat.lt_of_lt_of_le hlt hb) (hn c hlt)).trans (hcell i hi)⟩
theorem RdV.nil (w : World) (b : Nat) : RdV w b (.slice none 0 0) [] := ⟨none, 0, rfl, Nat.le_refl _, by unfold maxLen; omega, .inl rfl, fun i => by simp⟩
theorem RdV.zero (w : World) (b : Nat) (a : Option Addr) : RdV w b (.slice a 0 0) [] := ⟨a, 0, rfl, Nat.le_refl _, by unfold maxLen; omega, .inl rfl, fun i => by simp⟩

/-- The reader in block b: what is left, or nothing any more (it is short). -/
def Rd (w : World) (b : Nat) : Option (List Int) → Prop
  | none => w.cell? ⟨b, 0, none⟩ = some (.slice none 0 0) ∧ w.cell? ⟨b, 1, none⟩ = some (.bool true) ∧ (∀ j, w.frozen? ⟨b, j, none⟩ = false) ∧ b < w.heap.size
  | some rs => (∃ v, w.cell? ⟨b, 0, none⟩ = some v ∧ RdV w b v rs) ∧ w.cell? ⟨b, 1, none⟩ = some (.bool false) ∧ (∀ j, w.frozen? ⟨b, j, none⟩ = false) ∧ b < w.heap.size
theorem Rd.lt {w : World} {b : Nat} {st : Option (List Int)} (h : Rd w b st) : b < w.heap.size := by
  cases st with
  | none => exact h.2.2.2
  | some rs => exact h.2.2.2
theorem Rd.kept {T : Nat → Prop} {w w' : World} {b : Nat} {st : Option (List Int)} (h : Rd w b st) (ht : Touch T w w') (hn : ∀ k, k ≤ b → ¬ T k) : Rd w' b st := by
  have hlt := h.lt
  have hnb : ¬ T b := hn b (Nat.le_refl _)
  cases st with
  | none =>
    obtain ⟨h0, h1, hf, _⟩ := h
    exact ⟨(ht.cell hlt hnb).trans h0, (ht.cell hlt hnb).trans h1, fun j => (ht.frozen hlt hnb).trans (hf j), Nat.lt_of_lt_of_le hlt ht.size⟩
  | some rs =>
    obtain ⟨⟨v, h0, hv⟩, h1, hf, _⟩ := h
    exact ⟨⟨v, (ht.cell hlt hnb).trans h0, hv.kept (Nat.le_of_lt hlt) ht (fun k hk => hn k (Nat.le_of_lt hk))⟩, (ht.cell hlt hnb).trans h1, fun j => (ht.frozen hlt hnb).trans (hf j), Nat.lt_of_lt_of_le hlt ht.size⟩
def takeP (n : Nat) : Option (List Int) → List Int × Option (List Int)
  | none => ([], none)
  | some rs => if n ≤ rs.length then (rs.take n, some (rs.drop n)) else ([], none)
theorem set_touch (w : World) (b j : Nat) (v : Value) : Touch (fun k => k = b) w (w.setCell ⟨b, j, none⟩ v) := (Touch.refl _ _).setCell _ _ (fun _ => rfl)
theorem getD_take {l : List Int} {n i : Nat} (h : i < n) : (l.take n).getD i 0 = l.getD i 0 := by simp [List.getD_eq_getElem?_getD, h]
theorem getD_drop {l : List Int} {n i : Nat} : (l.drop n).getD i 0 = l.getD (n + i) 0 := by simp [List.getD_eq_getElem?_getD]
theorem range_take {l : List Int} (n : Nat) (h : ∀ i, 0 ≤ l.getD i 0 ∧ l.getD i 0 ≤ 255) : ∀ i, 0 ≤ (l.take n).getD i 0 ∧ (l.take n).getD i 0 ≤ 255 := fun i => by
  by_cases hi : i < n
  · rw [getD_take hi]; exact h i
  · rw [List.getD_eq_getElem?_getD, List.getElem?_eq_none (by rw [List.length_take]; omega)]; simp
theorem range_drop {l : List Int} (n : Nat) (h : ∀ i, 0 ≤ l.getD i 0 ∧ l.getD i 0 ≤ 255) : ∀ i, 0 ≤ (l.drop n).getD i 0 ∧ (l.drop n).getD i 0 ≤ 255 := fun i => by
  rw [getD_drop]; exact h _

theorem take_fits {w : World} {b n c off cap : Nat} {rs : List Int} {v v2 : Value} (c0 : w.cell? ⟨b, 0, none⟩ = some v) (c1 : w.cell? ⟨b, 1, none⟩ = some (.bool false)) (hf : ∀ j, w.frozen? ⟨b, j, none⟩ = false) (hb : b < w.heap.size)
    (h1 : rs.length ≤ cap) (h2 : cap ≤ maxLen) (hlt : c < b) (hcell : ∀ i, i < rs.length → w.cell? ⟨c, off + i, none⟩ = some (.int .u8 (rs.getD i 0))) (hr : ∀ i, 0 ≤ rs.getD i 0 ∧ rs.getD i 0 ≤ 255) (hle : n ≤ rs.length)
    (hv : v2 = .slice (some ⟨c, off + n, none⟩) (rs.length - n) (cap - n) ∨ (v2 = .slice (some ⟨c, off, none⟩) (rs.length - n) 0 ∧ cap = n)) :
    RdV (w.setCell ⟨b, 0, none⟩ v2) b (.slice (some ⟨c, off, none⟩) n cap) (rs.take n) ∧ Rd (w.setCell ⟨b, 0, none⟩ v2) b (some (rs.drop n)) := by
  have hl1 : (rs.take n).length = n := by rw [List.length_take]; omega
  have hl2 : (rs.drop n).length = rs.length - n := List.length_drop ..
  have ht := set_touch w b 0 v2
  have hother : ∀ i, i < rs.length → (w.setCell ⟨b, 0, none⟩ v2).cell? ⟨c, off + i, none⟩ = some (.int .u8 (rs.getD i 0)) := fun i hi =>
    (ht.cell (p := ⟨c, off + i, none⟩) (by show c < _; omega) (by show ¬ c = b; omega)).trans (hcell i hi)
  refine ⟨⟨some ⟨c, off, none⟩, cap, by rw [hl1], by omega, h2, .inr ⟨c, off, rfl, hlt, fun i hi => ?_⟩, range_take n hr⟩, ⟨v2, World.cell?_setCell_same _ _ _ c0, ?_⟩, ?_, fun j => by rw [World.frozen?_setCell]; exact hf j, by simpa using hb⟩
  · rw [hl1] at hi
    rw [hother i (by omega), getD_take hi]
  · rcases hv with rfl | ⟨rfl, rfl⟩
    · refine ⟨_, _, by rw [hl2], by omega, by omega, .inr ⟨c, off + n, rfl, hlt, fun i hi => ?_⟩, range_drop n hr⟩
      rw [Nat.add_assoc, hother (n + i) (by omega), getD_drop]
    · refine ⟨_, _, by rw [hl2], by omega, by omega, .inr ⟨c, off, rfl, hlt, fun i hi => by omega⟩, range_drop cap hr⟩
  · rw [World.cell?_setCell_other _ _ _ _ (by simp)]; exact c1
theorem take_short {w : World} {b : Nat} {v : Value} {sh : Bool} (c0 : w.cell? ⟨b, 0, none⟩ = some v) (c1 : w.cell? ⟨b, 1, none⟩ = some (.bool sh)) (hf : ∀ j, w.frozen? ⟨b, j, none⟩ = false) (hb : b < w.heap.size) :
    Rd ((w.setCell ⟨b, 0, none⟩ (.slice none 0 0)).setCell ⟨b, 1, none⟩ (.bool true)) b none ∧ Touch (fun k => k = b) w ((w.setCell ⟨b, 0, none⟩ (.slice none 0 0)).setCell ⟨b, 1, none⟩ (.bool true)) := by
  have d1 : (w.setCell ⟨b, 0, none⟩ (.slice none 0 0)).cell? ⟨b, 1, none⟩ = some (.bool sh) := by rw [World.cell?_setCell_other _ _ _ _ (by simp)]; exact c1
  refine ⟨⟨?_, World.cell?_setCell_same _ _ _ d1, fun j => by simpa using hf j, by simpa using hb⟩, (set_touch w b 0 _).setCell _ _ (fun _ => rfl)⟩
  rw [World.cell?_setCell_other _ _ _ _ (by simp)]; exact World.cell?_setCell_same _ _ _ c0

set_option maxRecDepth 100000 in
set_option maxHeartbeats 1000000 in
theorem take_any (n : Nat) (b : Nat) (st : Option (List Int)) (w : World) (h : Rd w b st) (hn : n ≤ 65535) :
    Calls Tryz.prog 80 #[.pointer (some ⟨b, 0, none⟩), .int .i64 n] w fun e w' => ∃ v1, e = .returned v1 ∧ RdV w' b v1 (takeP n st).1 ∧ Rd w' b (takeP n st).2 ∧ Touch (fun k => k = b) w w' ∧ w'.heap.size = w.heap.size := by
  cases st with
  | none =>
    obtain ⟨c0, c1, hf, hb⟩ := h
    have f0 := hf 0
    have f1 := hf 1
    have HF := hide hf
    clear hf
    by_cases h0 : n = 0
    · subst h0
      go_enter Tryz.func80, Tryz.ntmps80
      go_wp2_with fail
      go_ret
      refine ⟨.slice none 0 0, rfl, RdV.nil _ _, ⟨World.cell?_setCell_same _ _ _ c0, ?_, fun j => by simpa using unhide HF j, by simpa using hb⟩, set_touch _ _ _ _, by simp⟩
      rw [World.cell?_setCell_other _ _ _ _ (by simp)]; exact c1
    · have hn0 : (0 : Int) < (n : Int) := by omega
      have d1 : (w.setCell ⟨b, 0, none⟩ (.slice none 0 0)).cell? ⟨b, 1, none⟩ = some (.bool true) := by rw [World.cell?_setCell_other _ _ _ _ (by simp)]; exact c1
      have R := hide (take_short c0 c1 (unhide HF) hb)
      go_enter Tryz.func80, Tryz.ntmps80
      go_wp2_with fail
      go_ret
      exact ⟨.slice none 0 0, rfl, RdV.nil _ _, (unhide R).1, (unhide R).2, by simp⟩
  | some rs =>
    obtain ⟨⟨v, c0, a, cap, rfl, hc1, hc2, hsrc, hr⟩, c1, hf, hb⟩ := h
    have f0 := hf 0
    have f1 := hf 1
    have HF := hide hf
    have HM := hide hc2
    clear hf
    unfold maxLen at hc2
    by_cases hle : n ≤ rs.length
    · have HP := hide (show takeP n (some rs) = (rs.take n, some (rs.drop n)) by simp [takeP, hle])
      rcases hsrc with rfl | ⟨c, off, rfl, hlt, hcell⟩
      · have hl0 : rs.length = 0 := by omega
        obtain rfl : rs = [] := List.eq_nil_of_length_eq_zero hl0
        obtain rfl : n = 0 := by omega
        clear hr hl0
        cases a with
        | none =>
          go_enter Tryz.func80, Tryz.ntmps80
          go_wp2_with fail
          go_ret
          rw [unhide HP]
          refine ⟨.slice none 0 0, rfl, RdV.nil _ _, ⟨⟨_, World.cell?_setCell_same _ _ _ c0, RdV.nil _ _⟩, ?_, fun j => by simpa using unhide HF j, by simpa using hb⟩, set_touch _ _ _ _, by simp⟩
          rw [World.cell?_setCell_other _ _ _ _ (by simp)]; exact c1
        | some x =>
          go_enter Tryz.func80, Tryz.ntmps80
          go_wp2_with fail
          go_ret
          rw [unhide HP]
          refine ⟨.slice (some x) 0 0, rfl, RdV.zero _ _ _, ⟨⟨_, World.cell?_setCell_same _ _ _ c0, RdV.zero _ _ _⟩, ?_, fun j => by simpa using unhide HF j, by simpa using hb⟩, set_touch _ _ _ _, by simp⟩
          rw [World.cell?_setCell_other _ _ _ _ (by simp)]; exact c1
      · have R := fun v2 hv => take_fits (v2 := v2) c0 c1 (unhide HF) hb hc1 (unhide HM) hlt hcell hr hle hv
        have HR := hide R
        clear hcell hr R
        have hle2 : (n : Int) ≤ (rs.length : Int) := by omega
        have hle3 : (n : Int) ≤ (cap : Int) := by omega
        go_enter Tryz.func80, Tryz.ntmps80
        go_wp2_with fail
        all_goals
          go_ret
          rw [unhide HP]
        · have hcn : cap = n := by assumption
          have r := unhide HR _ (.inr ⟨rfl, hcn⟩)
          rw [hcn] at r
          exact ⟨_, rfl, r.1, r.2, set_touch _ _ _ _, by simp⟩
        · have r := unhide HR _ (.inl rfl)
          exact ⟨_, rfl, r.1, r.2, set_touch _ _ _ _, by simp⟩
    · have HP := hide (show takeP n (some rs) = ([], none) by simp [takeP]; omega)
      have hn0 : (rs.length : Int) < (n : Int) := by omega
      have d1 : (w.setCell ⟨b, 0, none⟩ (.slice none 0 0)).cell? ⟨b, 1, none⟩ = some (.bool false) := by rw [World.cell?_setCell_other _ _ _ _ (by simp)]; exact c1
      have R := hide (take_short c0 c1 (unhide HF) hb)
      clear hsrc hr
      go_enter Tryz.func80, Tryz.ntmps80
      go_wp2_with fail
      go_ret
      rw [unhide HP]
      exact ⟨.slice none 0 0, rfl, RdV.nil _ _, (unhide R).1, (unhide R).2, by simp⟩

/-- The number that bytes tell, the higher ones first. -/
def decN (l : List Int) : Nat → Int
  | 0 => 0
  | k + 1 => decN l k * 256 + l.getD k 0
def dec (l : List Int) : Int := decN l l.length
theorem decN_lo (l : List Int) (h : ∀ i, 0 ≤ l.getD i 0 ∧ l.getD i 0 ≤ 255) (k : Nat) : 0 ≤ decN l k ∧ decN l k < 256 ^ k := by
  induction k with
  | zero => simp [decN]
  | succ k ih => have := h k; simp only [decN, Int.pow_succ]; omega
theorem or_byte (n c : Int) (hn : 0 ≤ n) (hn2 : n < 16777216) (h0 : 0 ≤ c) (h1 : c ≤ 255) : bits BinOp.or IntKind.i64 (n * 256) c = n * 256 + c := by
  obtain ⟨a, rfl⟩ := Int.eq_ofNat_of_zero_le hn
  obtain ⟨d, rfl⟩ := Int.eq_ofNat_of_zero_le h0
  have e : ∀ m : Nat, m < 4294967296 → (BitVec.ofInt 64 (m : Int)).toNat = m := fun m hm => by
    rw [BitVec.ofInt_natCast, BitVec.toNat_ofNat]; omega
  show IntKind.i64.wrap ((BitVec.ofInt 64 ((a : Int) * 256) ||| BitVec.ofInt 64 (d : Int)).toNat : Int) = _
  rw [show ((a : Int) * 256) = ((a * 256 : Nat) : Int) by omega, BitVec.toNat_or, e (a * 256) (by omega), e d (by omega)]
  have h : a * 256 ||| d = a * 256 + d := by
    have := Nat.shiftLeft_add_eq_or_of_lt (a := a) (b := d) (i := 8) (by omega)
    rw [Nat.shiftLeft_eq] at this
    exact this.symm
  rw [h]
  simp only [IntKind.wrap, IntKind.bits, IntKind.signed]
  simp; omega
def numP (n : Nat) (st : Option (List Int)) : Int × Option (List Int) := (dec (takeP n st).1, (takeP n st).2)
theorem takeP_len (n : Nat) (st : Option (List Int)) : (takeP n st).1.length ≤ n := by
  cases st with
  | none => simp [takeP]
  | some rs => simp only [takeP]; split <;> simp; omega

set_option maxRecDepth 100000 in
set_option maxHeartbeats 1000000 in
theorem implNumber_any (n : Nat) (ni : Int) (hni : ni = (n : Int)) (b : Nat) (st : Option (List Int)) (w : World) (h : Rd w b st) (hn : n ≤ 4) :
    Calls Tryz.prog 77 #[.pointer (some ⟨b, 0, none⟩), .int .i64 ni] w fun e w' => e = .returned (.int .i64 (numP n st).1) ∧ Rd w' b (numP n st).2 ∧ Touch (fun k => k = b) w w' ∧ w'.heap.size = w.heap.size := by
  subst hni
  have H := hide h
  clear h
  go_enter Tryz.func77, Tryz.ntmps77
  go_wp2_with fail
  refine (take_any n b st w (unhide H) (by omega)).mono ?_
  rintro e w1 ⟨v1, rfl, hv, hR, hT, hz⟩
  have R := hide (And.intro hR (And.intro hT hz))
  have hln := takeP_len n st
  have HP := hide (show (numP n st).1 = dec (takeP n st).1 from rfl)
  clear hR hT hz H
  generalize (takeP n st).1 = tk at *
  obtain ⟨a, cap, rfl, hc1, hc2, hsrc, hr⟩ := hv
  have HC := hide hsrc
  have HR := hide hr
  clear hsrc hr
  go_wp2_with fail
  go_loop [5, 7, 12] (fun x _ i => ∃ k : Nat, k ≤ tk.length ∧ i = .int .i64 k ∧ x = .int .i64 (decN tk k)) (fun _ _ i => tk.length - (intOf i).toNat)
  case atStart => exact ⟨0, Nat.zero_le _, rfl, rfl⟩
  case round =>
    obtain ⟨k, hk, rfl, rfl⟩ := hrel
    by_cases hlt : k < tk.length
    · obtain ⟨c, off, rfl, hcb, hcell⟩ : ∃ c off, a = some ⟨c, off, none⟩ ∧ c < b ∧ ∀ i, i < tk.length → w1.cell? ⟨c, off + i, none⟩ = some (.int .u8 (tk.getD i 0)) := by
        rcases unhide HC with h0 | h0
        · omega
        · exact h0
      have hs1 := hcell k hlt
      have hx := unhide HR k
      have hd := decN_lo tk (unhide HR) k
      have hp : (256 : Int) ^ k ≤ 16777216 := by rcases (show k = 0 ∨ k = 1 ∨ k = 2 ∨ k = 3 by omega) with rfl | rfl | rfl | rfl <;> decide
      have hd2 : decN tk k < 16777216 := by omega
      have hd1 := hd.1
      have HS : Hid (decN tk (k + 1) = decN tk k * 256 + tk.getD k 0) := rfl
      clear hcell hd hp
      generalize tk.getD k 0 = x at *
      generalize decN tk k = y at *
      have m1 : IntKind.i64.wrap (y * 256) = y * 256 := by simp only [IntKind.wrap, IntKind.bits, IntKind.signed]; simp; omega
      have m2 := or_byte y x hd1 hd2 hx.1 hx.2
      have hk0 : (0 : Int) ≤ (k : Int) := by omega
      have hk1 : (k : Int) < (tk.length : Int) := by omega
      go_wp2_with fail
      go_round
      case rel => exact ⟨k + 1, by omega, by go_num, by rw [unhide HS]⟩
      case measure => simp [intOf]; omega
    · obtain rfl : k = tk.length := by omega
      go_wp2_with fail
      go_ret
      exact ⟨ret_int (unhide HP).symm, (unhide R).1, (unhide R).2.1, (unhide R).2.2⟩
end Go.Proofs.YtfihhkhdigbmiaaGreatDoor
