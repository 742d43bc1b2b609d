/- hashWords.mix: sixty-four rounds over a state, and the state added. -/
import Derived.Test.YtnajpeaieeaflaaDoorShaS
namespace Go.Proofs.YtnajpeaieeaflaaDoor.Sha
open Go.ChangeShapes Go.WideShapes Go.ChangeAt Go.RowKit
set_option linter.unusedVariables false

def kL : List Nat := [1116352408, 1899447441, 3049323471, 3921009573, 961987163, 1508970993, 2453635748, 2870763221, 3624381080, 310598401, 607225278, 1426881987, 1925078388, 2162078206, 2614888103, 3248222580, 3835390401, 4022224774, 264347078, 604807628, 770255983, 1249150122, 1555081692, 1996064986, 2554220882, 2821834349, 2952996808, 3210313671, 3336571891, 3584528711, 113926993, 338241895, 666307205, 773529912, 1294757372, 1396182291, 1695183700, 1986661051, 2177026350, 2456956037, 2730485921, 2820302411, 3259730800, 3345764771, 3516065817, 3600352804, 4094571909, 275423344, 430227734, 506948616, 659060556, 883997877, 958139571, 1322822218, 1537002063, 1747873779, 1955562222, 2024104815, 2227730452, 2361852424, 2428436474, 2756734187, 3204031479, 3329325298]
def kW (i : Nat) : Nat := kL.getD i 0
theorem kL_all : kL.all (fun x => decide (x < 4294967296)) = true := by decide
theorem kW_lt (i : Nat) : kW i < 4294967296 := by
  unfold kW
  by_cases h : i < kL.length
  · rw [List.getD_eq_getElem?_getD, List.getElem?_eq_getElem h]
    have := List.all_eq_true.1 kL_all _ (List.getElem_mem h)
    simpa using this
  · rw [List.getD_eq_getElem?_getD, List.getElem?_eq_none (by omega)]
    exact Nat.zero_lt_succ _
def tT (K Wt : Nat) (s : Nat → Nat) : Nat := add (add (add (add (s 7) (bE (s 4))) (ch (s 4) (s 5) (s 6))) K) Wt
def tU (s : Nat → Nat) : Nat := add (bA (s 0)) (maj (s 0) (s 1) (s 2))
def rnd (K Wt : Nat) (s : Nat → Nat) : Nat → Nat
  | 0 => add (tT K Wt s) (tU s)
  | 1 => s 0
  | 2 => s 1
  | 3 => s 2
  | 4 => add (s 3) (tT K Wt s)
  | 5 => s 4
  | 6 => s 5
  | _ => s 6
theorem rnd_cells (K Wt : Nat) (s : Nat → Nat) : cells32 8 (rnd K Wt s) = [.int .u32 (add (tT K Wt s) (tU s)), .int .u32 (s 0), .int .u32 (s 1), .int .u32 (s 2), .int .u32 (add (s 3) (tT K Wt s)), .int .u32 (s 4), .int .u32 (s 5), .int .u32 (s 6)] := rfl
def rounds (f : Nat → Nat) (s : Nat → Nat) : Nat → Nat → Nat
  | 0 => s
  | n + 1 => rnd (kW n) (f n) (rounds f s n)
theorem rnd_lt {K Wt : Nat} {s : Nat → Nat} (h : ∀ j, s j < 4294967296) : ∀ j, rnd K Wt s j < 4294967296 := by
  intro j
  unfold rnd
  split <;> first | exact add_lt _ _ | exact h _
theorem rounds_lt {f : Nat → Nat} {s : Nat → Nat} (h : ∀ j, s j < 4294967296) (n : Nat) : ∀ j, rounds f s n j < 4294967296 := by
  induction n with
  | zero => exact h
  | succ n ih => exact rnd_lt ih
/-- The state behind one block. -/
def after (f : Nat → Nat) (s : Nat → Nat) (j : Nat) : Nat := add (rounds f s 64 j) (s j)
theorem after_lt (f s : Nat → Nat) (j : Nat) : after f s j < 4294967296 := add_lt _ _
theorem row_box (w : World) (n : Nat) (f : Nat → Nat) (t : TypeId) (b : Nat) (hb : b = w.heap.size) : Row32 (w.alloc (.cells (cells32 n f).toArray t)) b n f := by
  subst hb
  intro j hj
  refine ⟨?_, by simp⟩
  rw [World.cell?_alloc_at _ _ _ _ rfl]
  simp [cells32, hj]
def Table (w : World) : Prop := 1 < w.heap.size ∧ ∀ i, i < 64 → w.cell? ⟨1, i, none⟩ = some (.int .u32 (kW i))
theorem Table.below {w w' : World} {B : Nat} (h : Table w) (hb : Below B w w') (hB : w.heap.size ≤ B) : Table w' :=
  ⟨Nat.lt_of_lt_of_le h.1 hb.size, fun i hi => by rw [hb.cell (p := ⟨1, i, none⟩) (Nat.lt_of_lt_of_le h.1 hB)]; exact h.2 i hi⟩

theorem eqP (K Wt : Nat) (s : Nat → Nat) : (((((s 7 : Nat) : Int) + ((bE (s 4) : Nat) : Int) + ((ch (s 4) (s 5) (s 6) : Nat) : Int) + (K : Int)) % 4294967296 + (Wt : Int)) % 4294967296) = ((tT K Wt s : Nat) : Int) := by
  unfold tT add; omega
theorem eqQ (s : Nat → Nat) : ((((bA (s 0) : Nat) : Int) + ((maj (s 0) (s 1) (s 2) : Nat) : Int)) % 4294967296) = ((tU s : Nat) : Int) := by
  unfold tU add; omega
def put8 (w : World) (b a0 a1 a2 a3 a4 a5 a6 a7 : Nat) : World :=
  (((((((w.setCell ⟨b, 0, none⟩ (.int .u32 a0)).setCell ⟨b, 1, none⟩ (.int .u32 a1)).setCell ⟨b, 2, none⟩ (.int .u32 a2)).setCell ⟨b, 3, none⟩ (.int .u32 a3)).setCell ⟨b, 4, none⟩ (.int .u32 a4)).setCell ⟨b, 5, none⟩ (.int .u32 a5)).setCell ⟨b, 6, none⟩ (.int .u32 a6)).setCell ⟨b, 7, none⟩ (.int .u32 a7)
def of8 (a0 a1 a2 a3 a4 a5 a6 a7 : Nat) : Nat → Nat
  | 0 => a0
  | 1 => a1
  | 2 => a2
  | 3 => a3
  | 4 => a4
  | 5 => a5
  | 6 => a6
  | _ => a7
theorem put8_row {w : World} {b : Nat} {f : Nat → Nat} (h : Row32 w b 8 f) (a0 a1 a2 a3 a4 a5 a6 a7 : Nat) : Row32 (put8 w b a0 a1 a2 a3 a4 a5 a6 a7) b 8 (of8 a0 a1 a2 a3 a4 a5 a6 a7) := by
  refine ((((((((h.set 0 a0).set 1 a1).set 2 a2).set 3 a3).set 4 a4).set 5 a5).set 6 a6).set 7 a7).congr ?_
  intro j hj
  match j, hj with
  | 0, _ => rfl
  | 1, _ => rfl
  | 2, _ => rfl
  | 3, _ => rfl
  | 4, _ => rfl
  | 5, _ => rfl
  | 6, _ => rfl
  | 7, _ => rfl
theorem put8_other {w : World} {b b' n : Nat} {f : Nat → Nat} (h : Row32 w b' n f) (hb : b ≠ b') (a0 a1 a2 a3 a4 a5 a6 a7 : Nat) : Row32 (put8 w b a0 a1 a2 a3 a4 a5 a6 a7) b' n f :=
  (((((((h.other (a := ⟨b, 0, none⟩) hb _).other (a := ⟨b, 1, none⟩) hb _).other (a := ⟨b, 2, none⟩) hb _).other (a := ⟨b, 3, none⟩) hb _).other (a := ⟨b, 4, none⟩) hb _).other (a := ⟨b, 5, none⟩) hb _).other (a := ⟨b, 6, none⟩) hb _).other (a := ⟨b, 7, none⟩) hb _
theorem put8_below {w0 w : World} {B b : Nat} (h : Below B w0 w) (hb : B ≤ b) (a0 a1 a2 a3 a4 a5 a6 a7 : Nat) : Below B w0 (put8 w b a0 a1 a2 a3 a4 a5 a6 a7) :=
  (((((((h.setCell (p := ⟨b, 0, none⟩) hb _).setCell (p := ⟨b, 1, none⟩) hb _).setCell (p := ⟨b, 2, none⟩) hb _).setCell (p := ⟨b, 3, none⟩) hb _).setCell (p := ⟨b, 4, none⟩) hb _).setCell (p := ⟨b, 5, none⟩) hb _).setCell (p := ⟨b, 6, none⟩) hb _).setCell (p := ⟨b, 7, none⟩) hb _
def addTo (st s : Nat → Nat) (k j : Nat) : Nat := if j < k then add (st j) (s j) else st j
theorem addTo_zero (st s : Nat → Nat) (j : Nat) : addTo st s 0 j = st j := by unfold addTo; rw [if_neg (by omega)]
theorem addTo_at (st s : Nat → Nat) (k : Nat) : addTo st s k k = st k := by unfold addTo; rw [if_neg (by omega)]
theorem addTo_in (st s : Nat → Nat) {k j : Nat} (h : j < k) : addTo st s k j = add (st j) (s j) := by unfold addTo; rw [if_pos h]
theorem addTo_step (st s : Nat → Nat) (k j : Nat) : (if j = k then add (st k) (s k) else addTo st s k j) = addTo st s (k + 1) j := by
  unfold addTo
  by_cases e : j = k
  · subst e; rw [if_pos rfl, if_pos (by omega)]
  · rw [if_neg e]
    by_cases h : j < k
    · rw [if_pos h, if_pos (by omega)]
    · rw [if_neg h, if_neg (by omega)]
theorem zero8 (w : World) (t : TypeId) (b : Nat) (hb : b = w.heap.size) : Row32 (w.alloc (Obj.cells #[Value.int IntKind.u32 0, Value.int IntKind.u32 0, Value.int IntKind.u32 0, Value.int IntKind.u32 0, Value.int IntKind.u32 0, Value.int IntKind.u32 0, Value.int IntKind.u32 0, Value.int IntKind.u32 0] t)) b 8 (fun _ => 0) :=
  row_box w 8 (fun _ => 0) t b hb
set_option maxRecDepth 100000 in
set_option maxHeartbeats 4000000 in
theorem mix_any (s f : Nat → Nat) (w : World) (hs : ∀ j, s j < 4294967296) (hf : ∀ j, f j < 4294967296) (ht : Table w) :
    Calls Tryd.prog 55 #[.agg (cells32 8 s).toArray, .agg (cells32 64 f).toArray] w fun e w' => e = .returned (.agg (cells32 8 (after f s)).toArray) ∧ Below w.heap.size w w' := by
  have HS := hide hs
  have HF := hide hf
  have HT := hide ht
  clear hs hf ht
  have hu := Tryd.underlying84
  have hi1 : (Tryd.prog.info? 84).map (·.size) = some (cells32 8 s).length := by rw [cells32_len]; kernel_rfl
  have hi2 : (Tryd.prog.info? 84).map (·.size) = some (cells32 8 s).toArray.size := by rw [show (cells32 8 s).toArray.size = 8 by simp [cells32_len]]; kernel_rfl
  go_enter Tryd.func55, Tryd.ntmps55
  have hA : Row32 (((w.alloc (.cells (cells32 8 s).toArray 84)).alloc (.cells (cells32 64 f).toArray 88)).alloc (.cells #[Value.int IntKind.u32 0, Value.int IntKind.u32 0, Value.int IntKind.u32 0, Value.int IntKind.u32 0, Value.int IntKind.u32 0, Value.int IntKind.u32 0, Value.int IntKind.u32 0, Value.int IntKind.u32 0] 84)) w.heap.size 8 s := (((row_box w 8 s 84 _ rfl).alloc (by simp) _ _).alloc (by simp; omega) _ _)
  have hB : Row32 (((w.alloc (.cells (cells32 8 s).toArray 84)).alloc (.cells (cells32 64 f).toArray 88)).alloc (.cells #[Value.int IntKind.u32 0, Value.int IntKind.u32 0, Value.int IntKind.u32 0, Value.int IntKind.u32 0, Value.int IntKind.u32 0, Value.int IntKind.u32 0, Value.int IntKind.u32 0, Value.int IntKind.u32 0] 84)) (w.heap.size + 1) 64 f := ((row_box _ 64 f 88 _ (by simp)).alloc (by simp) _ _)
  have hC : Row32 (((w.alloc (.cells (cells32 8 s).toArray 84)).alloc (.cells (cells32 64 f).toArray 88)).alloc (.cells #[Value.int IntKind.u32 0, Value.int IntKind.u32 0, Value.int IntKind.u32 0, Value.int IntKind.u32 0, Value.int IntKind.u32 0, Value.int IntKind.u32 0, Value.int IntKind.u32 0, Value.int IntKind.u32 0] 84)) (w.heap.size + 1 + 1) 8 (fun _ => 0) := zero8 _ _ _ (by simp)
  have hb3 : Below w.heap.size w (((w.alloc (.cells (cells32 8 s).toArray 84)).alloc (.cells (cells32 64 f).toArray 88)).alloc (.cells #[Value.int IntKind.u32 0, Value.int IntKind.u32 0, Value.int IntKind.u32 0, Value.int IntKind.u32 0, Value.int IntKind.u32 0, Value.int IntKind.u32 0, Value.int IntKind.u32 0, Value.int IntKind.u32 0] 84)) := (((Below.refl _ _).alloc (Nat.le_refl _) _).alloc (by simp) _).alloc (by simp; omega) _
  have hX := zero8 (((w.alloc (.cells (cells32 8 s).toArray 84)).alloc (.cells (cells32 64 f).toArray 88)).alloc (.cells #[Value.int IntKind.u32 0, Value.int IntKind.u32 0, Value.int IntKind.u32 0, Value.int IntKind.u32 0, Value.int IntKind.u32 0, Value.int IntKind.u32 0, Value.int IntKind.u32 0, Value.int IntKind.u32 0] 84)) 84 (w.heap.size + 1 + 1 + 1) (by simp)
  have hA' := hide hA
  have hB' := hide hB
  have hC' := hide hC
  have hb3' := hide hb3
  have hX' := hide hX
  clear hA hB hC hb3 hX
  go_wp2_with (first | (refine wpList_load_mid rfl 84 _ rfl w.heap.size 0 rfl (cells32 8 s) _ (by exact (unhide hA').range) hu rfl hi1 ?_) | (refine wpList_store_mid rfl 84 _ _ rfl (w.heap.size + 1 + 1 + 1) 0 _ rfl rfl (by rw [show (cells32 8 s).toArray.size = 8 by simp [cells32_len]]; exact (unhide hX').there) hi2 (all_oneCell_toArray (cells32_one _ _)) ?_))
  go_loopw [6, 7, 8, 11] (fun _ _ _ i wr => ∃ k : Nat, k ≤ 64 ∧ i = .int .i64 k ∧ Row32 wr (w.heap.size + 1 + 1 + 1) 8 (rounds f s k) ∧ Row32 wr w.heap.size 8 s ∧ Row32 wr (w.heap.size + 1) 64 f ∧ Row32 wr (w.heap.size + 1 + 1) 8 (fun _ => 0) ∧ Below w.heap.size w wr)
    (fun _ _ _ i _ => 64 - (intOf i).toNat)
  case atStart =>
    refine ⟨0, Nat.zero_le _, rfl, (unhide hX').stored, ((unhide hA').alloc (by simp; omega) _ _).apart (by omega) _, ((unhide hB').alloc (by simp) _ _).apart (by omega) _, ((unhide hC').alloc (by simp) _ _).apart (by omega) _, below_setCells (by omega) _ _ ((unhide hb3').alloc (by simp; omega) _)⟩
  case round =>
    clear hA' hB' hC' hb3' hX'
    obtain ⟨k, hk, rfl, hX, hA, hB, hC, hbel⟩ := hrel
    by_cases hlt : k < 64
    · have hbd := rounds_lt (f := f) (unhide HS) k
      have HN : Hid (rounds f s (k + 1) = rnd (kW k) (f k) (rounds f s k)) := rfl
      generalize rounds f s k = st at *
      have x0 := (hX 0 (by omega)).1
      have x1 := (hX 1 (by omega)).1
      have x2 := (hX 2 (by omega)).1
      have x3 := (hX 3 (by omega)).1
      have x4 := (hX 4 (by omega)).1
      have x5 := (hX 5 (by omega)).1
      have x6 := (hX 6 (by omega)).1
      have x7 := (hX 7 (by omega)).1
      have xk : wr.cell? ⟨1, k, none⟩ = some (.int .u32 (kW k)) := (hbel.cell (p := ⟨1, k, none⟩) (unhide HT).1).trans ((unhide HT).2 k hlt)
      have xf := (hB k hlt).1
      have b0 := hbd 0
      have b1 := hbd 1
      have b2 := hbd 2
      have b4 := hbd 4
      have b5 := hbd 5
      have b6 := hbd 6
      have hX' := hide hX
      have hA' := hide hA
      have hB' := hide hB
      have hC' := hide hC
      have hb' := hide hbel
      have hk0 : (0 : Int) ≤ (k : Int) := by omega
      have hk1 : (k : Int) < 64 := by omega
      clear hX hA hB hC hbel hbd
      go_wp2_with fail
      go_quiet (first | (go_at_call 81; exact Calls.quiet_of_same (greatE_any _ _ b4)) | (go_at_call 82; exact Calls.quiet_of_same (choose_any _ _ _ _ b4 b5 b6)))
      generalize hwq : wr.drewN nq = wq
      have gX := hwq ▸ (unhide hX').drewN nq
      have gA := hwq ▸ (unhide hA').drewN nq
      have gB := hwq ▸ (unhide hB').drewN nq
      have gC := hwq ▸ (unhide hC').drewN nq
      have gb := hwq ▸ below_drewN (unhide hb') nq
      clear hX' hA' hB' hC' hb' x0 x1 x2 x3 x4 x5 x6 x7 xk xf hwq
      have x0 := (gX 0 (by omega)).1
      have x1 := (gX 1 (by omega)).1
      have x2 := (gX 2 (by omega)).1
      have x3 := (gX 3 (by omega)).1
      have x4 := (gX 4 (by omega)).1
      have x5 := (gX 5 (by omega)).1
      have x6 := (gX 6 (by omega)).1
      have hX' := hide gX
      have hA' := hide gA
      have hB' := hide gB
      have hC' := hide gC
      have hb' := hide gb
      clear gX gA gB gC gb
      go_wp2_with fail
      go_quiet (first | (go_at_call 83; exact Calls.quiet_of_same (greatA_any _ _ b0)) | (go_at_call 84; exact Calls.quiet_of_same (majority_any _ _ _ _ b0 b1 b2)))
      generalize hwp : wq.drewN nq = wp
      have gX := hwp ▸ (unhide hX').drewN nq
      have gA := hwp ▸ (unhide hA').drewN nq
      have gB := hwp ▸ (unhide hB').drewN nq
      have gC := hwp ▸ (unhide hC').drewN nq
      have gb := hwp ▸ below_drewN (unhide hb') nq
      clear hX' hA' hB' hC' hb' x0 x1 x2 x3 x4 x5 x6 hwp
      have x0 := (gX 0 (by omega)).1
      have x1 := (gX 1 (by omega)).1
      have x2 := (gX 2 (by omega)).1
      have x3 := (gX 3 (by omega)).1
      have x4 := (gX 4 (by omega)).1
      have x5 := (gX 5 (by omega)).1
      have x6 := (gX 6 (by omega)).1
      have hX' := hide gX
      have hA' := hide gA
      have hB' := hide gB
      have hC' := hide gC
      have hb' := hide gb
      clear gX gA gB gC gb
      have x7 := (unhide hX' 7 (by omega)).1
      have z0 := (unhide hX' 0 (by omega)).2
      have z1 := (unhide hX' 1 (by omega)).2
      have z2 := (unhide hX' 2 (by omega)).2
      have z3 := (unhide hX' 3 (by omega)).2
      have z4 := (unhide hX' 4 (by omega)).2
      have z5 := (unhide hX' 5 (by omega)).2
      have z6 := (unhide hX' 6 (by omega)).2
      have z7 := (unhide hX' 7 (by omega)).2
      rw [eqP (kW k) (f k) st, eqQ st]
      generalize hP : tT (kW k) (f k) st = tp
      generalize hQ : tU st = tq
      have HP := hide hP
      have HQ := hide hQ
      clear hP hQ
      go_wp2_with fail
      rw [wadd, wadd]
      have hrow := put8_row (unhide hX') (add tp tq) (st 0) (st 1) (st 2) (add (st 3) tp) (st 4) (st 5) (st 6)
      have hrow' : Row32 _ _ 8 (rounds f s (k + 1)) := hrow.congr (g := rounds f s (k + 1)) (by
        rw [unhide HN]
        have e1 := unhide HP
        have e2 := unhide HQ
        subst e1 e2
        intro j hj
        match j, hj with
        | 0, _ => rfl
        | 1, _ => rfl
        | 2, _ => rfl
        | 3, _ => rfl
        | 4, _ => rfl
        | 5, _ => rfl
        | 6, _ => rfl
        | 7, _ => rfl)
      refine ⟨⟨k + 1, by omega, by go_num, hrow', put8_other (unhide hA') (by omega) _ _ _ _ _ _ _ _, put8_other (unhide hB') (by omega) _ _ _ _ _ _ _ _, put8_other (unhide hC') (by omega) _ _ _ _ _ _ _ _, put8_below (unhide hb') (by omega) _ _ _ _ _ _ _ _⟩, ?_⟩
      simp [intOf]; omega
    · obtain rfl : k = 64 := by omega
      have hbd := rounds_lt (f := f) (unhide HS) 64
      have HN : Hid (∀ j, after f s j = add (rounds f s 64 j) (s j)) := fun _ => rfl
      generalize rounds f s 64 = st at *
      go_wp2_with fail
      go_loopw [9, 68] (fun _ i wr => ∃ k : Nat, k ≤ 8 ∧ i = .int .i64 k ∧ Row32 wr (w.heap.size + 1 + 1 + 1) 8 (addTo st s k) ∧ Row32 wr w.heap.size 8 s ∧ Row32 wr (w.heap.size + 1 + 1) 8 (fun _ => 0) ∧ Below w.heap.size w wr)
        (fun _ i _ => 8 - (intOf i).toNat)
      case atStart => exact ⟨0, Nat.zero_le _, rfl, hX.congr (fun j _ => (addTo_zero st s j).symm), hA, hC, hbel⟩
      case round =>
        clear hX hA hB hC hbel
        obtain ⟨k, hk, rfl, hX, hA, hC, hbel⟩ := hrel
        by_cases hlt : k < 8
        · have x1 := (hX k hlt).1
          have x2 := (hA k hlt).1
          have z1 := (hX k hlt).2
          rw [addTo_at] at x1
          have hX' := hide hX
          have hA' := hide hA
          have hC' := hide hC
          have hb' := hide hbel
          have hk0 : (0 : Int) ≤ (k : Int) := by omega
          have hk1 : (k : Int) < 8 := by omega
          have p1 := uadd (st k) (s k)
          clear hX hA hC hbel
          go_wp2_with fail
          refine wp_region_still_tail 8 (by kernel_rfl) (by kernel_rfl) ?_
          simp only [List.take_succ_cons, List.take_zero, List.drop_succ_cons, List.drop_zero]
          repeat still_step
          refine wpStill_nil ?_
          go_wp2_with fail
          have hst : Row32 _ _ 8 (addTo st s (k + 1)) := ((unhide hX').set k (add (st k) (s k))).congr fun j _ => addTo_step st s k j
          refine ⟨?_, ?_⟩
          · repeat (apply Exists.intro)
            refine ⟨?_, rfl⟩
            exact ⟨k + 1, by omega, by go_num, hst, (unhide hA').other (a := ⟨w.heap.size + 1 + 1 + 1, k, none⟩) (by simp; omega) _, (unhide hC').other (a := ⟨w.heap.size + 1 + 1 + 1, k, none⟩) (by simp) _, (unhide hb').drew.setCell (by simp; omega) _⟩
          · simp [intOf]; omega
        · obtain rfl : k = 8 := by omega
          have HB := hide hbel
          have hX2 : Row32 wr (w.heap.size + 1 + 1 + 1) 8 (after f s) := hX.congr fun j hj => by rw [unhide HN j]; exact addTo_in st s hj
          have hr := hX2.range
          have ht : wr.there (w.heap.size + 1 + 1) 0 (cells32 8 (after f s)).toArray.size := by
            rw [show (cells32 8 (after f s)).toArray.size = 8 by simp [cells32_len]]; exact hC.there
          have hst := hide (hC.stored (g := after f s))
          have hi3 : (Tryd.prog.info? 84).map (·.size) = some (cells32 8 (after f s)).length := by rw [cells32_len]; kernel_rfl
          have hi4 : (Tryd.prog.info? 84).map (·.size) = some (cells32 8 (after f s)).toArray.size := by rw [show (cells32 8 (after f s)).toArray.size = 8 by simp [cells32_len]]; kernel_rfl
          clear hX hA hC hbel hX2
          go_wp2_with (first | (refine wpList_load_mid rfl 84 _ rfl (w.heap.size + 1 + 1 + 1) 0 rfl _ _ hr hu rfl hi3 ?_) | (refine wpList_store_mid rfl 84 _ _ rfl (w.heap.size + 1 + 1) 0 _ rfl rfl (by exact ht) hi4 (all_oneCell_toArray (cells32_one _ _)) ?_))
          refine bodyPost_ret (v := .agg (cells32 8 (after f s)).toArray) (results_cell (p := 4) (ty := 84) (a := ⟨w.heap.size + 1 + 1, 0, none⟩) (by kernel_rfl) rfl (run_loadVar_mid _ _ 0 84 _ _ (unhide hst).range hu rfl hi3)) rfl ⟨rfl, ?_⟩
          exact below_setCells (by omega) _ _ (unhide HB)
end Go.Proofs.YtnajpeaieeaflaaDoor.Sha
