/- What the proof of the claim needs (joined by program): ShaI ShaB ShaH. -/
import Derived.Test.YtbchnheinnileaaGreatDoorQca02
import Derived.Deep.RegionHeld3
namespace Go.Proofs.YtbchnheinnileaaGreatDoor.Sha
set_option maxRecDepth 100000
set_option maxHeartbeats 8000000
open Go.ChangeShapes Go.WideShapes Go.ChangeAt Go.RowKit
set_option linter.unusedVariables false
def iL : List Nat := [1779033703, 3144134277, 1013904242, 2773480762, 1359893119, 2600822924, 528734635, 1541459225]
def iW (i : Nat) : Nat := iL.getD i 0
theorem iL_all : iL.all (fun x => decide (x < 4294967296)) = true := by decide
theorem iW_lt (i : Nat) : iW i < 4294967296 := by
 unfold iW
 by_cases h : i < iL.length
 ·rw [List.getD_eq_getElem?_getD, List.getElem?_eq_getElem h]
  have := List.all_eq_true.1 iL_all _ (List.getElem_mem h)
  simpa using this
 ·rw [List.getD_eq_getElem?_getD, List.getElem?_eq_none (by omega)]
  exact Nat.zero_lt_succ _
def blockB (l : List Int) (k i : Nat) : Int := padAt l (64 * k + i)
def stAt (l : List Int) : Nat → Nat → Nat
 | 0 => iW
 | k + 1 => after (W (blockB l k)) (stAt l k)
theorem stAt_lt (l : List Int) (k : Nat) : ∀ j, stAt l k j < 4294967296 := by
 cases k with
 | zero => exact iW_lt
 | succ k => exact after_lt _ _
theorem padK_lo (l : List Int) (hr : ∀ i, 0 ≤ l.getD i 0 ∧ l.getD i 0 ≤ 255) (k j : Nat) : 0 ≤ padK l k j ∧ padK l k j ≤ 255 := by
 unfold padK lenByte
 split
 ·exact hr j
 ·split
  ·omega
  ·split
   ·constructor
    ·exact Int.emod_nonneg _ (by omega)
    ·have := Int.emod_lt_of_pos ((l.length : Int) * 8 / 2 ^ (8 * (padLen l.length - 1 - j))) (show (0 : Int) < 256 by omega); omega
   ·omega
def hashV (l : List Int) : ByteArray := if 65536 < l.length then ⟨#[]⟩ else strOfNums (textL (stAt l (padLen l.length / 64)))
theorem hashV_long {l : List Int} (h : 65536 < l.length) : hashV l = ⟨#[]⟩ := by unfold hashV; rw [if_pos h]
theorem hashV_yes {l : List Int} (h : ¬ 65536 < l.length) : hashV l = strOfNums (textL (stAt l (padLen l.length / 64))) := by unfold hashV; rw [if_neg h]
theorem cells8_eq (s : Nat → Nat) : (cells32 8 s).toArray = #[.int .u32 (s 0), .int .u32 (s 1), .int .u32 (s 2), .int .u32 (s 3), .int .u32 (s 4), .int .u32 (s 5), .int .u32 (s 6), .int .u32 (s 7)] := rfl
theorem of8_eq (s : Nat → Nat) (j : Nat) (hj : j < 8) : of8 (s 0) (s 1) (s 2) (s 3) (s 4) (s 5) (s 6) (s 7) j = s j := by
 match j, hj with
 | 0, _ => rfl
 | 1, _ => rfl
 | 2, _ => rfl
 | 3, _ => rfl
 | 4, _ => rfl
 | 5, _ => rfl
 | 6, _ => rfl
 | 7, _ => rfl
theorem Row8.other {w : World} {b n : Nat} {f : Nat → Int} (h : Row8 w b n f) {a : Addr} (ha : a.block ≠ b) (v : Value) : Row8 (w.setCell a v) b n f := by
 intro j hj
 refine ⟨?_, by rw [World.frozen?_setCell]; exact (h j hj).2⟩
 rw [World.cell?_setCell_other w _ _ _ (fun h => ha (by rw [h]))]
 exact (h j hj).1
theorem put8_other8 {w : World} {b b' n : Nat} {f : Nat → Int} (h : Row8 w b' n f) (hb : b ≠ b') (a0 a1 a2 a3 a4 a5 a6 a7 : Nat) : Row8 (put8 w b a0 a1 a2 a3 a4 a5 a6 a7) b' n f :=
 (((((((h.other (a := ⟨b, 0, none⟩) hb _).other (a := ⟨b, 1, none⟩) hb _).other (a := ⟨b, 2, none⟩) hb _).other (a := ⟨b, 3, none⟩) hb _).other (a := ⟨b, 4, none⟩) hb _).other (a := ⟨b, 5, none⟩) hb _).other (a := ⟨b, 6, none⟩) hb _).other (a := ⟨b, 7, none⟩) hb _
def First (w : World) : Prop := 0 < w.heap.size ∧ ∀ i, i < 8 → w.cell? ⟨0, i, none⟩ = some (.int .u32 (iW i))
theorem First.range {w : World} (h : First w) : w.rangeAt 0 0 (cells32 8 iW) := by
 intro j v hv
 have hj : j < 8 := by have := (List.getElem?_eq_some_iff.1 hv).1; rwa [cells32_len] at this
 rw [Nat.zero_add, h.2 j hj, ← hv]
 simp [cells32, hj]

theorem implHash_any (v : Value) (l : List Int) (w : World) (h : Bytes w v l) (ht : Table w) (hf : First w) :
  Calls Tryz.prog 119 #[v] w fun e w' => e = .returned (.string (hashV l)) ∧ Below w.heap.size w w' := by
 have HBy := Hd h
 have HT := Hd ht
 have HF := Hd hf
 obtain ⟨a, cap, rfl, hm, hc, hr⟩ := h
 have HR := Hd hr
 clear hc ht hf hr
 unfold maxLen at hm
 by_cases hs : 65536 < l.length
 ·have H := Hd (hashV_long hs)
  go_enter Tryz.func119, Tryz.ntmps119
  go_wp2_with fail
  go_ret
  exact ⟨by rw [uh H]; rfl, Below.refl _ _⟩
 ·have H := Hd (hashV_yes hs)
  have f0 := (uh HF).2 0 (by omega)
  have f1 := (uh HF).2 1 (by omega)
  have f2 := (uh HF).2 2 (by omega)
  have f3 := (uh HF).2 3 (by omega)
  have f4 := (uh HF).2 4 (by omega)
  have f5 := (uh HF).2 5 (by omega)
  have f6 := (uh HF).2 6 (by omega)
  have f7 := (uh HF).2 7 (by omega)
  go_enter Tryz.func119, Tryz.ntmps119
  go_wp2_with fail
  have hrow0 := Hd (row_box w 8 iW 183 w.heap.size rfl)
  have hbel0 := Hd (bal w (.cells (cells32 8 iW).toArray 183))
  clear f0 f1 f2 f3 f4 f5 f6 f7
  refine (pad_any _ l (w.alloc (.cells (cells32 8 iW).toArray 183)) ((uh HBy).below (uh hbel0)) (by omega)).mono ?_
  rintro e w1 ⟨g, rfl, hg1, hg2, hpad, hb1⟩
  have hg3 : w.heap.size < g := by simp at hg1; omega
  have hrow1 := Hd ((uh hrow0).below hb1 (by simp))
  have hbel1 := Hd ((uh hbel0).trans (hb1.mono (by simp)))
  have hpad1 := Hd hpad
  have hN : (padLen l.length : Int) = 64 * ((padLen l.length / 64 : Nat) : Int) := by unfold padLen; omega
  have hNb : padLen l.length ≤ 65700 := by unfold padLen; omega
  have HN := Hd hN
  clear hpad hb1 hg1 hrow0 hbel0 hN
  go_wp2_with fail
  go_loopw [5] (fun i wr => ∃ k : Nat, k ≤ padLen l.length / 64 ∧ i = .int .i64 (64 * (k : Int)) ∧ Row32 wr w.heap.size 8 (stAt l k) ∧ Row8 wr g (padLen l.length) (padAt l) ∧ g < wr.heap.size ∧ Below w.heap.size w wr)
   (fun i _ => padLen l.length - (intOf i).toNat)
  case atStart => exact ⟨0, Nat.zero_le _, rfl, uh hrow1, uh hpad1, hg2, uh hbel1⟩
  case round =>
   clear hrow1 hbel1 hpad1 hg2
   obtain ⟨k, hk, rfl, hX, hP, hg2, hbel⟩ := hrel
   by_cases hlt : k < padLen l.length / 64
   ·have hbd := stAt_lt l k
    have HS : Hid (stAt l (k + 1) = after (W (blockB l k)) (stAt l k)) := rfl
    generalize stAt l k = st at *
    have x0 := (hX 0 (by omega)).1
    have x1 := (hX 1 (by omega)).1
    have x2 := (hX 2 (by omega)).1
    have x3 := (hX 3 (by omega)).1
    have x4 := (hX 4 (by omega)).1
    have x5 := (hX 5 (by omega)).1
    have x6 := (hX 6 (by omega)).1
    have x7 := (hX 7 (by omega)).1
    have hk0 : (0 : Int) ≤ 64 * (k : Int) := by omega
    have hk1 : 64 * (k : Int) + 64 ≤ (padLen l.length : Int) := by have := uh HN; omega
    have hk2 : 64 * (k : Int) < (padLen l.length : Int) := by omega
    have hk3 : (0 : Int) ≤ 64 * (k : Int) + 64 := by omega
    have hk4 : 64 * (k : Int) ≤ 64 * (k : Int) + 64 := by omega
    have m1 : IntKind.i64.wrap (64 * (k : Int) + 64) = 64 * (k : Int) + 64 := wrap_small _ (by omega) (by omega)
    have hX' := Hd hX
    have hP' := Hd hP
    have hb' := Hd hbel
    have hH : w.heap.size < wr.heap.size := by omega
    have hBc : Hid (∀ i, i < 64 → wr.cell? ⟨g, 64 * k + i, none⟩ = some (.int .u8 (blockB l k i))) := fun i hi => (hP (64 * k + i) (by have := uh HN; omega)).1
    have hTw := Hd ((uh HT).below hbel (Nat.le_refl _))
    have hBd := Hd hbd
    have hW1 : Hid (∀ j, W (blockB l k) j < 4294967296) := W_lt _ (fun i => (padK_lo l (uh HR) 8 _).2)
    have t1 : (64 * (k : Int)).toNat = 64 * k := by omega
    have t2 : (64 * (k : Int) + 64).toNat = 64 * k + 64 := by omega
    have t3 : ¬ padLen l.length = 64 * k := by have := uh HN; omega
    have t4 : 64 * k + 64 - 64 * k = 64 := by omega
    clear hX hP hbel hbd
    go_wp2_with fail
    go_region_with (first
     | (go_at_call 131; refine (spread_any g (64 * k) (padLen l.length - 64 * k) (blockB l k) _ (by exact hg2) (fun i => (padK_lo l (uh HR) 8 _).1) (fun i => (padK_lo l (uh HR) 8 _).2) (by exact uh hBc)).mono ?_; rintro e w2 ⟨rfl, hb2d⟩; have hb2 : Below wr.heap.size wr w2 := (Below.refl wr.heap.size wr).drew.trans hb2d; have y0 : w2.cell? ⟨w.heap.size, 0, none⟩ = some (.int .u32 (st 0)) := (hb2.cell (p := ⟨w.heap.size, 0, none⟩) hH).trans x0; have y1 : w2.cell? ⟨w.heap.size, 1, none⟩ = some (.int .u32 (st 1)) := (hb2.cell (p := ⟨w.heap.size, 1, none⟩) hH).trans x1; have y2 : w2.cell? ⟨w.heap.size, 2, none⟩ = some (.int .u32 (st 2)) := (hb2.cell (p := ⟨w.heap.size, 2, none⟩) hH).trans x2; have y3 : w2.cell? ⟨w.heap.size, 3, none⟩ = some (.int .u32 (st 3)) := (hb2.cell (p := ⟨w.heap.size, 3, none⟩) hH).trans x3; have y4 : w2.cell? ⟨w.heap.size, 4, none⟩ = some (.int .u32 (st 4)) := (hb2.cell (p := ⟨w.heap.size, 4, none⟩) hH).trans x4; have y5 : w2.cell? ⟨w.heap.size, 5, none⟩ = some (.int .u32 (st 5)) := (hb2.cell (p := ⟨w.heap.size, 5, none⟩) hH).trans x5; have y6 : w2.cell? ⟨w.heap.size, 6, none⟩ = some (.int .u32 (st 6)) := (hb2.cell (p := ⟨w.heap.size, 6, none⟩) hH).trans x6; have y7 : w2.cell? ⟨w.heap.size, 7, none⟩ = some (.int .u32 (st 7)) := (hb2.cell (p := ⟨w.heap.size, 7, none⟩) hH).trans x7)
     | (go_at_call 130; rw [← cells8_eq st]; refine (mix_any st (W (blockB l k)) _ (uh hBd) (uh hW1) (by exact (uh hTw).below hb2 (Nat.le_refl _))).mono ?_; rintro e w3 ⟨rfl, hb3⟩; rw [← uh HS]; have hR3 := Hd (((uh hX').below hb2 hH).below hb3 (Nat.lt_of_lt_of_le hH hb2.size)); have q0 := (uh hR3 0 (by omega)).1; have z0 := (uh hR3 0 (by omega)).2; have q1 := (uh hR3 1 (by omega)).1; have z1 := (uh hR3 1 (by omega)).2; have q2 := (uh hR3 2 (by omega)).1; have z2 := (uh hR3 2 (by omega)).2; have q3 := (uh hR3 3 (by omega)).1; have z3 := (uh hR3 3 (by omega)).2; have q4 := (uh hR3 4 (by omega)).1; have z4 := (uh hR3 4 (by omega)).2; have q5 := (uh hR3 5 (by omega)).1; have z5 := (uh hR3 5 (by omega)).2; have q6 := (uh hR3 6 (by omega)).1; have z6 := (uh hR3 6 (by omega)).2; have q7 := (uh hR3 7 (by omega)).1; have z7 := (uh hR3 7 (by omega)).2; rw [cells8_eq (stAt l (k + 1))]))
    all_goals
     have hrow : Row32 _ _ 8 (stAt l (k + 1)) := (put8_row (uh hR3) (stAt l (k + 1) 0) (stAt l (k + 1) 1) (stAt l (k + 1) 2) (stAt l (k + 1) 3) (stAt l (k + 1) 4) (stAt l (k + 1) 5) (stAt l (k + 1) 6) (stAt l (k + 1) 7)).congr fun j hj => of8_eq _ j hj
     have hP3 := put8_other8 (((uh hP').below hb2 hg2).below hb3 (Nat.lt_of_lt_of_le hg2 hb2.size)) (show w.heap.size ≠ g by omega) (stAt l (k + 1) 0) (stAt l (k + 1) 1) (stAt l (k + 1) 2) (stAt l (k + 1) 3) (stAt l (k + 1) 4) (stAt l (k + 1) 5) (stAt l (k + 1) 6) (stAt l (k + 1) 7)
     have hb5 := put8_below (((uh hb').trans (hb2.mono (Nat.le_of_lt hH))).trans (hb3.mono (Nat.le_trans (Nat.le_of_lt hH) hb2.size))) (Nat.le_refl w.heap.size) (stAt l (k + 1) 0) (stAt l (k + 1) 1) (stAt l (k + 1) 2) (stAt l (k + 1) 3) (stAt l (k + 1) 4) (stAt l (k + 1) 5) (stAt l (k + 1) 6) (stAt l (k + 1) 7)
     have hg5 : g < w3.heap.size := Nat.lt_of_lt_of_le (Nat.lt_of_lt_of_le hg2 hb2.size) hb3.size
     have R := Hd (And.intro hrow (And.intro hP3 hb5))
     clear hrow hP3 hb5 q0 q1 q2 q3 q4 q5 q6 q7 z0 z1 z2 z3 z4 z5 z6 z7 y0 y1 y2 y3 y4 y5 y6 y7 x0 x1 x2 x3 x4 x5 x6 x7 hb2 hb3
     go_wp2_with fail
     refine ⟨⟨k + 1, by omega, by go_num, (uh R).1, (uh R).2.1, by simpa using hg5, (uh R).2.2⟩, ?_⟩
     simp [intOf]; omega
   ·obtain rfl : k = padLen l.length / 64 := by omega
    have hbd := stAt_lt l (padLen l.length / 64)
    generalize stAt l (padLen l.length / 64) = st at *
    have x0 := (hX 0 (by omega)).1
    have x1 := (hX 1 (by omega)).1
    have x2 := (hX 2 (by omega)).1
    have x3 := (hX 3 (by omega)).1
    have x4 := (hX 4 (by omega)).1
    have x5 := (hX 5 (by omega)).1
    have x6 := (hX 6 (by omega)).1
    have x7 := (hX 7 (by omega)).1
    have hb' := Hd hbel
    have hbd' := Hd hbd
    have hH : w.heap.size ≤ wr.heap.size := hbel.size
    have hge : (padLen l.length : Int) ≤ 64 * ((padLen l.length / 64 : Nat) : Int) := by have := uh HN; omega
    clear hX hP hbel hbd
    go_wp2_with fail
    rw [← cells8_eq st]
    refine (text_any st _ (uh hbd')).mono ?_
    rintro e w2 ⟨rfl, hb2⟩
    go_wp2_with fail
    go_ret
    exact ⟨by rw [uh H]; rfl, (uh hb').trans (hb2.mono hH)⟩
theorem kcells : (cells32 64 kW).toArray = #[Value.int IntKind.u32 1116352408, Value.int IntKind.u32 1899447441, Value.int IntKind.u32 3049323471, Value.int IntKind.u32 3921009573, Value.int IntKind.u32 961987163, Value.int IntKind.u32 1508970993, Value.int IntKind.u32 2453635748, Value.int IntKind.u32 2870763221, Value.int IntKind.u32 3624381080, Value.int IntKind.u32 310598401, Value.int IntKind.u32 607225278, Value.int IntKind.u32 1426881987, Value.int IntKind.u32 1925078388, Value.int IntKind.u32 2162078206, Value.int IntKind.u32 2614888103, Value.int IntKind.u32 3248222580, Value.int IntKind.u32 3835390401, Value.int IntKind.u32 4022224774, Value.int IntKind.u32 264347078, Value.int IntKind.u32 604807628, Value.int IntKind.u32 770255983, Value.int IntKind.u32 1249150122, Value.int IntKind.u32 1555081692, Value.int IntKind.u32 1996064986, Value.int IntKind.u32 2554220882, Value.int IntKind.u32 2821834349, Value.int IntKind.u32 2952996808, Value.int IntKind.u32 3210313671, Value.int IntKind.u32 3336571891, Value.int IntKind.u32 3584528711, Value.int IntKind.u32 113926993, Value.int IntKind.u32 338241895, Value.int IntKind.u32 666307205, Value.int IntKind.u32 773529912, Value.int IntKind.u32 1294757372, Value.int IntKind.u32 1396182291, Value.int IntKind.u32 1695183700, Value.int IntKind.u32 1986661051, Value.int IntKind.u32 2177026350, Value.int IntKind.u32 2456956037, Value.int IntKind.u32 2730485921, Value.int IntKind.u32 2820302411, Value.int IntKind.u32 3259730800, Value.int IntKind.u32 3345764771, Value.int IntKind.u32 3516065817, Value.int IntKind.u32 3600352804, Value.int IntKind.u32 4094571909, Value.int IntKind.u32 275423344, Value.int IntKind.u32 430227734, Value.int IntKind.u32 506948616, Value.int IntKind.u32 659060556, Value.int IntKind.u32 883997877, Value.int IntKind.u32 958139571, Value.int IntKind.u32 1322822218, Value.int IntKind.u32 1537002063, Value.int IntKind.u32 1747873779, Value.int IntKind.u32 1955562222, Value.int IntKind.u32 2024104815, Value.int IntKind.u32 2227730452, Value.int IntKind.u32 2361852424, Value.int IntKind.u32 2428436474, Value.int IntKind.u32 2756734187, Value.int IntKind.u32 3204031479, Value.int IntKind.u32 3329325298] := by kernel_rfl
theorem consts_any (w : World) :
  Calls Tryz.prog 113 #[] w fun e w' => e = .returned (.slice (some ⟨w.heap.size, 0, none⟩) 64 64) ∧ Row32 w' w.heap.size 64 kW ∧ w.heap.size < w'.heap.size ∧ Below w.heap.size w w' := by
 have hrow := Hd (row_box w 64 kW 167 w.heap.size rfl)
 rw [kcells] at hrow
 go_enter Tryz.func113, Tryz.ntmps113
 go_wp2_with fail
 go_ret
 exact ⟨rfl, uh hrow, by simp, (Below.refl _ _).alloc (Nat.le_refl _) _⟩

theorem info32 : (Tryz.prog.info? 167).map (fun i => (i.zero, i.size, i.bytes)) = some (some (.int .u32 0), 1, 4) := by kernel_rfl
theorem made32 {w w1 : World} {n : Nat} (h : w1.ownsRow w.heap.size 167 1 (.slice (some ⟨w.heap.size, 0, none⟩) n n) n (madeCells (Value.int .u32 0).cells (n * 1)).toList) : Row32 w1 w.heap.size n (fun _ => 0) := by
 intro j hj
 refine ⟨?_, h.frozenAt j⟩
 rw [h.cellAt j (by omega)]
 have e : (Value.int IntKind.u32 0).cells = #[Value.int IntKind.u32 0] := rfl
 rw [e, Nat.mul_one, toList_madeCells_one]
 simp [hj]
theorem wbE {x : Nat} (h : x < 4294967296) : bits BinOp.xor IntKind.u32 (bits BinOp.xor IntKind.u32 ((rotr x 6 : Nat) : Int) ((rotr x 11 : Nat) : Int)) ((rotr x 25 : Nat) : Int) = ((bE x : Nat) : Int) := xor3 (rotr_lt h 6) (rotr_lt h 11) (rotr_lt h 25)
theorem wbA {x : Nat} (h : x < 4294967296) : bits BinOp.xor IntKind.u32 (bits BinOp.xor IntKind.u32 ((rotr x 2 : Nat) : Int) ((rotr x 13 : Nat) : Int)) ((rotr x 22 : Nat) : Int) = ((bA x : Nat) : Int) := xor3 (rotr_lt h 2) (rotr_lt h 13) (rotr_lt h 22)
theorem wS0 {x : Nat} (h : x < 4294967296) : bits BinOp.xor IntKind.u32 (bits BinOp.xor IntKind.u32 ((rotr x 7 : Nat) : Int) ((rotr x 18 : Nat) : Int)) ((x : Int) / 8) = ((s0 x : Nat) : Int) := xor3 (rotr_lt h 7) (rotr_lt h 18) (div_lt h 8)
theorem wS1 {x : Nat} (h : x < 4294967296) : bits BinOp.xor IntKind.u32 (bits BinOp.xor IntKind.u32 ((rotr x 17 : Nat) : Int) ((rotr x 19 : Nat) : Int)) ((x : Int) / 1024) = ((s1 x : Nat) : Int) := xor3 (rotr_lt h 17) (rotr_lt h 19) (div_lt h 1024)
theorem add4 (a b c d : Nat) : ((a : Int) + (b : Int) + (c : Int) + (d : Int)) % 4294967296 = ((add (add (add a b) c) d : Nat) : Int) := by unfold add; omega
theorem rowSrc {w wr : World} {hb n : Nat} {f : Nat → Nat} {o : Obj} (h : Row32 wr hb n f) (hlt : hb < w.heap.size) (hbel : Below w.heap.size w wr) : ∀ j u, (cells32 n f)[j]? = some u → (wr.alloc o).cell? ((⟨hb, 0, none⟩ : Addr).add j) = some u := by
 intro j u hu
 have hj : j < n := by have := (List.getElem?_eq_some_iff.1 hu).1; rwa [cells32_len] at this
 rw [show (⟨hb, 0, none⟩ : Addr).add j = ⟨hb, j, none⟩ by unfold Addr.add; split <;> simp_all]
 rw [World.cell?_alloc_lt _ _ _ (Nat.lt_of_lt_of_le hlt hbel.size), (h j hj).1, ← hu]
 simp [cells32, hj]
theorem wch' {e f g : Nat} (h : e < 4294967296) (h2 : f < 4294967296) (h3 : g < 4294967296) :
  bits BinOp.xor IntKind.u32 (bits BinOp.and IntKind.u32 (e : Int) (f : Int)) (bits BinOp.and IntKind.u32 (bits BinOp.xor IntKind.u32 IntKind.u32.max (e : Int)) (g : Int)) = ((ch e f g : Nat) : Int) := by
 rw [wnot h, wand h h2, wand (not_lt h) h3, wxor (and_lt h) (and_lt (not_lt h)), ch_xor f g h]
theorem wmaj' {a b c : Nat} (h : a < 4294967296) (h2 : b < 4294967296) (h3 : c < 4294967296) :
  bits BinOp.xor IntKind.u32 (bits BinOp.xor IntKind.u32 (bits BinOp.and IntKind.u32 (a : Int) (b : Int)) (bits BinOp.and IntKind.u32 (a : Int) (c : Int))) (bits BinOp.and IntKind.u32 (b : Int) (c : Int)) = ((maj a b c : Nat) : Int) := by
 rw [wand h h2, wand h h3, wand h2 h3, wxor (and_lt h) (and_lt h), wxor (xor_lt (and_lt h) (and_lt h)) (and_lt h2), maj_xor]
theorem own_row32 {w : World} {base e n : Nat} {v : Value} {f : Nat → Nat} (h : w.ownsRow base e 1 v n (cells32 n f)) (hn : 0 < n) : ∃ g cap, v = .slice (some ⟨g, 0, none⟩) n cap ∧ base ≤ g ∧ g < w.heap.size ∧ Row32 w g n f := by
 rcases h.2 with ⟨_, h0⟩ | ⟨g, cap, cur, rfl, hb, hg, _, _, _, _⟩
 ·omega
 ·refine ⟨g, cap, rfl, hb, (h.lt g rfl).2, fun j hj => ⟨?_, h.frozenAt j⟩⟩
  rw [h.cellAt j (by omega)]
  simp [cells32, hj]
theorem drew_rows {w wr wq : World} {gv hb kb wb B : Nat} {st s f : Nat → Nat} (e : wr.drew = wq) (h1 : Row32 wr gv 8 st) (h2 : Row32 wr wb 64 f) (h3 : Row32 wr hb 8 s) (h4 : Row32 wr kb 64 kW) (h5 : Below B w wr) :
  Row32 wq gv 8 st ∧ Row32 wq wb 64 f ∧ Row32 wq hb 8 s ∧ Row32 wq kb 64 kW ∧ Below B w wq := by
 subst e
 exact ⟨h1, h2, h3, h4, h5.drew⟩
theorem rnd_arr (K Wt : Nat) (s : Nat → Nat) : (cells32 8 (rnd K Wt s)).toArray = #[.int .u32 (add (tT K Wt s) (tU s)), .int .u32 (s 0), .int .u32 (s 1), .int .u32 (s 2), .int .u32 (add (s 3) (tT K Wt s)), .int .u32 (s 4), .int .u32 (s 5), .int .u32 (s 6)] := rfl
theorem grown_set {w wr : World} {hb k : Nat} {v : Value} (h : w.grownBy wr (some hb)) : w.grownBy (wr.setCell ⟨hb, k, none⟩ v) (some hb) :=
 ⟨h.os, h.tape, h.output, by simpa using h.size, fun b hb' hne => (heap_setCell_other wr ⟨hb, k, none⟩ b v (fun e => hne (by simp [e]))).trans (h.block b hb' hne)⟩
theorem grown_drew {w wr : World} {r : Option Nat} (h : w.grownBy wr r) : w.grownBy wr.drew r := ⟨h.os, h.tape, h.output, h.size, h.block⟩
theorem grown_of_below {w w' : World} (h : Below w.heap.size w w') (r : Option Nat) : w.grownBy w' r := ⟨h.os, h.tape, h.output, h.size, fun k hk _ => h.block k hk⟩

theorem block_any (hb g off capb kb : Nat) (s : Nat → Nat) (B : Nat → Int) (w : World) (hs : ∀ j, s j < 4294967296) (hB0 : ∀ i, 0 ≤ B i) (hB1 : ∀ i, B i ≤ 255)
  (hrow : Row32 w hb 8 s) (hk : Row32 w kb 64 kW) (hby : ∀ i, i < 64 → w.cell? ⟨g, off + i, none⟩ = some (.int .u8 (B i))) (h1 : hb < w.heap.size) (h2 : g < w.heap.size) (h3 : kb < w.heap.size) :
  Calls Tryz.prog 114 #[.slice (some ⟨hb, 0, none⟩) 8 8, .slice (some ⟨g, off, none⟩) 64 capb, .slice (some ⟨kb, 0, none⟩) 64 64] w fun e w' => e = .returned (.tuple #[]) ∧ Row32 w' hb 8 (after (W B) s) ∧ w.grownBy w' (some hb) := by
 obtain ⟨i0, hi, hz0, hz1, hz2⟩ := info_parts info32
 have HS := Hd hs
 have H0 := Hd hB0
 have H1 := Hd hB1
 have HR := Hd hrow
 have HK := Hd hk
 have HY := Hd hby
 clear hs hB0 hB1 hrow hk hby
 go_enter Tryz.func114, Tryz.ntmps114
 go_wp2_with (at_make; refine wpList_make_full _ rfl _ _ 168 rfl w.heap.size 167 i0 _ 1 Tryz.underlying168 hi hz0 hz1 .i64 .i64 64 64 64 rfl rfl rfl rfl (by rw [hz2]; omega) (by unfold maxLen; omega) (Nat.le_refl _) ?_; intro w1 hown1 hg1)
 have hrow0 := Hd (made32 hown1)
 have hbel0 := Hd (made_below hg1)
 have hsz0 := (hown1.lt w.heap.size rfl).2
 clear hown1 hg1
 go_loopw [7] (fun i wr => ∃ k : Nat, k ≤ 16 ∧ i = .int .i64 k ∧ Row32 wr w.heap.size 64 (upTo k (W B)) ∧ w.heap.size < wr.heap.size ∧ Below w.heap.size w wr)
  (fun i _ => 16 - (intOf i).toNat)
 case atStart => exact ⟨0, Nat.zero_le _, rfl, (uh hrow0).congr (fun j _ => rfl), hsz0, uh hbel0⟩
 case round =>
  clear hrow0 hbel0 hsz0
  obtain ⟨k, hk, rfl, hX, hsz, hbel⟩ := hrel
  by_cases hlt : k < 16
  ·have hcl : ∀ i, i < 64 → wr.cell? ⟨g, off + i, none⟩ = some (.int .u8 (B i)) := fun i hi => (hbel.cell (p := ⟨g, off + i, none⟩) h2).trans (uh HY i hi)
   have e0 := hcl (4 * k) (by omega)
   have e1 := hcl (4 * k + 1) (by omega)
   have e2 := hcl (4 * k + 2) (by omega)
   have e3 := hcl (4 * k + 3) (by omega)
   have l0 := uh H0 (4 * k)
   have g0 := uh H1 (4 * k)
   have l1 := uh H0 (4 * k + 1)
   have g1 := uh H1 (4 * k + 1)
   have l2 := uh H0 (4 * k + 2)
   have g2 := uh H1 (4 * k + 2)
   have l3 := uh H0 (4 * k + 3)
   have g3 := uh H1 (4 * k + 3)
   have hgk := (hX k (by omega)).1
   have hgf := (hX k (by omega)).2
   have HX := Hd hX
   have HB := Hd hbel
   have HW := Hd (W_lo B hlt)
   have hk0 : (0 : Int) ≤ (k : Int) := by omega
   have hk1 : (k : Int) < 64 := by omega
   have a0 : (0 : Int) ≤ 4 * (k : Int) := by omega
   have a1 : 4 * (k : Int) < 64 := by omega
   have a2 : 4 * (k : Int) + 1 < 64 := by omega
   have a3 : 4 * (k : Int) + 2 < 64 := by omega
   have a4 : 4 * (k : Int) + 3 < 64 := by omega
   clear hX hbel hcl
   go_wp2_with fail
   go_region
   go_wp2_with fail
   rw [wwd l0 g0 l1 g1 l2 g2 l3 g3, ← uh HW]
   refine ⟨⟨k + 1, by omega, by go_num, (uh HX).step, by simpa using hsz, ((uh HB).setCell (by simp) _).drew⟩, ?_⟩
   simp [intOf]; omega
  ·obtain rfl : k = 16 := by omega
   go_wp2_with fail
   go_loopw [8, 9, 10] (fun i _ _ wr => ∃ k : Nat, k ≤ 48 ∧ i = .int .i64 ((k : Int) + 16) ∧ Row32 wr w.heap.size 64 (upTo (k + 16) (W B)) ∧ w.heap.size < wr.heap.size ∧ Below w.heap.size w wr)
    (fun i _ _ _ => 64 - (intOf i).toNat)
   case atStart => exact ⟨0, Nat.zero_le _, rfl, hX, hsz, hbel⟩
   case round =>
    clear hX hbel hsz
    obtain ⟨k, hk, rfl, hX, hsz, hbel⟩ := hrel
    by_cases hlt : k < 48
    ·have e1 := (hX k (by omega)).1
     have e2 := (hX (k + 1) (by omega)).1
     have e3 := (hX (k + 9) (by omega)).1
     have e4 := (hX (k + 14) (by omega)).1
     rw [upTo_in _ (by omega)] at e1 e2 e3 e4
     have hgk := (hX (k + 16) (by omega)).1
     have hgf := (hX (k + 16) (by omega)).2
     have HX := Hd hX
     have HB := Hd hbel
     have HW : Hid (W B (k + 16) = add (add (add (W B k) (s0 (W B (k + 1)))) (W B (k + 9))) (s1 (W B (k + 14)))) := by
      have h := W_hi B (i := k + 16) (by omega)
      rw [show k + 16 - 16 = k by omega, show k + 16 - 15 = k + 1 by omega, show k + 16 - 7 = k + 9 by omega, show k + 16 - 2 = k + 14 by omega] at h
      exact h
     have l1 := W_lt B (uh H1) k
     have l2 := W_lt B (uh H1) (k + 1)
     have l3 := W_lt B (uh H1) (k + 9)
     have l4 := W_lt B (uh H1) (k + 14)
     have hk0 : (0 : Int) ≤ (k : Int) := by omega
     have hk1 : (k : Int) + 16 < 64 := by omega
     have t2 : ((k : Int) + 1).toNat = k + 1 := by omega
     have t3 : ((k : Int) + 9).toNat = k + 9 := by omega
     have t4 : ((k : Int) + 14).toNat = k + 14 := by omega
     have t5 : ((k : Int) + 16).toNat = k + 16 := by omega
     have k1 : (k : Int) < 64 := by omega
     have n2 : (0 : Int) ≤ (k : Int) + 1 := by omega
     have n3 : (0 : Int) ≤ (k : Int) + 9 := by omega
     have n4 : (0 : Int) ≤ (k : Int) + 14 := by omega
     have n5 : (0 : Int) ≤ (k : Int) + 16 := by omega
     have k2 : (k : Int) + 1 < 64 := by omega
     have k3 : (k : Int) + 9 < 64 := by omega
     have k4 : (k : Int) + 14 < 64 := by omega
     have m1 : IntKind.i64.wrap (k : Int) = (k : Int) := wrap_small _ (by omega) (by omega)
     have m2 : IntKind.i64.wrap ((k : Int) + 16 - 15) = (k : Int) + 1 := by rw [show (k : Int) + 16 - 15 = (k : Int) + 1 by omega]; exact wrap_small _ (by omega) (by omega)
     have m3 : IntKind.i64.wrap ((k : Int) + 16 - 7) = (k : Int) + 9 := by rw [show (k : Int) + 16 - 7 = (k : Int) + 9 by omega]; exact wrap_small _ (by omega) (by omega)
     have m4 : IntKind.i64.wrap ((k : Int) + 16 - 2) = (k : Int) + 14 := by rw [show (k : Int) + 16 - 2 = (k : Int) + 14 by omega]; exact wrap_small _ (by omega) (by omega)
     have s2 : (k : Int) + 16 - 15 = (k : Int) + 1 := by omega
     have s4 : (k : Int) + 16 - 2 = (k : Int) + 14 := by omega
     clear hX hbel
     go_wp2_with fail
     clear s2 s4
     refine wp_region_still_tail 32 (by kernel_rfl) (by kernel_rfl) ?_
     simp only [List.take_succ_cons, List.take_zero, List.drop_succ_cons, List.drop_zero]
     iterate 8 still_step
     still_call (l01Turn_any _ 7 _ l2 (by omega) (by omega))
     still_step
     still_call (l01Turn_any _ 18 _ l2 (by omega) (by omega))
     iterate 12 still_step
     still_call (l01Turn_any _ 17 _ l4 (by omega) (by omega))
     still_step
     still_call (l01Turn_any _ 19 _ l4 (by omega) (by omega))
     iterate 6 still_step
     refine wpStill_nil ?_
     go_wp2_with fail
     refine ⟨?_, ?_⟩
     ·repeat (apply Exists.intro)
      refine ⟨?_, rfl⟩
      rw [wS0 l2, wS1 l4, add4, ← uh HW]
      exact ⟨k + 1, by omega, by go_num, by rw [show k + 1 + 16 = k + 16 + 1 by omega]; exact (uh HX).step, by simpa using hsz, ((uh HB).setCell (by simp) _).drew⟩
     ·simp [intOf]; omega
    ·obtain rfl : k = 48 := by omega
     have hXW : Row32 wr w.heap.size 64 (W B) := hX.congr fun j hj => upTo_in _ (by omega)
     have hrs := (uh HR).below hbel h1
     have hrk := (uh HK).below hbel h3
     have HXW := Hd hXW
     have HRS := Hd hrs
     have HRK := Hd hrk
     have HB := Hd hbel
     clear hX hXW hrs hrk hbel
     go_wp2_with (at_builtin; refine wpList_append_own _ rfl _ _ 168 rfl (w.heap.size + 1) 167 i0 (.int .u32 0) 1 4 Tryz.underlying168 hi hz0 hz1 hz2 rfl (by decide) _ _ _ rfl (World.ownsRow_made wr #[] 0 (by omega) (by unfold maxLen; omega) rfl) ⟨hb, 0, none⟩ 8 8 (cells32 8 s) rfl (cells32_len 8 s) (rowSrc (uh HRS) h1 (uh HB)) (cells32_one 8 s) (by unfold maxLen; omega) (by omega) (by simp; omega) ?_; intro v' w3 hown1 hgrow hnil)
     have hb3 : Below wr.heap.size wr w3 := ((Below.refl _ _).alloc (Nat.le_refl _) _).grown hgrow (by simp) (fun k hk => by cases hk; exact Nat.le_refl _)
     obtain ⟨gv, capv, rfl, hgv, hgv2, hrv⟩ := own_row32 hown1 (by omega)
     have Z := Hd (And.intro hrv (And.intro ((uh HXW).below hb3 hsz) (And.intro ((uh HRS).below hb3 (by omega)) (And.intro ((uh HRK).below hb3 (by omega)) ((uh HB).trans (hb3.mono (by omega)))))))
     clear hown1 hgrow hnil hrv hb3 HXW HRS HRK HB
     go_wp2_with fail
     go_loopw [11, 12, 13, 14, 15, 16] (fun v i _ _ _ _ wr => ∃ k gv cap : Nat, k ≤ 64 ∧ i = .int .i64 k ∧ v = .slice (some ⟨gv, 0, none⟩) 8 cap ∧ w.heap.size < gv ∧ gv < wr.heap.size ∧ Row32 wr gv 8 (rounds (W B) s k) ∧ Row32 wr w.heap.size 64 (W B) ∧ Row32 wr hb 8 s ∧ Row32 wr kb 64 kW ∧ Below w.heap.size w wr)
      (fun _ i _ _ _ _ _ => 64 - (intOf i).toNat)
     case atStart => exact ⟨0, gv, capv, Nat.zero_le _, rfl, rfl, by omega, hgv2, (uh Z).1, (uh Z).2.1, (uh Z).2.2.1, (uh Z).2.2.2.1, (uh Z).2.2.2.2⟩
     case round =>
      clear Z hgv hgv2 hsz
      obtain ⟨k, gv, cap, hk, rfl, rfl, hgv, hgv2, hV, hXW, hrs, hrk, hbel⟩ := hrel
      by_cases hlt : k < 64
      ·have hbd := rounds_lt (f := W B) (uh HS) k
       have HN : Hid (rounds (W B) s (k + 1) = rnd (kW k) (W B k) (rounds (W B) s k)) := rfl
       generalize rounds (W B) s k = st at *
       have x0 := (hV 0 (by omega)).1
       have x1 := (hV 1 (by omega)).1
       have x2 := (hV 2 (by omega)).1
       have x3 := (hV 3 (by omega)).1
       have x4 := (hV 4 (by omega)).1
       have x5 := (hV 5 (by omega)).1
       have x6 := (hV 6 (by omega)).1
       have x7 := (hV 7 (by omega)).1
       have xk := (hrk k hlt).1
       have xf := (hXW k hlt).1
       have b0 := hbd 0
       have b1 := hbd 1
       have b2 := hbd 2
       have b4 := hbd 4
       have b5 := hbd 5
       have b6 := hbd 6
       have qE := wbE b4
       have qC := wch' b4 b5 b6
       have qA := wbA b0
       have qM := wmaj' b0 b1 b2
       have p1 := uadd (st 7) (bE (st 4))
       have p2 := uadd (add (st 7) (bE (st 4))) (ch (st 4) (st 5) (st 6))
       have p3 := uadd (add (add (st 7) (bE (st 4))) (ch (st 4) (st 5) (st 6))) (kW k)
       have p4 : IntKind.u32.wrap (((add (add (add (st 7) (bE (st 4))) (ch (st 4) (st 5) (st 6))) (kW k) : Nat) : Int) + ((W B k : Nat) : Int)) = ((tT (kW k) (W B k) st : Nat) : Int) := uadd _ _
       have p5 : IntKind.u32.wrap (((bA (st 0) : Nat) : Int) + ((maj (st 0) (st 1) (st 2) : Nat) : Int)) = ((tU st : Nat) : Int) := uadd _ _
       have Z := Hd (And.intro hV (And.intro hXW (And.intro hrs (And.intro hrk hbel))))
       have hk0 : (0 : Int) ≤ (k : Int) := by omega
       have hk1 : (k : Int) < 64 := by omega
       clear hV hXW hrs hrk hbel hbd
       go_wp2_with fail
       refine wp_region_still_lit (by kernel_rfl) (by kernel_rfl) ?_
       iterate 4 still_step
       still_call (l01Turn_any _ 6 _ b4 (by omega) (by omega))
       still_step
       still_call (l01Turn_any _ 11 _ b4 (by omega) (by omega))
       iterate 2 still_step
       still_call (l01Turn_any _ 25 _ b4 (by omega) (by omega))
       iterate 26 still_step
       refine wpStill_nil ?_
       go_wp2_with fail
       generalize hP : tT (kW k) (W B k) st = tp at *
       have HP := Hd hP
       clear hP p1 p2 p3 p4 qE qC
       generalize hwq : wr.drew = wq
       have y := drew_rows hwq (uh Z).1 (uh Z).2.1 (uh Z).2.2.1 (uh Z).2.2.2.1 (uh Z).2.2.2.2
       have hgq : gv < wq.heap.size := by rw [← hwq]; exact hgv2
       clear hwq Z x0 x1 x2 x3 x4 x5 x6 x7 xk xf hgv2
       have x0 := (y.1 0 (by omega)).1
       have x1 := (y.1 1 (by omega)).1
       have x2 := (y.1 2 (by omega)).1
       have x3 := (y.1 3 (by omega)).1
       have x4 := (y.1 4 (by omega)).1
       have x5 := (y.1 5 (by omega)).1
       have x6 := (y.1 6 (by omega)).1
       have Z := Hd y
       clear y
       refine wp_region_still_lit (by kernel_rfl) (by kernel_rfl) ?_
       still_step
       still_call (l01Turn_any _ 2 _ b0 (by omega) (by omega))
       still_step
       still_call (l01Turn_any _ 13 _ b0 (by omega) (by omega))
       iterate 2 still_step
       still_call (l01Turn_any _ 22 _ b0 (by omega) (by omega))
       iterate 22 still_step
       refine wpStill_nil ?_
       go_wp2_with fail
       generalize hQ : tU st = tq at *
       have HQ := Hd hQ
       clear hQ p5 qA qM
       have p6 := uadd tp tq
       have p7 := uadd (st 3) tp
       generalize hwp : ({ wq with drawn := wq.drawn + 1 } : World) = wp
       have y := drew_rows (show wq.drew = wp from hwp) (uh Z).1 (uh Z).2.1 (uh Z).2.2.1 (uh Z).2.2.2.1 (uh Z).2.2.2.2
       have hgp : gv < wp.heap.size := by rw [← hwp]; exact hgq
       clear hwp Z x0 x1 x2 x3 x4 x5 x6 hgq
       have x0 := (y.1 0 (by omega)).1
       have x1 := (y.1 1 (by omega)).1
       have x2 := (y.1 2 (by omega)).1
       have x3 := (y.1 3 (by omega)).1
       have x4 := (y.1 4 (by omega)).1
       have x5 := (y.1 5 (by omega)).1
       have x6 := (y.1 6 (by omega)).1
       have Z := Hd y
       clear y
       refine wp_region_still_tail 26 (by kernel_rfl) (by kernel_rfl) ?_
       simp only [List.take_succ_cons, List.take_zero, List.drop_succ_cons, List.drop_zero]
       iterate 26 still_step
       refine wpStill_nil ?_
       go_wp2_with fail
       refine ⟨?_, ?_⟩
       ·repeat (apply Exists.intro)
        refine ⟨?_, rfl⟩
        have hnew := row_box wp 8 (rnd (kW k) (W B k) st) 167 wp.heap.size rfl
        rw [rnd_arr, uh HP, uh HQ, ← uh HN] at hnew
        have hsz := (uh Z).2.2.2.2.size
        refine ⟨k + 1, wp.heap.size, 8, by omega, by go_num, rfl, by omega, by simp, hnew, (uh Z).2.1.alloc (by omega) _ _, (uh Z).2.2.1.alloc (by omega) _ _, (uh Z).2.2.2.1.alloc (by omega) _ _, ((uh Z).2.2.2.2.alloc (by omega) _).drew⟩
       ·simp [intOf]; omega
      ·obtain rfl : k = 64 := by omega
       have HN : Hid (∀ j, after (W B) s j = add (rounds (W B) s 64 j) (s j)) := fun _ => rfl
       have hne : gv ≠ hb := by omega
       generalize rounds (W B) s 64 = st at *
       have hgr := grown_of_below hbel (some hb)
       go_wp2_with fail
       go_loopw [17] (fun i wr => ∃ k : Nat, k ≤ 8 ∧ i = .int .i64 k ∧ Row32 wr hb 8 (addTo s st k) ∧ Row32 wr gv 8 st ∧ w.grownBy wr (some hb))
        (fun i _ => 8 - (intOf i).toNat)
       case atStart => exact ⟨0, Nat.zero_le _, rfl, hrs.congr (fun j _ => (addTo_zero s st j).symm), hV, hgr⟩
       case round =>
        clear hV hXW hrs hrk hbel hgr
        obtain ⟨k, hk, rfl, hX, hV, hgr⟩ := hrel
        by_cases hlt : k < 8
        ·have x1 := (hX k hlt).1
         have x2 := (hV k hlt).1
         have z1 := (hX k hlt).2
         rw [addTo_at] at x1
         have Z := Hd (And.intro hX (And.intro hV hgr))
         have hk0 : (0 : Int) ≤ (k : Int) := by omega
         have hk1 : (k : Int) < 8 := by omega
         have p1 := uadd (s k) (st k)
         clear hX hV hgr
         go_wp2_with fail
         refine wp_region_still_tail 10 (by kernel_rfl) (by kernel_rfl) ?_
         simp only [List.take_succ_cons, List.take_zero, List.drop_succ_cons, List.drop_zero]
         iterate 10 still_step
         refine wpStill_nil ?_
         go_wp2_with fail
         have hst : Row32 _ _ 8 (addTo s st (k + 1)) := ((uh Z).1.set k (add (s k) (st k))).congr fun j _ => addTo_step s st k j
         refine ⟨?_, ?_⟩
         ·repeat (apply Exists.intro)
          refine ⟨?_, rfl⟩
          exact ⟨k + 1, by omega, by go_num, hst, (uh Z).2.1.other (a := ⟨hb, k, none⟩) (by simp; omega) _, grown_set (grown_drew (uh Z).2.2)⟩
         ·simp [intOf]; omega
        ·obtain rfl : k = 8 := by omega
         have Z := Hd (And.intro (hX.congr (g := after (W B) s) fun j hj => by rw [uh HN j, addTo_in s st hj, add_comm]) hgr)
         clear hX hV hgr
         go_wp2_with fail
         go_end0
         exact ⟨rfl, (uh Z).1, (uh Z).2⟩
def padL (l : List Int) (m : Nat) : List Int := (List.range m).map (padAt l)
theorem padL_succ (l : List Int) (m : Nat) : padL l (m + 1) = padL l m ++ [padAt l m] := by simp [padL, List.range_succ]
theorem padL_msg (l : List Int) : padL l l.length = l := by
 apply List.ext_getElem?
 intro i
 by_cases h : i < l.length
 ·simp only [padL, List.getElem?_map, List.getElem?_range h, Option.map_some]
  unfold padAt padK
  rw [if_pos h]
  simp [List.getD, h]
 ·rw [List.getElem?_eq_none (by simp [padL]; omega), List.getElem?_eq_none (by omega)]
theorem padAt_mark (l : List Int) : padAt l l.length = 128 := by unfold padAt padK; rw [if_neg (by omega), if_pos rfl]
theorem padAt_zero (l : List Int) {m : Nat} (h : l.length < m) (h2 : m < padLen l.length - 8) : padAt l m = 0 := by
 unfold padAt padK; rw [if_neg (by omega), if_neg (by omega), if_neg (by omega)]
theorem padAt_tail (l : List Int) {j : Nat} (hj : j < 8) : padAt l (padLen l.length - 8 + j) = lenByte l.length (7 - j) := by
 have := padLen_ge l.length
 unfold padAt padK
 rw [if_neg (by omega), if_neg (by omega), if_pos (by omega)]
 rw [show padLen l.length - 1 - (padLen l.length - 8 + j) = 7 - j by omega]
def lenOf : Value → Nat
 | .slice _ n _ => n
 | _ => 0
theorem own_len {w : World} {base e : Nat} {v : Value} {n : Nat} {xs : List Value} (h : w.ownsRow base e 1 v n xs) : lenOf v = n := by
 rcases h.2 with ⟨rfl, rfl⟩ | ⟨g, cap, cur, rfl, _⟩ <;> rfl
theorem own_shape {w : World} {base e : Nat} {v : Value} {n : Nat} {xs : List Value} (h : w.ownsRow base e 1 v n xs) : ∃ a cap, v = .slice a n cap := by
 rcases h.2 with ⟨rfl, rfl⟩ | ⟨g, cap, cur, rfl, _⟩
 ·exact ⟨none, 0, rfl⟩
 ·exact ⟨_, cap, rfl⟩
theorem own_row8 {w : World} {base n : Nat} {v : Value} {l : List Int} (h : w.ownsRow base 5 1 v n ((padL l n).map (Value.int .u8))) (hn : 0 < n) : ∃ g cap, v = .slice (some ⟨g, 0, none⟩) n cap ∧ n ≤ cap ∧ base ≤ g ∧ g < w.heap.size ∧ Row8 w g n (padAt l) := by
 rcases h.2 with ⟨_, h0⟩ | ⟨g, cap, cur, rfl, hb, hg, hnc, _, _, _⟩
 ·omega
 ·refine ⟨g, cap, rfl, hnc, hb, (h.lt g rfl).2, fun j hj => ⟨?_, h.frozenAt j⟩⟩
  rw [h.cellAt j (by omega)]
  simp [padL, hj]
theorem owns_made {base e : Nat} (w : World) (b : Nat) (hb : b = w.heap.size) (hB : base ≤ w.heap.size) : (w.alloc (.cells #[] e)).ownsRow base e 1 (.slice (some ⟨b, 0, none⟩) 0 0) 0 [] := by
 subst hb
 exact World.ownsRow_made w #[] 0 hB (by unfold maxLen; omega) rfl
theorem icells : (cells32 8 iW).toArray = #[Value.int IntKind.u32 1779033703, Value.int IntKind.u32 3144134277, Value.int IntKind.u32 1013904242, Value.int IntKind.u32 2773480762, Value.int IntKind.u32 1359893119, Value.int IntKind.u32 2600822924, Value.int IntKind.u32 528734635, Value.int IntKind.u32 1541459225] := by kernel_rfl
theorem srcBytes {w w0 : World} {ad : Addr} {l : List Int} (hc : l.length = 0 ∨ ∃ b off, some ad = some (⟨b, off, none⟩ : Addr) ∧ b < w.heap.size ∧ ∀ i, i < l.length → w.cell? ⟨b, off + i, none⟩ = some (.int .u8 (l.getD i 0))) (hb : Below w.heap.size w w0) :
  ∀ j u, (l.map (Value.int .u8))[j]? = some u → w0.cell? (ad.add j) = some u := by
 intro j u hu
 have hj : j < l.length := by have := (List.getElem?_eq_some_iff.1 hu).1; simpa using this
 rcases hc with h | ⟨b, off, e, hblk, hcell⟩
 ·omega
 ·cases e
  rw [show (⟨b, off, none⟩ : Addr).add j = ⟨b, off + j, none⟩ by unfold Addr.add; split <;> simp_all]
  rw [hb.cell (p := ⟨b, off + j, none⟩) hblk, hcell j hj, ← hu]
  simp [List.getD, hj]
theorem Row8.grown {w w' : World} {b n : Nat} {f : Nat → Int} {r : Option Nat} (h : Row8 w b n f) (hg : w.grownBy w' r) (hb : b < w.heap.size) (hr : some b ≠ r) : Row8 w' b n f := fun j hj => by
 rw [hg.cell_far ⟨b, j, none⟩ hb hr, hg.frozen_far ⟨b, j, none⟩ hb hr]; exact h j hj
theorem Row32.grown {w w' : World} {b n : Nat} {f : Nat → Nat} {r : Option Nat} (h : Row32 w b n f) (hg : w.grownBy w' r) (hb : b < w.heap.size) (hr : some b ≠ r) : Row32 w' b n f := fun j hj => by
 rw [hg.cell_far ⟨b, j, none⟩ hb hr, hg.frozen_far ⟨b, j, none⟩ hb hr]; exact h j hj
theorem far_ne {w : World} {base e b : Nat} {v : Value} {n : Nat} {xs : List Value} (h : w.ownsRow base e 1 v n xs) (hb : b < base) : some b ≠ v.ownBlock := fun q => by
 have := (h.lt b q.symm).1; omega
theorem wrap8 (x : Int) : IntKind.u8.wrap x = x % 256 := by simp [IntKind.wrap, IntKind.bits, IntKind.signed]
theorem byteOf_at (s : Nat → Nat) (k i : Nat) (hi : i < 4) : byteOf s (4 * k + i) = ((s k : Nat) : Int) / 2 ^ (24 - 8 * i) % 256 := by
 unfold byteOf
 rw [show (4 * k + i) / 4 = k by omega, show (4 * k + i) % 4 = i by omega]
theorem text_step {w : World} {base g cap k : Nat} {s : Nat → Nat}
  (h : w.ownsRow base 5 1 (.slice (some ⟨g, 0, none⟩) (4 * k + 4) cap) (4 * k + 4) (((List.range (4 * k)).map (byteOf s)).map (Value.int .u8) ++ [.int .u8 (IntKind.u8.wrap (((s k : Nat) : Int) / 16777216)), .int .u8 (IntKind.u8.wrap (((s k : Nat) : Int) / 65536)), .int .u8 (IntKind.u8.wrap (((s k : Nat) : Int) / 256)), .int .u8 (IntKind.u8.wrap ((s k : Nat) : Int))])) :
  w.ownsRow base 5 1 (.slice (some ⟨g, 0, none⟩) (4 * k + 4) cap) (4 * (k + 1)) (((List.range (4 * (k + 1))).map (byteOf s)).map (Value.int .u8)) := by
 have b0 := byteOf_at s k 0 (by omega)
 have b1 := byteOf_at s k 1 (by omega)
 have b2 := byteOf_at s k 2 (by omega)
 have b3 := byteOf_at s k 3 (by omega)
 rw [Nat.add_zero] at b0
 have e : List.range (4 * (k + 1)) = List.range (4 * k) ++ [4 * k, 4 * k + 1, 4 * k + 2, 4 * k + 3] := by
  rw [show 4 * (k + 1) = 4 * k + 1 + 1 + 1 + 1 by omega, List.range_succ, List.range_succ, List.range_succ, List.range_succ]; simp
 rw [wrap8, wrap8, wrap8, wrap8] at h
 rw [e, show 4 * (k + 1) = 4 * k + 4 by omega, List.map_append, List.map_append]
 simp only [List.map_cons, List.map_nil, b0, b1, b2, b3]
 simpa using h
theorem l01Hash_any (ad : Addr) (cap : Nat) (l : List Int) (w : World) (h : Bytes w (.slice (some ad) l.length cap) l) (hs : l.length ≤ 65536) :
  Calls Tryz.prog 96 #[.slice (some ad) l.length cap] w fun e w' => e = .returned (.string (strOfNums (textL (stAt l (padLen l.length / 64))))) ∧ Below w.heap.size w w' := by
 obtain ⟨a, cap', hv, hm, hc, hr⟩ := h
 simp only [Value.slice.injEq] at hv
 obtain ⟨rfl, _, rfl⟩ := hv
 obtain ⟨i0, hi, hz0, hz1, hz2⟩ := info_parts info5
 have HC := Hd hc
 have HR := Hd hr
 clear hc hr hm
 have hNge := padLen_ge l.length
 have hNle : padLen l.length ≤ 65700 := by unfold padLen; omega
 have hrowH := Hd (row_box w 8 iW 167 w.heap.size rfl)
 rw [icells] at hrowH
 go_enter Tryz.func96, Tryz.ntmps96
 have HB2 : Hid (Below w.heap.size w ((w.alloc (.cells #[Value.int IntKind.u32 1779033703, Value.int IntKind.u32 3144134277, Value.int IntKind.u32 1013904242, Value.int IntKind.u32 2773480762, Value.int IntKind.u32 1359893119, Value.int IntKind.u32 2600822924, Value.int IntKind.u32 528734635, Value.int IntKind.u32 1541459225] 167)).alloc (.cells #[] 5))) := ((Below.refl _ _).alloc (Nat.le_refl _) _).alloc (by simp) _
 go_wp2_with (first
  | (at_builtin; refine wpList_append_own _ rfl (.tmp 11) (.tmp 12) 80 rfl (w.heap.size + 1) 5 i0 (.int .u8 0) 1 1 Tryz.underlying80 hi hz0 hz1 hz2 rfl (by decide) _ 0 [] rfl (owns_made _ _ (by simp) (by simp)) ad l.length cap (l.map (Value.int .u8)) rfl (by simp) (srcBytes (uh HC) (by exact uh HB2)) (bytes_one l) (by unfold maxLen; omega) (by omega) (by simp) ?_; intro v1 w1 hown1 hgrow1 hnil1)
  | (at_builtin; refine wpList_append_own _ rfl (.tmp 13) (.tmp 14) 80 rfl (w.heap.size + 1) 5 i0 (.int .u8 0) 1 1 Tryz.underlying80 hi hz0 hz1 hz2 rfl (by decide) _ (0 + l.length) _ rfl (hown1.alloc _) ⟨w1.heap.size, 0, none⟩ 1 1 [.int .u8 128] rfl rfl (World.news_of_block (cs := #[.int .u8 128]) (t := 5) (fr := (0, 0)) (heap_alloc_new w1 _)) (by simp [Value.oneCell']) (by unfold maxLen; omega) (by omega) (by have := hgrow1.size; simp at this ⊢; omega) ?_; intro v2 w2 hown2 hgrow2 hnil2))
 have hall : w2.ownsRow (w.heap.size + 1) 5 1 v2 (l.length + 1) ((padL l (l.length + 1)).map (Value.int .u8)) := by
  rw [padL_succ, padL_msg, padAt_mark]
  simpa using hown2
 generalize hw0 : w.alloc (.cells #[Value.int IntKind.u32 1779033703, Value.int IntKind.u32 3144134277, Value.int IntKind.u32 1013904242, Value.int IntKind.u32 2773480762, Value.int IntKind.u32 1359893119, Value.int IntKind.u32 2600822924, Value.int IntKind.u32 528734635, Value.int IntKind.u32 1541459225] 167) = w0 at *
 have hz0' : w0.heap.size = w.heap.size + 1 := by rw [← hw0]; simp
 have hbH : Below w.heap.size w w0 := by rw [← hw0]; exact (Below.refl _ _).alloc (Nat.le_refl _) _
 have hb1 : Below (w.heap.size + 1) w0 w1 := ((Below.refl (w.heap.size + 1) w0).alloc (by omega) _).grown hgrow1 (by simp; omega) (fun k hk => by cases hk; exact Nat.le_refl _)
 have hb2 : Below (w.heap.size + 1) w0 w2 := (hb1.alloc (by have := hb1.size; omega) _).grown hgrow2 (by have := hb1.size; simp; omega) (fun k hk => (hown1.lt k hk).1)
 have Z := Hd (And.intro hall (And.intro hb2 (And.intro hbH (And.intro hz0' (uh hrowH)))))
 clear hall hb1 hb2 hown1 hown2 hgrow1 hgrow2 hnil1 hnil2 hw0 hz0' hbH HB2 hrowH
 go_loopw [4] (fun v wr => ∃ m : Nat, l.length + 1 ≤ m ∧ m ≤ padLen l.length - 8 ∧ wr.ownsRow (w.heap.size + 1) 5 1 v m ((padL l m).map (Value.int .u8)) ∧ Below (w.heap.size + 1) w0 wr)
  (fun v _ => padLen l.length - lenOf v)
 case atStart => exact ⟨l.length + 1, Nat.le_refl _, by omega, (uh Z).1, (uh Z).2.1⟩
 case round =>
  obtain ⟨m, hm1, hm2, hown, hbel⟩ := hrel
  have hlen := own_len hown
  obtain ⟨av, capv, rfl⟩ := own_shape hown
  have hsz := hbel.size
  have hz0' := (uh Z).2.2.2.1
  have hge : w.heap.size + 1 ≤ wr.heap.size := by omega
  clear hz0' hsz hlen
  by_cases h56 : m % 64 = 56
  ·have hme : m = padLen l.length - 8 := by unfold padLen at *; omega
   have ht : ((m : Int) % 64 != 56) = false := by simp; omega
   have Hm := Hd hme
   have Y := Hd (And.intro hown hbel)
   clear h56 hme hown hbel
   go_wp2_with fail
   go_loopw [4, 5] (fun v i wr => ∃ j : Nat, j ≤ 8 ∧ i = .int .i64 (7 - (j : Int)) ∧ wr.ownsRow (w.heap.size + 1) 5 1 v (padLen l.length - 8 + j) ((padL l (padLen l.length - 8 + j)).map (Value.int .u8)) ∧ Below (w.heap.size + 1) w0 wr)
    (fun _ i _ => (1 + intOf i).toNat)
   case atStart =>
    have e := uh Hm
    subst e
    exact ⟨0, Nat.zero_le _, rfl, (uh Y).1, (uh Y).2⟩
   case round =>
    clear Hm Y hm1 hm2 ht hge
    obtain ⟨j, hj, rfl, hown, hbel⟩ := hrel
    have hsz := hbel.size
    have hz0' := (uh Z).2.2.2.1
    have hge : w.heap.size + 1 ≤ wr.heap.size := by omega
    clear hz0' hsz
    by_cases hj8 : j < 8
    ·have HZ := Hd (show padL l (padLen l.length - 8 + j + 1) = padL l (padLen l.length - 8 + j) ++ [lenByte l.length (7 - j)] by rw [padL_succ, padAt_tail l hj8])
     go_wp2_with (at_builtin; refine wpList_append_own _ rfl _ _ 80 rfl (w.heap.size + 1) 5 i0 (.int .u8 0) 1 1 Tryz.underlying80 hi hz0 hz1 hz2 rfl (by decide) _ _ _ rfl (hown.alloc _) ⟨wr.heap.size, 0, none⟩ 1 1 [_] rfl rfl (World.news_of_block (cs := #[_]) (t := 5) (fr := (0, 0)) (heap_alloc_new wr _)) (by simp [Value.oneCell']) (by unfold maxLen; omega) (by omega) (by simp; omega) ?_; intro v' w3 hown1 hgrow hnil)
     have hn : w3.ownsRow (w.heap.size + 1) 5 1 v' (padLen l.length - 8 + (j + 1)) ((padL l (padLen l.length - 8 + (j + 1))).map (Value.int .u8)) := by
      rw [show padLen l.length - 8 + (j + 1) = padLen l.length - 8 + j + 1 by omega, uh HZ]
      rw [show (8 : Int) * (l.length : Int) = (l.length : Int) * 8 by omega] at hown1
      simpa [lenByte] using hown1
     have hb3 : Below (w.heap.size + 1) w0 w3 := (hbel.alloc hge _).grown hgrow (by simp; omega) (fun k hk => (hown.lt k hk).1)
     clear hown1 hgrow hnil hown hbel
     refine ⟨⟨j + 1, by omega, by go_num, hn, hb3⟩, ?_⟩
     simp [intOf]; omega
    ·obtain rfl : j = 8 := by omega
     rw [show padLen l.length - 8 + 8 = padLen l.length by omega] at hown
     obtain ⟨ga, capa, rfl, hcapa, hga, hga2, hrowA⟩ := own_row8 hown (by omega)
     have Y := Hd (And.intro hrowA hbel)
     clear hown hrowA hbel
     go_wp2_with fail
     refine (consts_any wr).mono ?_
     rintro e w4 ⟨rfl, hrk, hC, hb4⟩
     have hb40 : Below w.heap.size w w4 := ((uh Z).2.2.1.trans ((uh Y).2.mono (Nat.le_succ _))).trans (hb4.mono (by omega))
     have hrH : Row32 w4 w.heap.size 8 iW := ((uh Z).2.2.2.2.below (uh Y).2 (Nat.lt_succ_self _)).below hb4 (by omega)
     have hrA := (uh Y).1.below hb4 hga2
     have hgaC : ga < w4.heap.size := Nat.lt_of_lt_of_le hga2 hb4.size
     have hgaW : ga ≠ wr.heap.size := by omega
     have hN := Hd (show (padLen l.length : Int) = 64 * ((padLen l.length / 64 : Nat) : Int) by unfold padLen; omega)
     have Y2 := Hd (And.intro hrH (And.intro hrA (And.intro hrk hb40)))
     have hCC : w.heap.size < wr.heap.size := by omega
     generalize hcb : wr.heap.size = cb at *
     clear hrH hrA hrk hb40 hb4 Y hga2 hcb
     go_wp2_with fail
     go_loopw [7] (fun i wr => ∃ k : Nat, k ≤ padLen l.length / 64 ∧ i = .int .i64 (64 * (k : Int)) ∧ Row32 wr w.heap.size 8 (stAt l k) ∧ Row8 wr ga (padLen l.length) (padAt l) ∧ Row32 wr cb 64 kW ∧ ga < wr.heap.size ∧ cb < wr.heap.size ∧ Below w.heap.size w wr)
      (fun i _ => padLen l.length - (intOf i).toNat)
     case atStart => exact ⟨0, Nat.zero_le _, rfl, (uh Y2).1, (uh Y2).2.1, (uh Y2).2.2.1, hgaC, hC, (uh Y2).2.2.2⟩
     case round =>
      clear Y2 hgaC hC
      obtain ⟨k, hk, rfl, hX, hA, hK, hg1, hg2, hbel⟩ := hrel
      by_cases hlt : k < padLen l.length / 64
      ·have HS : Hid (stAt l (k + 1) = after (W (blockB l k)) (stAt l k)) := rfl
       have hk0 : (0 : Int) ≤ 64 * (k : Int) := by omega
       have hk1 : 64 * (k : Int) + 64 ≤ (padLen l.length : Int) := by have := uh hN; omega
       have hk1' : 64 * (k : Int) + 64 ≤ (capa : Int) := by omega
       have hk2 : 64 * (k : Int) < (padLen l.length : Int) := by omega
       have hk3 : (0 : Int) ≤ 64 * (k : Int) + 64 := by omega
       have hk4 : 64 * (k : Int) ≤ 64 * (k : Int) + 64 := by omega
       have t1 : (64 * (k : Int)).toNat = 64 * k := by omega
       have t2 : (64 * (k : Int) + 64).toNat = 64 * k + 64 := by omega
       have t3 : ¬ capa = 64 * k := by omega
       have t4 : 64 * k + 64 - 64 * k = 64 := by omega
       have hby : Hid (∀ i, i < 64 → wr.cell? ⟨ga, 64 * k + i, none⟩ = some (.int .u8 (blockB l k i))) := fun i hi => (hA (64 * k + i) (by omega)).1
       have Y := Hd (And.intro hX (And.intro hA (And.intro hK hbel)))
       clear hX hA hK hbel
       go_wp2_with fail
       refine (block_any w.heap.size ga (64 * k) (capa - 64 * k) cb (stAt l k) (blockB l k) wr (stAt_lt l k) (fun i => (padK_lo l (uh HR) 8 _).1) (fun i => (padK_lo l (uh HR) 8 _).2) (uh Y).1 (uh Y).2.2.1 (uh hby) (by omega) hg1 hg2).mono ?_
       rintro e w5 ⟨rfl, hr5, hgr5⟩
       have hsz5 := hgr5.size
       have hA5 := (uh Y).2.1.grown hgr5 hg1 (by simp; omega)
       have hK5 := (uh Y).2.2.1.grown hgr5 hg2 (by simp; omega)
       have hb5 := (uh Y).2.2.2.grown hgr5 (uh Y).2.2.2.size (fun q hq => by cases hq; exact Nat.le_refl _)
       rw [← uh HS] at hr5
       have Y2 := Hd (And.intro hr5 (And.intro hA5 (And.intro hK5 hb5)))
       clear hr5 hA5 hK5 hb5 hgr5 Y hby t1 t2 t3 t4
       go_wp2_with fail
       refine ⟨⟨k + 1, by omega, by go_num, (uh Y2).1, (uh Y2).2.1, (uh Y2).2.2.1, by omega, by omega, (uh Y2).2.2.2⟩, ?_⟩
       simp [intOf]; omega
      ·obtain rfl : k = padLen l.length / 64 := by omega
       have hbd := stAt_lt l (padLen l.length / 64)
       generalize hst : stAt l (padLen l.length / 64) = st at *
       have HST := Hd hst
       clear hst
       have hge4 : (padLen l.length : Int) ≤ 64 * ((padLen l.length / 64 : Nat) : Int) := by have := uh hN; omega
       have Hbd := Hd hbd
       have Y := Hd (And.intro hX hbel)
       have hH4 : w.heap.size < wr.heap.size := by omega
       clear hX hA hK hbel hbd
       go_wp2_with fail
       obtain ⟨wo, hwo⟩ : ∃ wo, wo = wr := ⟨_, rfl⟩
       rw [← hwo] at hH4
       have Y : Hid (Row32 wo w.heap.size 8 st ∧ Below w.heap.size w wo) := by rw [hwo]; exact Y
       go_loopw [8, 9] (fun v i wr => ∃ k : Nat, k ≤ 8 ∧ i = .int .i64 k ∧ wr.ownsRow wo.heap.size 5 1 v (4 * k) (((List.range (4 * k)).map (byteOf st)).map (Value.int .u8)) ∧ Below wo.heap.size wo wr)
        (fun _ i _ => 8 - (intOf i).toNat)
       case atStart =>
        rw [hwo]
        exact ⟨0, Nat.zero_le _, rfl, World.ownsRow_made wr #[] 0 (Nat.le_refl _) (by unfold maxLen; omega) rfl, (Below.refl _ _).alloc (Nat.le_refl _) _⟩
       case round =>
        clear hwo
        obtain ⟨k, hk, rfl, hown, hb4⟩ := hrel
        have hge5 := hb4.size
        by_cases hlt4 : k < 8
        ·have hrow := (uh Y).1.below hb4 hH4
         have x1 := (hrow k hlt4).1
         have hbk := uh Hbd k
         have hk0 : (0 : Int) ≤ (k : Int) := by omega
         have hk1 : (k : Int) < 8 := by omega
         clear hrow
         go_wp2_with fail
         go_region_held3 (fun w' => w'.cell? ⟨w.heap.size, k, none⟩ = some (.int .u32 (st k))) (first | go_keep | (rw [hgrow.cell_far _ (by simp; omega) (far_ne hown hH4)]; assumption)) ((refine step_append_lies _ (by rfl) _ _ _ (by rfl) wo.heap.size 5 i0 _ 1 1 Tryz.underlying80 hi hz0 hz1 hz2 rfl (by omega) u8 (4 * k) (((List.range (4 * k)).map (byteOf st)).map (Value.int .u8)) (by rfl) ((hown.alloc _).drew) ⟨wr.heap.size, 0, none⟩ 4 4 [_, _, _, _] (by rfl) (by rfl) (World.news_of_block (cs := #[_, _, _, _]) (t := 5) (fr := (0, 0)) (heap_alloc_new wr _)) (by simp [Value.oneCell']) (by omega) (by unfold maxLen; omega) (by omega) (by simp; omega) (wr.heap.size + 1) (by simp) ?_; intro gg capg w1 hown1 hgrow hat hlt1))
         have hn := text_step hown1
         have hb6 : Below wo.heap.size wo w1 := ((hb4.alloc hge5 _).drew).grown hgrow (by simp; omega) (fun q hq => (hown.lt q hq).1)
         have R := Hd (And.intro hn hb6)
         clear hown1 hgrow hat hlt1 hown hb4 hn hb6
         go_wp2
         refine ⟨?_, ?_⟩
         ·repeat (apply Exists.intro)
          refine ⟨?_, rfl⟩
          exact ⟨k + 1, by omega, by go_num, (uh R).1, (uh R).2⟩
         ·simp [intOf]; omega
        ·obtain rfl : k = 8 := by omega
         have hown' : wr.ownsRow wo.heap.size 5 1 _ 32 ((textL st).map (Value.int .u8)) := hown
         have hc := conv_own (P := Tryz.prog) 80 9 5 Tryz.underlying80 Tryz.underlying5 Tryz.underlying9 hown'
         have hb' := Hd (((uh Y).2).trans (hb4.mono (Nat.le_of_lt hH4)))
         clear hown hown' hb4
         go_wp2_with fail
         go_ret
         exact ⟨by rw [uh HST]; rfl, uh hb'⟩
  ·have hm3 : m < padLen l.length - 8 := by unfold padLen at *; omega
   have hz := padAt_zero l (show l.length < m by omega) hm3
   have HZ := Hd (show padL l (m + 1) = padL l m ++ [0] by rw [padL_succ, hz])
   have ht : ((m : Int) % 64 != 56) = true := by simp; omega
   clear h56 hz
   go_wp2_with (at_builtin; refine wpList_append_own _ rfl _ _ 80 rfl (w.heap.size + 1) 5 i0 (.int .u8 0) 1 1 Tryz.underlying80 hi hz0 hz1 hz2 rfl (by decide) _ _ _ rfl (hown.alloc _) ⟨wr.heap.size, 0, none⟩ 1 1 [.int .u8 0] rfl rfl (World.news_of_block (cs := #[.int .u8 0]) (t := 5) (fr := (0, 0)) (heap_alloc_new wr _)) (by simp [Value.oneCell']) (by unfold maxLen; omega) (by omega) (by simp; omega) ?_; intro v' w3 hown1 hgrow hnil)
   have hn : w3.ownsRow (w.heap.size + 1) 5 1 v' (m + 1) ((padL l (m + 1)).map (Value.int .u8)) := by rw [uh HZ]; simpa using hown1
   have hb3 : Below (w.heap.size + 1) w0 w3 := (hbel.alloc hge _).grown hgrow (by simp; omega) (fun k hk => (hown.lt k hk).1)
   have hl2 := own_len hn
   clear hown1 hgrow hnil hown hbel
   refine ⟨⟨m + 1, by omega, by omega, hn, hb3⟩, ?_⟩
   rw [hl2]
   show padLen l.length - (m + 1) < padLen l.length - m
   omega

end Go.Proofs.YtbchnheinnileaaGreatDoor.Sha
