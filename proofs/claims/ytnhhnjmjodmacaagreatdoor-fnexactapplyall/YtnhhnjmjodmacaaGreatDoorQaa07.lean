/- What the proof of the claim needs (joined by program): ShaP ShaI. -/
import Derived.Test.YtnhhnjmjodmacaaGreatDoorQaa06
import Derived.Laws.CopyOwn
namespace Go.Proofs.YtnhhnjmjodmacaaGreatDoor.Sha
set_option maxRecDepth 100000
set_option maxHeartbeats 8000000
open Go.ChangeShapes Go.WideShapes Go.ChangeAt Go.RowKit
set_option linter.unusedVariables false
def padLen (n : Nat) : Nat := (n + 72) / 64 * 64
def lenByte (n i : Nat) : Int := (n : Int) * 8 / 2 ^ (8 * i) % 256
def padK (l : List Int) (k j : Nat) : Int :=
 if j < l.length then l.getD j 0 else if j = l.length then 128 else if padLen l.length - k ≤ j then lenByte l.length (padLen l.length - 1 - j) else 0
def padAt (l : List Int) (j : Nat) : Int := padK l 8 j
theorem padLen_ge (n : Nat) : n + 9 ≤ padLen n := by unfold padLen; omega
theorem padK_step (l : List Int) (k j : Nat) (hk : k < 8) (hj : j < padLen l.length) :
  (if j = padLen l.length - 1 - k then lenByte l.length k else padK l k j) = padK l (k + 1) j := by
 have := padLen_ge l.length
 unfold padK
 by_cases e : j = padLen l.length - 1 - k
 ·subst e
  rw [if_pos rfl, if_neg (by omega), if_neg (by omega), if_pos (by omega)]
  rw [show padLen l.length - 1 - (padLen l.length - 1 - k) = k by omega]
 ·rw [if_neg e]
  by_cases h1 : j < l.length
  ·rw [if_pos h1, if_pos h1]
  ·rw [if_neg h1, if_neg h1]
   by_cases h2 : j = l.length
   ·rw [if_pos h2, if_pos h2]
   ·rw [if_neg h2, if_neg h2]
    by_cases h3 : padLen l.length - k ≤ j
    ·rw [if_pos h3, if_pos (by omega)]
    ·rw [if_neg h3, if_neg (by omega)]
theorem padK_zero (l : List Int) (j : Nat) (hj : j < padLen l.length) : (if j = l.length then 128 else if j < l.length then l.getD j 0 else 0) = padK l 0 j := by
 unfold padK
 by_cases h1 : j < l.length
 ·rw [if_neg (by omega), if_pos h1, if_pos h1]
 ·rw [if_neg h1, if_neg h1]
  by_cases h2 : j = l.length
  ·rw [if_pos h2, if_pos h2]
  ·rw [if_neg h2, if_neg h2, if_neg (by omega)]
theorem own_full {w : World} {base e g n : Nat} {xs : List Value} (h : w.ownsRow base e 1 (.slice (some ⟨g, 0, none⟩) n n) n xs) : w.heap[g]? = some (.cells xs.toArray e (0, 0)) := by
 obtain ⟨hl, ⟨h', _⟩ | ⟨g', cap, cur, h', hb, hg, hn, hc, hz, ht⟩⟩ := h
 ·simp at h'
 ·simp only [Value.slice.injEq, Option.some.injEq, Addr.mk.injEq, and_true, true_and] at h'
  obtain ⟨rfl, rfl⟩ := h'
  rw [hg]
  have : cur.toList = xs := by
   rw [← ht]
   exact (List.take_of_length_le (by rw [Array.length_toList, hz]; exact Nat.le_refl _)).symm
  rw [← this]
theorem copied_row {w : World} {g N : Nat} {l : List Int} (hN : l.length ≤ N)
  (h : w.heap[g]? = some (.cells (splice (List.replicate N (Value.int .u8 0)) 0 (l.map (Value.int .u8))).toArray 5 (0, 0))) : Row8 w g N (fun j => if j < l.length then l.getD j 0 else 0) := by
 intro j hj
 refine ⟨?_, frozen_of_row w g j _ 5 h⟩
 rw [cell_of_row w g j _ 5 (0, 0) h]
 simp only [splice, List.getElem?_toArray, List.take_zero, List.nil_append, Nat.zero_add, List.length_map]
 by_cases hjl : j < l.length
 ·rw [if_pos hjl, List.getElem?_append_left (by simpa using hjl)]
  simp [List.getD, hjl]
 ·rw [if_neg hjl, List.getElem?_append_right (by simp; omega), List.getElem?_drop, List.getElem?_replicate, if_pos (by simp; omega)]

theorem own_zero {w : World} {base g n : Nat} (h : w.ownsRow base 5 1 (.slice (some ⟨g, 0, none⟩) n n) n (madeCells (Value.int .u8 0).cells (n * 1)).toList) :
  w.heap[g]? = some (.cells (List.replicate n (Value.int .u8 0)).toArray 5 (0, 0)) := by
 have hfull := own_full h
 rw [show (Value.int IntKind.u8 0).cells = #[Value.int IntKind.u8 0] from rfl, Nat.mul_one, toList_madeCells_one] at hfull
 exact hfull
theorem made_below {w w1 : World} (hg : w.grownBy w1 none) : Below w.heap.size w w1 := (Below.refl _ _).grown hg (Nat.le_refl _) (fun k h => by cases h)
theorem bytes_one (l : List Int) : ∀ v ∈ l.map (Value.int .u8), v.oneCell' = true := by
 intro v hv
 simp only [List.mem_map] at hv
 obtain ⟨x, _, rfl⟩ := hv
 rfl
theorem copy_src {w w1 : World} {a : Option Addr} {l : List Int} {g : Nat} (hc : l.length = 0 ∨ ∃ b off, a = some ⟨b, off, none⟩ ∧ b < w.heap.size ∧ ∀ i, i < l.length → w.cell? ⟨b, off + i, none⟩ = some (.int .u8 (l.getD i 0))) (hb1 : Below w.heap.size w w1) :
  0 < (l.map (Value.int .u8)).length → some (⟨g, 0, none⟩ : Addr) = some ⟨g, 0, none⟩ ∧ ∃ ad, a = some ad ∧ ∀ j v, (l.map (Value.int .u8))[j]? = some v → w1.cell? (ad.add j) = some v := by
 intro h0
 rcases hc with h | ⟨b, off, rfl, hblk, hcell⟩
 ·simp at h0; omega
 ·refine ⟨rfl, _, rfl, fun j v hv => ?_⟩
  have hj : j < l.length := by have := (List.getElem?_eq_some_iff.1 hv).1; simpa using this
  rw [show (⟨b, off, none⟩ : Addr).add j = ⟨b, off + j, none⟩ by unfold Addr.add; split <;> simp_all]
  rw [hb1.cell (p := ⟨b, off + j, none⟩) hblk, hcell j hj, ← hv]
  simp [List.getD, hj]
theorem pad_any (v : Value) (l : List Int) (w : World) (h : Bytes w v l) (hs : l.length ≤ 65536) :
  Calls Tryz.prog 143 #[v] w fun e w' => ∃ g, e = .returned (.slice (some ⟨g, 0, none⟩) (padLen l.length) (padLen l.length)) ∧ w.heap.size ≤ g ∧ g < w'.heap.size ∧ Row8 w' g (padLen l.length) (padAt l) ∧ Below w.heap.size w w' := by
 obtain ⟨a, cap, rfl, hm, hc, hr⟩ := h
 obtain ⟨i0, hi, hz0, hz1, hz2⟩ := info_parts info5
 have HC := Hd hc
 clear hc hr hm
 have hNle : padLen l.length ≤ 65700 := by unfold padLen; omega
 have hNge := padLen_ge l.length
 have hNe : ((l.length : Int) + 1 + 8 + 64 - 1) / 64 * 64 = (padLen l.length : Int) := by unfold padLen; omega
 go_enter Tryz.func143, Tryz.ntmps143
 have hinfo : (Tryz.prog.info? 5).map (·.size) = some 1 := by kernel_rfl
 go_wp2_with (first | (at_make; refine wpList_make_full _ rfl _ _ 127 rfl w.heap.size 5 i0 _ 1 Tryz.underlying127 hi hz0 hz1 .i64 .i64 _ _ (padLen l.length) rfl rfl rfl rfl (by rw [hz2]; omega) (by unfold maxLen; omega) (Nat.le_refl _) ?_; intro w1 hown1 hg1) | (refine wpList_copy_splice rfl _ _ 127 127 rfl 5 Tryz.underlying127 hinfo _ _ _ _ _ _ rfl rfl w.heap.size 0 _ 5 (own_zero hown1) (l.map (Value.int .u8)) (by rw [List.length_map]; exact (Nat.min_eq_left (by omega)).symm) (copy_src (uh HC) (made_below hg1)) (by simp; omega) (bytes_one l) w.heap.size w (made_below hg1) (Nat.le_refl _) ?_; intro w2 hrow2 hb2; have hR := Hd (copied_row (l := l) (N := padLen l.length) (by omega) hrow2.out); have cc := (uh hR l.length (by omega)).1; have zz := (uh hR l.length (by omega)).2))
 have HB := Hd hb2
 have hblk : w.heap.size < w2.heap.size := World.block_lt_of_cell? w2 _ cc
 have hP0 : Row8 (w2.setCell ⟨w.heap.size, l.length, none⟩ (.int .u8 128)) w.heap.size (padLen l.length) (padK l 0) := ((uh hR).set l.length 128).congr fun j hj => padK_zero l j hj
 have HP0 := Hd hP0
 clear hP0 hb2 hrow2 hR cc zz hown1 hg1
 go_loopw [6, 28] (fun _ i wr => ∃ k : Nat, k ≤ 8 ∧ i = .int .i64 k ∧ Row8 wr w.heap.size (padLen l.length) (padK l k) ∧ w.heap.size < wr.heap.size ∧ Below w.heap.size w wr)
  (fun _ i _ => 8 - (intOf i).toNat)
 case atStart => exact ⟨0, Nat.zero_le _, rfl, uh HP0, by simpa using hblk, (uh HB).setCell (by simp) _⟩
 case round =>
  clear HP0 HB hblk
  obtain ⟨k, hk, rfl, hX, hblk, hbel⟩ := hrel
  by_cases hlt : k < 8
  ·have c1 := (hX (padLen l.length - 1 - k) (by omega)).1
   have z1 := (hX (padLen l.length - 1 - k) (by omega)).2
   have hX' := Hd hX
   have hb' := Hd hbel
   have hk0 : (0 : Int) ≤ (k : Int) := by omega
   have hk1 : (k : Int) < 8 := by omega
   have hidx : (padLen l.length : Int) - 1 - (k : Int) = ((padLen l.length - 1 - k : Nat) : Int) := by omega
   have hi0' : (0 : Int) ≤ ((padLen l.length - 1 - k : Nat) : Int) := by omega
   have hi1' : ((padLen l.length - 1 - k : Nat) : Int) < (padLen l.length : Int) := by omega
   clear hX hbel
   go_wp2_with fail
   have hst : Row8 _ _ (padLen l.length) (padK l (k + 1)) := ((uh hX').set (padLen l.length - 1 - k) (lenByte l.length k)).congr fun j hj => padK_step l k j hlt hj
   refine ⟨⟨k + 1, by omega, by go_num, hst, by simpa using hblk, (uh hb').setCell (by simp) _⟩, ?_⟩
   simp [intOf]; omega
  ·obtain rfl : k = 8 := by omega
   have HX := Hd hX
   have hb' := Hd hbel
   clear hX hbel
   go_wp2_with fail
   go_ret
   exact ⟨w.heap.size, rfl, Nat.le_refl _, hblk, uh HX, uh hb'⟩
def iL : List Nat := [1779033703, 3144134277, 1013904242, 2773480762, 1359893119, 2600822924, 528734635, 1541459225]
def iW (i : Nat) : Nat := iL.getD i 0
theorem iL_all : iL.all (fun x => decide (x < 4294967296)) = true := by decide
theorem iW_lt (i : Nat) : iW i < 4294967296 := by
 unfold iW
 by_cases h : i < iL.length
 ·rw [List.getD_eq_getElem?_getD, List.getElem?_eq_getElem h]
  have := List.all_eq_true.1 iL_all _ (List.getElem_mem h)
  simpa using this
 ·rw [List.getD_eq_getElem?_getD, List.getElem?_eq_none (by omega)]
  exact Nat.zero_lt_succ _
def blockB (l : List Int) (k i : Nat) : Int := padAt l (64 * k + i)
def stAt (l : List Int) : Nat → Nat → Nat
 | 0 => iW
 | k + 1 => after (W (blockB l k)) (stAt l k)
theorem stAt_lt (l : List Int) (k : Nat) : ∀ j, stAt l k j < 4294967296 := by
 cases k with
 | zero => exact iW_lt
 | succ k => exact after_lt _ _
theorem padK_lo (l : List Int) (hr : ∀ i, 0 ≤ l.getD i 0 ∧ l.getD i 0 ≤ 255) (k j : Nat) : 0 ≤ padK l k j ∧ padK l k j ≤ 255 := by
 unfold padK lenByte
 split
 ·exact hr j
 ·split
  ·omega
  ·split
   ·constructor
    ·exact Int.emod_nonneg _ (by omega)
    ·have := Int.emod_lt_of_pos ((l.length : Int) * 8 / 2 ^ (8 * (padLen l.length - 1 - j))) (show (0 : Int) < 256 by omega); omega
   ·omega
def hashV (l : List Int) : ByteArray := if 65536 < l.length then ⟨#[]⟩ else strOfNums (textL (stAt l (padLen l.length / 64)))
theorem hashV_long {l : List Int} (h : 65536 < l.length) : hashV l = ⟨#[]⟩ := by unfold hashV; rw [if_pos h]
theorem hashV_yes {l : List Int} (h : ¬ 65536 < l.length) : hashV l = strOfNums (textL (stAt l (padLen l.length / 64))) := by unfold hashV; rw [if_neg h]
theorem cells8_eq (s : Nat → Nat) : (cells32 8 s).toArray = #[.int .u32 (s 0), .int .u32 (s 1), .int .u32 (s 2), .int .u32 (s 3), .int .u32 (s 4), .int .u32 (s 5), .int .u32 (s 6), .int .u32 (s 7)] := rfl
theorem of8_eq (s : Nat → Nat) (j : Nat) (hj : j < 8) : of8 (s 0) (s 1) (s 2) (s 3) (s 4) (s 5) (s 6) (s 7) j = s j := by
 match j, hj with
 | 0, _ => rfl
 | 1, _ => rfl
 | 2, _ => rfl
 | 3, _ => rfl
 | 4, _ => rfl
 | 5, _ => rfl
 | 6, _ => rfl
 | 7, _ => rfl
theorem Row8.other {w : World} {b n : Nat} {f : Nat → Int} (h : Row8 w b n f) {a : Addr} (ha : a.block ≠ b) (v : Value) : Row8 (w.setCell a v) b n f := by
 intro j hj
 refine ⟨?_, by rw [World.frozen?_setCell]; exact (h j hj).2⟩
 rw [World.cell?_setCell_other w _ _ _ (fun h => ha (by rw [h]))]
 exact (h j hj).1
theorem put8_other8 {w : World} {b b' n : Nat} {f : Nat → Int} (h : Row8 w b' n f) (hb : b ≠ b') (a0 a1 a2 a3 a4 a5 a6 a7 : Nat) : Row8 (put8 w b a0 a1 a2 a3 a4 a5 a6 a7) b' n f :=
 (((((((h.other (a := ⟨b, 0, none⟩) hb _).other (a := ⟨b, 1, none⟩) hb _).other (a := ⟨b, 2, none⟩) hb _).other (a := ⟨b, 3, none⟩) hb _).other (a := ⟨b, 4, none⟩) hb _).other (a := ⟨b, 5, none⟩) hb _).other (a := ⟨b, 6, none⟩) hb _).other (a := ⟨b, 7, none⟩) hb _
def First (w : World) : Prop := 0 < w.heap.size ∧ ∀ i, i < 8 → w.cell? ⟨0, i, none⟩ = some (.int .u32 (iW i))
theorem First.range {w : World} (h : First w) : w.rangeAt 0 0 (cells32 8 iW) := by
 intro j v hv
 have hj : j < 8 := by have := (List.getElem?_eq_some_iff.1 hv).1; rwa [cells32_len] at this
 rw [Nat.zero_add, h.2 j hj, ← hv]
 simp [cells32, hj]

theorem implHash_any (v : Value) (l : List Int) (w : World) (h : Bytes w v l) (ht : Table w) (hf : First w) :
  Calls Tryz.prog 134 #[v] w fun e w' => e = .returned (.string (hashV l)) ∧ Below w.heap.size w w' := by
 have HBy := Hd h
 have HT := Hd ht
 have HF := Hd hf
 obtain ⟨a, cap, rfl, hm, hc, hr⟩ := h
 have HR := Hd hr
 clear hc ht hf hr
 unfold maxLen at hm
 by_cases hs : 65536 < l.length
 ·have H := Hd (hashV_long hs)
  go_enter Tryz.func134, Tryz.ntmps134
  go_wp2_with fail
  go_ret
  exact ⟨by rw [uh H]; rfl, Below.refl _ _⟩
 ·have H := Hd (hashV_yes hs)
  have f0 := (uh HF).2 0 (by omega)
  have f1 := (uh HF).2 1 (by omega)
  have f2 := (uh HF).2 2 (by omega)
  have f3 := (uh HF).2 3 (by omega)
  have f4 := (uh HF).2 4 (by omega)
  have f5 := (uh HF).2 5 (by omega)
  have f6 := (uh HF).2 6 (by omega)
  have f7 := (uh HF).2 7 (by omega)
  go_enter Tryz.func134, Tryz.ntmps134
  go_wp2_with fail
  have hrow0 := Hd (row_box w 8 iW 188 w.heap.size rfl)
  have hbel0 := Hd (bal w (.cells (cells32 8 iW).toArray 188))
  clear f0 f1 f2 f3 f4 f5 f6 f7
  refine (pad_any _ l (w.alloc (.cells (cells32 8 iW).toArray 188)) ((uh HBy).below (uh hbel0)) (by omega)).mono ?_
  rintro e w1 ⟨g, rfl, hg1, hg2, hpad, hb1⟩
  have hg3 : w.heap.size < g := by simp at hg1; omega
  have hrow1 := Hd ((uh hrow0).below hb1 (by simp))
  have hbel1 := Hd ((uh hbel0).trans (hb1.mono (by simp)))
  have hpad1 := Hd hpad
  have hN : (padLen l.length : Int) = 64 * ((padLen l.length / 64 : Nat) : Int) := by unfold padLen; omega
  have hNb : padLen l.length ≤ 65700 := by unfold padLen; omega
  have HN := Hd hN
  clear hpad hb1 hg1 hrow0 hbel0 hN
  go_wp2_with fail
  go_loopw [5] (fun i wr => ∃ k : Nat, k ≤ padLen l.length / 64 ∧ i = .int .i64 (64 * (k : Int)) ∧ Row32 wr w.heap.size 8 (stAt l k) ∧ Row8 wr g (padLen l.length) (padAt l) ∧ g < wr.heap.size ∧ Below w.heap.size w wr)
   (fun i _ => padLen l.length - (intOf i).toNat)
  case atStart => exact ⟨0, Nat.zero_le _, rfl, uh hrow1, uh hpad1, hg2, uh hbel1⟩
  case round =>
   clear hrow1 hbel1 hpad1 hg2
   obtain ⟨k, hk, rfl, hX, hP, hg2, hbel⟩ := hrel
   by_cases hlt : k < padLen l.length / 64
   ·have hbd := stAt_lt l k
    have HS : Hid (stAt l (k + 1) = after (W (blockB l k)) (stAt l k)) := rfl
    generalize stAt l k = st at *
    have x0 := (hX 0 (by omega)).1
    have x1 := (hX 1 (by omega)).1
    have x2 := (hX 2 (by omega)).1
    have x3 := (hX 3 (by omega)).1
    have x4 := (hX 4 (by omega)).1
    have x5 := (hX 5 (by omega)).1
    have x6 := (hX 6 (by omega)).1
    have x7 := (hX 7 (by omega)).1
    have hk0 : (0 : Int) ≤ 64 * (k : Int) := by omega
    have hk1 : 64 * (k : Int) + 64 ≤ (padLen l.length : Int) := by have := uh HN; omega
    have hk2 : 64 * (k : Int) < (padLen l.length : Int) := by omega
    have hk3 : (0 : Int) ≤ 64 * (k : Int) + 64 := by omega
    have hk4 : 64 * (k : Int) ≤ 64 * (k : Int) + 64 := by omega
    have m1 : IntKind.i64.wrap (64 * (k : Int) + 64) = 64 * (k : Int) + 64 := wrap_small _ (by omega) (by omega)
    have hX' := Hd hX
    have hP' := Hd hP
    have hb' := Hd hbel
    have hH : w.heap.size < wr.heap.size := by omega
    have hBc : Hid (∀ i, i < 64 → wr.cell? ⟨g, 64 * k + i, none⟩ = some (.int .u8 (blockB l k i))) := fun i hi => (hP (64 * k + i) (by have := uh HN; omega)).1
    have hTw := Hd ((uh HT).below hbel (Nat.le_refl _))
    have hBd := Hd hbd
    have hW1 : Hid (∀ j, W (blockB l k) j < 4294967296) := W_lt _ (fun i => (padK_lo l (uh HR) 8 _).2)
    have t1 : (64 * (k : Int)).toNat = 64 * k := by omega
    have t2 : (64 * (k : Int) + 64).toNat = 64 * k + 64 := by omega
    have t3 : ¬ padLen l.length = 64 * k := by have := uh HN; omega
    have t4 : 64 * k + 64 - 64 * k = 64 := by omega
    clear hX hP hbel hbd
    go_wp2_with fail
    go_region_with (first
     | (go_at_call 145; refine (spread_any g (64 * k) (padLen l.length - 64 * k) (blockB l k) _ (by exact hg2) (fun i => (padK_lo l (uh HR) 8 _).1) (fun i => (padK_lo l (uh HR) 8 _).2) (by exact uh hBc)).mono ?_; rintro e w2 ⟨rfl, hb2d⟩; have hb2 : Below wr.heap.size wr w2 := (Below.refl wr.heap.size wr).drew.trans hb2d; have y0 : w2.cell? ⟨w.heap.size, 0, none⟩ = some (.int .u32 (st 0)) := (hb2.cell (p := ⟨w.heap.size, 0, none⟩) hH).trans x0; have y1 : w2.cell? ⟨w.heap.size, 1, none⟩ = some (.int .u32 (st 1)) := (hb2.cell (p := ⟨w.heap.size, 1, none⟩) hH).trans x1; have y2 : w2.cell? ⟨w.heap.size, 2, none⟩ = some (.int .u32 (st 2)) := (hb2.cell (p := ⟨w.heap.size, 2, none⟩) hH).trans x2; have y3 : w2.cell? ⟨w.heap.size, 3, none⟩ = some (.int .u32 (st 3)) := (hb2.cell (p := ⟨w.heap.size, 3, none⟩) hH).trans x3; have y4 : w2.cell? ⟨w.heap.size, 4, none⟩ = some (.int .u32 (st 4)) := (hb2.cell (p := ⟨w.heap.size, 4, none⟩) hH).trans x4; have y5 : w2.cell? ⟨w.heap.size, 5, none⟩ = some (.int .u32 (st 5)) := (hb2.cell (p := ⟨w.heap.size, 5, none⟩) hH).trans x5; have y6 : w2.cell? ⟨w.heap.size, 6, none⟩ = some (.int .u32 (st 6)) := (hb2.cell (p := ⟨w.heap.size, 6, none⟩) hH).trans x6; have y7 : w2.cell? ⟨w.heap.size, 7, none⟩ = some (.int .u32 (st 7)) := (hb2.cell (p := ⟨w.heap.size, 7, none⟩) hH).trans x7)
     | (go_at_call 144; rw [← cells8_eq st]; refine (mix_any st (W (blockB l k)) _ (uh hBd) (uh hW1) (by exact (uh hTw).below hb2 (Nat.le_refl _))).mono ?_; rintro e w3 ⟨rfl, hb3⟩; rw [← uh HS]; have hR3 := Hd (((uh hX').below hb2 hH).below hb3 (Nat.lt_of_lt_of_le hH hb2.size)); have q0 := (uh hR3 0 (by omega)).1; have z0 := (uh hR3 0 (by omega)).2; have q1 := (uh hR3 1 (by omega)).1; have z1 := (uh hR3 1 (by omega)).2; have q2 := (uh hR3 2 (by omega)).1; have z2 := (uh hR3 2 (by omega)).2; have q3 := (uh hR3 3 (by omega)).1; have z3 := (uh hR3 3 (by omega)).2; have q4 := (uh hR3 4 (by omega)).1; have z4 := (uh hR3 4 (by omega)).2; have q5 := (uh hR3 5 (by omega)).1; have z5 := (uh hR3 5 (by omega)).2; have q6 := (uh hR3 6 (by omega)).1; have z6 := (uh hR3 6 (by omega)).2; have q7 := (uh hR3 7 (by omega)).1; have z7 := (uh hR3 7 (by omega)).2; rw [cells8_eq (stAt l (k + 1))]))
    all_goals
     have hrow : Row32 _ _ 8 (stAt l (k + 1)) := (put8_row (uh hR3) (stAt l (k + 1) 0) (stAt l (k + 1) 1) (stAt l (k + 1) 2) (stAt l (k + 1) 3) (stAt l (k + 1) 4) (stAt l (k + 1) 5) (stAt l (k + 1) 6) (stAt l (k + 1) 7)).congr fun j hj => of8_eq _ j hj
     have hP3 := put8_other8 (((uh hP').below hb2 hg2).below hb3 (Nat.lt_of_lt_of_le hg2 hb2.size)) (show w.heap.size ≠ g by omega) (stAt l (k + 1) 0) (stAt l (k + 1) 1) (stAt l (k + 1) 2) (stAt l (k + 1) 3) (stAt l (k + 1) 4) (stAt l (k + 1) 5) (stAt l (k + 1) 6) (stAt l (k + 1) 7)
     have hb5 := put8_below (((uh hb').trans (hb2.mono (Nat.le_of_lt hH))).trans (hb3.mono (Nat.le_trans (Nat.le_of_lt hH) hb2.size))) (Nat.le_refl w.heap.size) (stAt l (k + 1) 0) (stAt l (k + 1) 1) (stAt l (k + 1) 2) (stAt l (k + 1) 3) (stAt l (k + 1) 4) (stAt l (k + 1) 5) (stAt l (k + 1) 6) (stAt l (k + 1) 7)
     have hg5 : g < w3.heap.size := Nat.lt_of_lt_of_le (Nat.lt_of_lt_of_le hg2 hb2.size) hb3.size
     have R := Hd (And.intro hrow (And.intro hP3 hb5))
     clear hrow hP3 hb5 q0 q1 q2 q3 q4 q5 q6 q7 z0 z1 z2 z3 z4 z5 z6 z7 y0 y1 y2 y3 y4 y5 y6 y7 x0 x1 x2 x3 x4 x5 x6 x7 hb2 hb3
     go_wp2_with fail
     refine ⟨⟨k + 1, by omega, by go_num, (uh R).1, (uh R).2.1, by simpa using hg5, (uh R).2.2⟩, ?_⟩
     simp [intOf]; omega
   ·obtain rfl : k = padLen l.length / 64 := by omega
    have hbd := stAt_lt l (padLen l.length / 64)
    generalize stAt l (padLen l.length / 64) = st at *
    have x0 := (hX 0 (by omega)).1
    have x1 := (hX 1 (by omega)).1
    have x2 := (hX 2 (by omega)).1
    have x3 := (hX 3 (by omega)).1
    have x4 := (hX 4 (by omega)).1
    have x5 := (hX 5 (by omega)).1
    have x6 := (hX 6 (by omega)).1
    have x7 := (hX 7 (by omega)).1
    have hb' := Hd hbel
    have hbd' := Hd hbd
    have hH : w.heap.size ≤ wr.heap.size := hbel.size
    have hge : (padLen l.length : Int) ≤ 64 * ((padLen l.length / 64 : Nat) : Int) := by have := uh HN; omega
    clear hX hP hbel hbd
    go_wp2_with fail
    rw [← cells8_eq st]
    refine (text_any st _ (uh hbd')).mono ?_
    rintro e w2 ⟨rfl, hb2⟩
    go_wp2_with fail
    go_ret
    exact ⟨by rw [uh H]; rfl, (uh hb').trans (hb2.mono hH)⟩
end Go.Proofs.YtnhhnjmjodmacaaGreatDoor.Sha
