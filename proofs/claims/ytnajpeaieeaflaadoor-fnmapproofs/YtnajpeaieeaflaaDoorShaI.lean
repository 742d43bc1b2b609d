/- impl.Hash: what it answers of every slice of bytes. -/
import Derived.Test.YtnajpeaieeaflaaDoorShaP
namespace Go.Proofs.YtnajpeaieeaflaaDoor.Sha
open Go.ChangeShapes Go.WideShapes Go.ChangeAt Go.RowKit
set_option linter.unusedVariables false

def iL : List Nat := [1779033703, 3144134277, 1013904242, 2773480762, 1359893119, 2600822924, 528734635, 1541459225]
def iW (i : Nat) : Nat := iL.getD i 0
theorem iL_all : iL.all (fun x => decide (x < 4294967296)) = true := by decide
theorem iW_lt (i : Nat) : iW i < 4294967296 := by
  unfold iW
  by_cases h : i < iL.length
  · rw [List.getD_eq_getElem?_getD, List.getElem?_eq_getElem h]
    have := List.all_eq_true.1 iL_all _ (List.getElem_mem h)
    simpa using this
  · rw [List.getD_eq_getElem?_getD, List.getElem?_eq_none (by omega)]
    exact Nat.zero_lt_succ _
def blockB (l : List Int) (k i : Nat) : Int := padAt l (64 * k + i)
def stAt (l : List Int) : Nat → Nat → Nat
  | 0 => iW
  | k + 1 => after (W (blockB l k)) (stAt l k)
theorem stAt_lt (l : List Int) (k : Nat) : ∀ j, stAt l k j < 4294967296 := by
  cases k with
  | zero => exact iW_lt
  | succ k => exact after_lt _ _
theorem padK_lo (l : List Int) (hr : ∀ i, 0 ≤ l.getD i 0 ∧ l.getD i 0 ≤ 255) (k j : Nat) : 0 ≤ padK l k j ∧ padK l k j ≤ 255 := by
  unfold padK lenByte
  split
  · exact hr j
  · split
    · omega
    · split
      · constructor
        · exact Int.emod_nonneg _ (by omega)
        · have := Int.emod_lt_of_pos ((l.length : Int) * 8 / 2 ^ (8 * (padLen l.length - 1 - j))) (show (0 : Int) < 256 by omega); omega
      · omega
def hashV (l : List Int) : ByteArray := if 65536 < l.length then ⟨#[]⟩ else strOfNums (textL (stAt l (padLen l.length / 64)))
theorem hashV_long {l : List Int} (h : 65536 < l.length) : hashV l = ⟨#[]⟩ := by unfold hashV; rw [if_pos h]
theorem hashV_yes {l : List Int} (h : ¬ 65536 < l.length) : hashV l = strOfNums (textL (stAt l (padLen l.length / 64))) := by unfold hashV; rw [if_neg h]
theorem cells8_eq (s : Nat → Nat) : (cells32 8 s).toArray = #[.int .u32 (s 0), .int .u32 (s 1), .int .u32 (s 2), .int .u32 (s 3), .int .u32 (s 4), .int .u32 (s 5), .int .u32 (s 6), .int .u32 (s 7)] := rfl
theorem of8_eq (s : Nat → Nat) (j : Nat) (hj : j < 8) : of8 (s 0) (s 1) (s 2) (s 3) (s 4) (s 5) (s 6) (s 7) j = s j := by
  match j, hj with
  | 0, _ => rfl
  | 1, _ => rfl
  | 2, _ => rfl
  | 3, _ => rfl
  | 4, _ => rfl
  | 5, _ => rfl
  | 6, _ => rfl
  | 7, _ => rfl
theorem Row8.other {w : World} {b n : Nat} {f : Nat → Int} (h : Row8 w b n f) {a : Addr} (ha : a.block ≠ b) (v : Value) : Row8 (w.setCell a v) b n f := by
  intro j hj
  refine ⟨?_, by rw [World.frozen?_setCell]; exact (h j hj).2⟩
  rw [World.cell?_setCell_other w _ _ _ (fun h => ha (by rw [h]))]
  exact (h j hj).1
theorem put8_other8 {w : World} {b b' n : Nat} {f : Nat → Int} (h : Row8 w b' n f) (hb : b ≠ b') (a0 a1 a2 a3 a4 a5 a6 a7 : Nat) : Row8 (put8 w b a0 a1 a2 a3 a4 a5 a6 a7) b' n f :=
  (((((((h.other (a := ⟨b, 0, none⟩) hb _).other (a := ⟨b, 1, none⟩) hb _).other (a := ⟨b, 2, none⟩) hb _).other (a := ⟨b, 3, none⟩) hb _).other (a := ⟨b, 4, none⟩) hb _).other (a := ⟨b, 5, none⟩) hb _).other (a := ⟨b, 6, none⟩) hb _).other (a := ⟨b, 7, none⟩) hb _
def First (w : World) : Prop := 0 < w.heap.size ∧ ∀ i, i < 8 → w.cell? ⟨0, i, none⟩ = some (.int .u32 (iW i))
theorem First.range {w : World} (h : First w) : w.rangeAt 0 0 (cells32 8 iW) := by
  intro j v hv
  have hj : j < 8 := by have := (List.getElem?_eq_some_iff.1 hv).1; rwa [cells32_len] at this
  rw [Nat.zero_add, h.2 j hj, ← hv]
  simp [cells32, hj]

set_option maxRecDepth 100000 in
set_option maxHeartbeats 2000000 in
theorem implHash_any (v : Value) (l : List Int) (w : World) (h : Bytes w v l) (ht : Table w) (hf : First w) :
    Calls Tryd.prog 20 #[v] w fun e w' => e = .returned (.string (hashV l)) ∧ Below w.heap.size w w' := by
  have HBy := hide h
  have HT := hide ht
  have HF := hide hf
  obtain ⟨a, cap, rfl, hm, hc, hr⟩ := h
  have HR := hide hr
  clear hc ht hf hr
  unfold maxLen at hm
  by_cases hs : 65536 < l.length
  · have H := hide (hashV_long hs)
    go_enter Tryd.func20, Tryd.ntmps20
    go_wp2_with fail
    go_ret
    exact ⟨by rw [unhide H]; rfl, Below.refl _ _⟩
  · have H := hide (hashV_yes hs)
    have f0 := (unhide HF).2 0 (by omega)
    have f1 := (unhide HF).2 1 (by omega)
    have f2 := (unhide HF).2 2 (by omega)
    have f3 := (unhide HF).2 3 (by omega)
    have f4 := (unhide HF).2 4 (by omega)
    have f5 := (unhide HF).2 5 (by omega)
    have f6 := (unhide HF).2 6 (by omega)
    have f7 := (unhide HF).2 7 (by omega)
    go_enter Tryd.func20, Tryd.ntmps20
    go_wp2_with fail
    have hrow0 := hide (row_box w 8 iW 84 w.heap.size rfl)
    have hbel0 := hide ((Below.refl w.heap.size w).alloc (Nat.le_refl _) (.cells (cells32 8 iW).toArray 84))
    clear f0 f1 f2 f3 f4 f5 f6 f7
    refine (pad_any _ l (w.alloc (.cells (cells32 8 iW).toArray 84)) ((unhide HBy).below (unhide hbel0)) (by omega)).mono ?_
    rintro e w1 ⟨g, rfl, hg1, hg2, hpad, hb1⟩
    have hg3 : w.heap.size < g := by simp at hg1; omega
    have hrow1 := hide ((unhide hrow0).below hb1 (by simp))
    have hbel1 := hide ((unhide hbel0).trans (hb1.mono (by simp)))
    have hpad1 := hide hpad
    have hN : (padLen l.length : Int) = 64 * ((padLen l.length / 64 : Nat) : Int) := by unfold padLen; omega
    have hNb : padLen l.length ≤ 65700 := by unfold padLen; omega
    have HN := hide hN
    clear hpad hb1 hg1 hrow0 hbel0 hN
    go_wp2_with fail
    go_loopw [5] (fun i wr => ∃ k : Nat, k ≤ padLen l.length / 64 ∧ i = .int .i64 (64 * (k : Int)) ∧ Row32 wr w.heap.size 8 (stAt l k) ∧ Row8 wr g (padLen l.length) (padAt l) ∧ g < wr.heap.size ∧ Below w.heap.size w wr)
      (fun i _ => padLen l.length - (intOf i).toNat)
    case atStart => exact ⟨0, Nat.zero_le _, rfl, unhide hrow1, unhide hpad1, hg2, unhide hbel1⟩
    case round =>
      clear hrow1 hbel1 hpad1 hg2
      obtain ⟨k, hk, rfl, hX, hP, hg2, hbel⟩ := hrel
      by_cases hlt : k < padLen l.length / 64
      · have hbd := stAt_lt l k
        have HS : Hid (stAt l (k + 1) = after (W (blockB l k)) (stAt l k)) := rfl
        generalize stAt l k = st at *
        have x0 := (hX 0 (by omega)).1
        have x1 := (hX 1 (by omega)).1
        have x2 := (hX 2 (by omega)).1
        have x3 := (hX 3 (by omega)).1
        have x4 := (hX 4 (by omega)).1
        have x5 := (hX 5 (by omega)).1
        have x6 := (hX 6 (by omega)).1
        have x7 := (hX 7 (by omega)).1
        have hk0 : (0 : Int) ≤ 64 * (k : Int) := by omega
        have hk1 : 64 * (k : Int) + 64 ≤ (padLen l.length : Int) := by have := unhide HN; omega
        have hk2 : 64 * (k : Int) < (padLen l.length : Int) := by omega
        have hk3 : (0 : Int) ≤ 64 * (k : Int) + 64 := by omega
        have hk4 : 64 * (k : Int) ≤ 64 * (k : Int) + 64 := by omega
        have m1 : IntKind.i64.wrap (64 * (k : Int) + 64) = 64 * (k : Int) + 64 := wrap_small _ (by omega) (by omega)
        have hX' := hide hX
        have hP' := hide hP
        have hb' := hide hbel
        have hH : w.heap.size < wr.heap.size := by omega
        have hBc : Hid (∀ i, i < 64 → wr.cell? ⟨g, 64 * k + i, none⟩ = some (.int .u8 (blockB l k i))) := fun i hi => (hP (64 * k + i) (by have := unhide HN; omega)).1
        have hTw := hide ((unhide HT).below hbel (Nat.le_refl _))
        have hBd := hide hbd
        have hW1 : Hid (∀ j, W (blockB l k) j < 4294967296) := W_lt _ (fun i => (padK_lo l (unhide HR) 8 _).2)
        have t1 : (64 * (k : Int)).toNat = 64 * k := by omega
        have t2 : (64 * (k : Int) + 64).toNat = 64 * k + 64 := by omega
        have t3 : ¬ padLen l.length = 64 * k := by have := unhide HN; omega
        have t4 : 64 * k + 64 - 64 * k = 64 := by omega
        clear hX hP hbel hbd
        go_wp2_with fail
        go_region_with (first
          | (go_at_call 56; refine (spread_any g (64 * k) (padLen l.length - 64 * k) (blockB l k) _ (by exact hg2) (fun i => (padK_lo l (unhide HR) 8 _).1) (fun i => (padK_lo l (unhide HR) 8 _).2) (by exact unhide hBc)).mono ?_; rintro e w2 ⟨rfl, hb2d⟩; have hb2 : Below wr.heap.size wr w2 := (Below.refl wr.heap.size wr).drew.trans hb2d; have y0 : w2.cell? ⟨w.heap.size, 0, none⟩ = some (.int .u32 (st 0)) := (hb2.cell (p := ⟨w.heap.size, 0, none⟩) hH).trans x0; have y1 : w2.cell? ⟨w.heap.size, 1, none⟩ = some (.int .u32 (st 1)) := (hb2.cell (p := ⟨w.heap.size, 1, none⟩) hH).trans x1; have y2 : w2.cell? ⟨w.heap.size, 2, none⟩ = some (.int .u32 (st 2)) := (hb2.cell (p := ⟨w.heap.size, 2, none⟩) hH).trans x2; have y3 : w2.cell? ⟨w.heap.size, 3, none⟩ = some (.int .u32 (st 3)) := (hb2.cell (p := ⟨w.heap.size, 3, none⟩) hH).trans x3; have y4 : w2.cell? ⟨w.heap.size, 4, none⟩ = some (.int .u32 (st 4)) := (hb2.cell (p := ⟨w.heap.size, 4, none⟩) hH).trans x4; have y5 : w2.cell? ⟨w.heap.size, 5, none⟩ = some (.int .u32 (st 5)) := (hb2.cell (p := ⟨w.heap.size, 5, none⟩) hH).trans x5; have y6 : w2.cell? ⟨w.heap.size, 6, none⟩ = some (.int .u32 (st 6)) := (hb2.cell (p := ⟨w.heap.size, 6, none⟩) hH).trans x6; have y7 : w2.cell? ⟨w.heap.size, 7, none⟩ = some (.int .u32 (st 7)) := (hb2.cell (p := ⟨w.heap.size, 7, none⟩) hH).trans x7)
          | (go_at_call 55; rw [← cells8_eq st]; refine (mix_any st (W (blockB l k)) _ (unhide hBd) (unhide hW1) (by exact (unhide hTw).below hb2 (Nat.le_refl _))).mono ?_; rintro e w3 ⟨rfl, hb3⟩; rw [← unhide HS]; have hR3 := hide (((unhide hX').below hb2 hH).below hb3 (Nat.lt_of_lt_of_le hH hb2.size)); have q0 := (unhide hR3 0 (by omega)).1; have z0 := (unhide hR3 0 (by omega)).2; have q1 := (unhide hR3 1 (by omega)).1; have z1 := (unhide hR3 1 (by omega)).2; have q2 := (unhide hR3 2 (by omega)).1; have z2 := (unhide hR3 2 (by omega)).2; have q3 := (unhide hR3 3 (by omega)).1; have z3 := (unhide hR3 3 (by omega)).2; have q4 := (unhide hR3 4 (by omega)).1; have z4 := (unhide hR3 4 (by omega)).2; have q5 := (unhide hR3 5 (by omega)).1; have z5 := (unhide hR3 5 (by omega)).2; have q6 := (unhide hR3 6 (by omega)).1; have z6 := (unhide hR3 6 (by omega)).2; have q7 := (unhide hR3 7 (by omega)).1; have z7 := (unhide hR3 7 (by omega)).2; rw [cells8_eq (stAt l (k + 1))]))
        all_goals
          have hrow : Row32 _ _ 8 (stAt l (k + 1)) := (put8_row (unhide hR3) (stAt l (k + 1) 0) (stAt l (k + 1) 1) (stAt l (k + 1) 2) (stAt l (k + 1) 3) (stAt l (k + 1) 4) (stAt l (k + 1) 5) (stAt l (k + 1) 6) (stAt l (k + 1) 7)).congr fun j hj => of8_eq _ j hj
          have hP3 := put8_other8 (((unhide hP').below hb2 hg2).below hb3 (Nat.lt_of_lt_of_le hg2 hb2.size)) (show w.heap.size ≠ g by omega) (stAt l (k + 1) 0) (stAt l (k + 1) 1) (stAt l (k + 1) 2) (stAt l (k + 1) 3) (stAt l (k + 1) 4) (stAt l (k + 1) 5) (stAt l (k + 1) 6) (stAt l (k + 1) 7)
          have hb5 := put8_below (((unhide hb').trans (hb2.mono (Nat.le_of_lt hH))).trans (hb3.mono (Nat.le_trans (Nat.le_of_lt hH) hb2.size))) (Nat.le_refl w.heap.size) (stAt l (k + 1) 0) (stAt l (k + 1) 1) (stAt l (k + 1) 2) (stAt l (k + 1) 3) (stAt l (k + 1) 4) (stAt l (k + 1) 5) (stAt l (k + 1) 6) (stAt l (k + 1) 7)
          have hg5 : g < w3.heap.size := Nat.lt_of_lt_of_le (Nat.lt_of_lt_of_le hg2 hb2.size) hb3.size
          have R := hide (And.intro hrow (And.intro hP3 hb5))
          clear hrow hP3 hb5 q0 q1 q2 q3 q4 q5 q6 q7 z0 z1 z2 z3 z4 z5 z6 z7 y0 y1 y2 y3 y4 y5 y6 y7 x0 x1 x2 x3 x4 x5 x6 x7 hb2 hb3
          go_wp2_with fail
          refine ⟨⟨k + 1, by omega, by go_num, (unhide R).1, (unhide R).2.1, by simpa using hg5, (unhide R).2.2⟩, ?_⟩
          simp [intOf]; omega
      · obtain rfl : k = padLen l.length / 64 := by omega
        have hbd := stAt_lt l (padLen l.length / 64)
        generalize stAt l (padLen l.length / 64) = st at *
        have x0 := (hX 0 (by omega)).1
        have x1 := (hX 1 (by omega)).1
        have x2 := (hX 2 (by omega)).1
        have x3 := (hX 3 (by omega)).1
        have x4 := (hX 4 (by omega)).1
        have x5 := (hX 5 (by omega)).1
        have x6 := (hX 6 (by omega)).1
        have x7 := (hX 7 (by omega)).1
        have hb' := hide hbel
        have hbd' := hide hbd
        have hH : w.heap.size ≤ wr.heap.size := hbel.size
        have hge : (padLen l.length : Int) ≤ 64 * ((padLen l.length / 64 : Nat) : Int) := by have := unhide HN; omega
        clear hX hP hbel hbd
        go_wp2_with fail
        rw [← cells8_eq st]
        refine (text_any st _ (unhide hbd')).mono ?_
        rintro e w2 ⟨rfl, hb2⟩
        go_wp2_with fail
        go_ret
        exact ⟨by rw [unhide H]; rfl, (unhide hb').trans (hb2.mono hH)⟩
end Go.Proofs.YtnajpeaieeaflaaDoor.Sha
