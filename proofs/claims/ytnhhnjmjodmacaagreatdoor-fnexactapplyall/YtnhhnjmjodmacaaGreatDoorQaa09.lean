/- What the proof of the claim needs (joined by program): ShaH Door WrS. -/
import Derived.Test.YtnhhnjmjodmacaaGreatDoorQaa08
import Derived.Test.YtnhhnjmjodmacaaGreatDoorQaa00
import Derived.Deep.RegionHeld3
import Derived.WalkSmall
import Derived.LaidMore
import Derived.Stop.Joined
import Derived.Lib.LaidTab
import Derived.ChangeVars
namespace Go.Proofs.YtnhhnjmjodmacaaGreatDoor.Sha
set_option maxRecDepth 100000
set_option maxHeartbeats 8000000
open Go.ChangeShapes Go.WideShapes Go.ChangeAt Go.RowKit
set_option linter.unusedVariables false
def padL (l : List Int) (m : Nat) : List Int := (List.range m).map (padAt l)
theorem padL_succ (l : List Int) (m : Nat) : padL l (m + 1) = padL l m ++ [padAt l m] := by simp [padL, List.range_succ]
theorem padL_msg (l : List Int) : padL l l.length = l := by
 apply List.ext_getElem?
 intro i
 by_cases h : i < l.length
 ·simp only [padL, List.getElem?_map, List.getElem?_range h, Option.map_some]
  unfold padAt padK
  rw [if_pos h]
  simp [List.getD, h]
 ·rw [List.getElem?_eq_none (by simp [padL]; omega), List.getElem?_eq_none (by omega)]
theorem padAt_mark (l : List Int) : padAt l l.length = 128 := by unfold padAt padK; rw [if_neg (by omega), if_pos rfl]
theorem padAt_zero (l : List Int) {m : Nat} (h : l.length < m) (h2 : m < padLen l.length - 8) : padAt l m = 0 := by
 unfold padAt padK; rw [if_neg (by omega), if_neg (by omega), if_neg (by omega)]
theorem padAt_tail (l : List Int) {j : Nat} (hj : j < 8) : padAt l (padLen l.length - 8 + j) = lenByte l.length (7 - j) := by
 have := padLen_ge l.length
 unfold padAt padK
 rw [if_neg (by omega), if_neg (by omega), if_pos (by omega)]
 rw [show padLen l.length - 1 - (padLen l.length - 8 + j) = 7 - j by omega]
def lenOf : Value → Nat
 | .slice _ n _ => n
 | _ => 0
theorem own_len {w : World} {base e : Nat} {v : Value} {n : Nat} {xs : List Value} (h : w.ownsRow base e 1 v n xs) : lenOf v = n := by
 rcases h.2 with ⟨rfl, rfl⟩ | ⟨g, cap, cur, rfl, _⟩ <;> rfl
theorem own_shape {w : World} {base e : Nat} {v : Value} {n : Nat} {xs : List Value} (h : w.ownsRow base e 1 v n xs) : ∃ a cap, v = .slice a n cap := by
 rcases h.2 with ⟨rfl, rfl⟩ | ⟨g, cap, cur, rfl, _⟩
 ·exact ⟨none, 0, rfl⟩
 ·exact ⟨_, cap, rfl⟩
theorem own_row8 {w : World} {base n : Nat} {v : Value} {l : List Int} (h : w.ownsRow base 5 1 v n ((padL l n).map (Value.int .u8))) (hn : 0 < n) : ∃ g cap, v = .slice (some ⟨g, 0, none⟩) n cap ∧ n ≤ cap ∧ base ≤ g ∧ g < w.heap.size ∧ Row8 w g n (padAt l) := by
 rcases h.2 with ⟨_, h0⟩ | ⟨g, cap, cur, rfl, hb, hg, hnc, _, _, _⟩
 ·omega
 ·refine ⟨g, cap, rfl, hnc, hb, (h.lt g rfl).2, fun j hj => ⟨?_, h.frozenAt j⟩⟩
  rw [h.cellAt j (by omega)]
  simp [padL, hj]
theorem owns_made {base e : Nat} (w : World) (b : Nat) (hb : b = w.heap.size) (hB : base ≤ w.heap.size) : (w.alloc (.cells #[] e)).ownsRow base e 1 (.slice (some ⟨b, 0, none⟩) 0 0) 0 [] := by
 subst hb
 exact World.ownsRow_made w #[] 0 hB (by unfold maxLen; omega) rfl
theorem icells : (cells32 8 iW).toArray = #[Value.int IntKind.u32 1779033703, Value.int IntKind.u32 3144134277, Value.int IntKind.u32 1013904242, Value.int IntKind.u32 2773480762, Value.int IntKind.u32 1359893119, Value.int IntKind.u32 2600822924, Value.int IntKind.u32 528734635, Value.int IntKind.u32 1541459225] := by kernel_rfl
theorem srcBytes {w w0 : World} {ad : Addr} {l : List Int} (hc : l.length = 0 ∨ ∃ b off, some ad = some (⟨b, off, none⟩ : Addr) ∧ b < w.heap.size ∧ ∀ i, i < l.length → w.cell? ⟨b, off + i, none⟩ = some (.int .u8 (l.getD i 0))) (hb : Below w.heap.size w w0) :
  ∀ j u, (l.map (Value.int .u8))[j]? = some u → w0.cell? (ad.add j) = some u := by
 intro j u hu
 have hj : j < l.length := by have := (List.getElem?_eq_some_iff.1 hu).1; simpa using this
 rcases hc with h | ⟨b, off, e, hblk, hcell⟩
 ·omega
 ·cases e
  rw [show (⟨b, off, none⟩ : Addr).add j = ⟨b, off + j, none⟩ by unfold Addr.add; split <;> simp_all]
  rw [hb.cell (p := ⟨b, off + j, none⟩) hblk, hcell j hj, ← hu]
  simp [List.getD, hj]
theorem Row8.grown {w w' : World} {b n : Nat} {f : Nat → Int} {r : Option Nat} (h : Row8 w b n f) (hg : w.grownBy w' r) (hb : b < w.heap.size) (hr : some b ≠ r) : Row8 w' b n f := fun j hj => by
 rw [hg.cell_far ⟨b, j, none⟩ hb hr, hg.frozen_far ⟨b, j, none⟩ hb hr]; exact h j hj
theorem Row32.grown {w w' : World} {b n : Nat} {f : Nat → Nat} {r : Option Nat} (h : Row32 w b n f) (hg : w.grownBy w' r) (hb : b < w.heap.size) (hr : some b ≠ r) : Row32 w' b n f := fun j hj => by
 rw [hg.cell_far ⟨b, j, none⟩ hb hr, hg.frozen_far ⟨b, j, none⟩ hb hr]; exact h j hj
theorem far_ne {w : World} {base e b : Nat} {v : Value} {n : Nat} {xs : List Value} (h : w.ownsRow base e 1 v n xs) (hb : b < base) : some b ≠ v.ownBlock := fun q => by
 have := (h.lt b q.symm).1; omega
theorem wrap8 (x : Int) : IntKind.u8.wrap x = x % 256 := by simp [IntKind.wrap, IntKind.bits, IntKind.signed]
theorem byteOf_at (s : Nat → Nat) (k i : Nat) (hi : i < 4) : byteOf s (4 * k + i) = ((s k : Nat) : Int) / 2 ^ (24 - 8 * i) % 256 := by
 unfold byteOf
 rw [show (4 * k + i) / 4 = k by omega, show (4 * k + i) % 4 = i by omega]
theorem text_step {w : World} {base g cap k : Nat} {s : Nat → Nat}
  (h : w.ownsRow base 5 1 (.slice (some ⟨g, 0, none⟩) (4 * k + 4) cap) (4 * k + 4) (((List.range (4 * k)).map (byteOf s)).map (Value.int .u8) ++ [.int .u8 (IntKind.u8.wrap (((s k : Nat) : Int) / 16777216)), .int .u8 (IntKind.u8.wrap (((s k : Nat) : Int) / 65536)), .int .u8 (IntKind.u8.wrap (((s k : Nat) : Int) / 256)), .int .u8 (IntKind.u8.wrap ((s k : Nat) : Int))])) :
  w.ownsRow base 5 1 (.slice (some ⟨g, 0, none⟩) (4 * k + 4) cap) (4 * (k + 1)) (((List.range (4 * (k + 1))).map (byteOf s)).map (Value.int .u8)) := by
 have b0 := byteOf_at s k 0 (by omega)
 have b1 := byteOf_at s k 1 (by omega)
 have b2 := byteOf_at s k 2 (by omega)
 have b3 := byteOf_at s k 3 (by omega)
 rw [Nat.add_zero] at b0
 have e : List.range (4 * (k + 1)) = List.range (4 * k) ++ [4 * k, 4 * k + 1, 4 * k + 2, 4 * k + 3] := by
  rw [show 4 * (k + 1) = 4 * k + 1 + 1 + 1 + 1 by omega, List.range_succ, List.range_succ, List.range_succ, List.range_succ]; simp
 rw [wrap8, wrap8, wrap8, wrap8] at h
 rw [e, show 4 * (k + 1) = 4 * k + 4 by omega, List.map_append, List.map_append]
 simp only [List.map_cons, List.map_nil, b0, b1, b2, b3]
 simpa using h
theorem l01Hash_any (ad : Addr) (cap : Nat) (l : List Int) (w : World) (h : Bytes w (.slice (some ad) l.length cap) l) (hs : l.length ≤ 65536) :
  Calls Tryz.prog 106 #[.slice (some ad) l.length cap] w fun e w' => e = .returned (.string (strOfNums (textL (stAt l (padLen l.length / 64))))) ∧ Below w.heap.size w w' := by
 obtain ⟨a, cap', hv, hm, hc, hr⟩ := h
 simp only [Value.slice.injEq] at hv
 obtain ⟨rfl, _, rfl⟩ := hv
 obtain ⟨i0, hi, hz0, hz1, hz2⟩ := info_parts info5
 have HC := Hd hc
 have HR := Hd hr
 clear hc hr hm
 have hNge := padLen_ge l.length
 have hNle : padLen l.length ≤ 65700 := by unfold padLen; omega
 have hrowH := Hd (row_box w 8 iW 171 w.heap.size rfl)
 rw [icells] at hrowH
 go_enter Tryz.func106, Tryz.ntmps106
 have HB2 : Hid (Below w.heap.size w ((w.alloc (.cells #[Value.int IntKind.u32 1779033703, Value.int IntKind.u32 3144134277, Value.int IntKind.u32 1013904242, Value.int IntKind.u32 2773480762, Value.int IntKind.u32 1359893119, Value.int IntKind.u32 2600822924, Value.int IntKind.u32 528734635, Value.int IntKind.u32 1541459225] 171)).alloc (.cells #[] 5))) := ((Below.refl _ _).alloc (Nat.le_refl _) _).alloc (by simp) _
 go_wp2_with (first
  | (at_builtin; refine wpList_append_own _ rfl (.tmp 11) (.tmp 12) 127 rfl (w.heap.size + 1) 5 i0 (.int .u8 0) 1 1 Tryz.underlying127 hi hz0 hz1 hz2 rfl (by decide) _ 0 [] rfl (owns_made _ _ (by simp) (by simp)) ad l.length cap (l.map (Value.int .u8)) rfl (by simp) (srcBytes (uh HC) (by exact uh HB2)) (bytes_one l) (by unfold maxLen; omega) (by omega) (by simp) ?_; intro v1 w1 hown1 hgrow1 hnil1)
  | (at_builtin; refine wpList_append_own _ rfl (.tmp 13) (.tmp 14) 127 rfl (w.heap.size + 1) 5 i0 (.int .u8 0) 1 1 Tryz.underlying127 hi hz0 hz1 hz2 rfl (by decide) _ (0 + l.length) _ rfl (hown1.alloc _) ⟨w1.heap.size, 0, none⟩ 1 1 [.int .u8 128] rfl rfl (World.news_of_block (cs := #[.int .u8 128]) (t := 5) (fr := (0, 0)) (heap_alloc_new w1 _)) (by simp [Value.oneCell']) (by unfold maxLen; omega) (by omega) (by have := hgrow1.size; simp at this ⊢; omega) ?_; intro v2 w2 hown2 hgrow2 hnil2))
 have hall : w2.ownsRow (w.heap.size + 1) 5 1 v2 (l.length + 1) ((padL l (l.length + 1)).map (Value.int .u8)) := by
  rw [padL_succ, padL_msg, padAt_mark]
  simpa using hown2
 generalize hw0 : w.alloc (.cells #[Value.int IntKind.u32 1779033703, Value.int IntKind.u32 3144134277, Value.int IntKind.u32 1013904242, Value.int IntKind.u32 2773480762, Value.int IntKind.u32 1359893119, Value.int IntKind.u32 2600822924, Value.int IntKind.u32 528734635, Value.int IntKind.u32 1541459225] 171) = w0 at *
 have hz0' : w0.heap.size = w.heap.size + 1 := by rw [← hw0]; simp
 have hbH : Below w.heap.size w w0 := by rw [← hw0]; exact (Below.refl _ _).alloc (Nat.le_refl _) _
 have hb1 : Below (w.heap.size + 1) w0 w1 := ((Below.refl (w.heap.size + 1) w0).alloc (by omega) _).grown hgrow1 (by simp; omega) (fun k hk => by cases hk; exact Nat.le_refl _)
 have hb2 : Below (w.heap.size + 1) w0 w2 := (hb1.alloc (by have := hb1.size; omega) _).grown hgrow2 (by have := hb1.size; simp; omega) (fun k hk => (hown1.lt k hk).1)
 have Z := Hd (And.intro hall (And.intro hb2 (And.intro hbH (And.intro hz0' (uh hrowH)))))
 clear hall hb1 hb2 hown1 hown2 hgrow1 hgrow2 hnil1 hnil2 hw0 hz0' hbH HB2 hrowH
 go_loopw [4] (fun v wr => ∃ m : Nat, l.length + 1 ≤ m ∧ m ≤ padLen l.length - 8 ∧ wr.ownsRow (w.heap.size + 1) 5 1 v m ((padL l m).map (Value.int .u8)) ∧ Below (w.heap.size + 1) w0 wr)
  (fun v _ => padLen l.length - lenOf v)
 case atStart => exact ⟨l.length + 1, Nat.le_refl _, by omega, (uh Z).1, (uh Z).2.1⟩
 case round =>
  obtain ⟨m, hm1, hm2, hown, hbel⟩ := hrel
  have hlen := own_len hown
  obtain ⟨av, capv, rfl⟩ := own_shape hown
  have hsz := hbel.size
  have hz0' := (uh Z).2.2.2.1
  have hge : w.heap.size + 1 ≤ wr.heap.size := by omega
  clear hz0' hsz hlen
  by_cases h56 : m % 64 = 56
  ·have hme : m = padLen l.length - 8 := by unfold padLen at *; omega
   have ht : ((m : Int) % 64 != 56) = false := by simp; omega
   have Hm := Hd hme
   have Y := Hd (And.intro hown hbel)
   clear h56 hme hown hbel
   go_wp2_with fail
   go_loopw [4, 5] (fun v i wr => ∃ j : Nat, j ≤ 8 ∧ i = .int .i64 (7 - (j : Int)) ∧ wr.ownsRow (w.heap.size + 1) 5 1 v (padLen l.length - 8 + j) ((padL l (padLen l.length - 8 + j)).map (Value.int .u8)) ∧ Below (w.heap.size + 1) w0 wr)
    (fun _ i _ => (1 + intOf i).toNat)
   case atStart =>
    have e := uh Hm
    subst e
    exact ⟨0, Nat.zero_le _, rfl, (uh Y).1, (uh Y).2⟩
   case round =>
    clear Hm Y hm1 hm2 ht hge
    obtain ⟨j, hj, rfl, hown, hbel⟩ := hrel
    have hsz := hbel.size
    have hz0' := (uh Z).2.2.2.1
    have hge : w.heap.size + 1 ≤ wr.heap.size := by omega
    clear hz0' hsz
    by_cases hj8 : j < 8
    ·have HZ := Hd (show padL l (padLen l.length - 8 + j + 1) = padL l (padLen l.length - 8 + j) ++ [lenByte l.length (7 - j)] by rw [padL_succ, padAt_tail l hj8])
     go_wp2_with (at_builtin; refine wpList_append_own _ rfl _ _ 127 rfl (w.heap.size + 1) 5 i0 (.int .u8 0) 1 1 Tryz.underlying127 hi hz0 hz1 hz2 rfl (by decide) _ _ _ rfl (hown.alloc _) ⟨wr.heap.size, 0, none⟩ 1 1 [_] rfl rfl (World.news_of_block (cs := #[_]) (t := 5) (fr := (0, 0)) (heap_alloc_new wr _)) (by simp [Value.oneCell']) (by unfold maxLen; omega) (by omega) (by simp; omega) ?_; intro v' w3 hown1 hgrow hnil)
     have hn : w3.ownsRow (w.heap.size + 1) 5 1 v' (padLen l.length - 8 + (j + 1)) ((padL l (padLen l.length - 8 + (j + 1))).map (Value.int .u8)) := by
      rw [show padLen l.length - 8 + (j + 1) = padLen l.length - 8 + j + 1 by omega, uh HZ]
      rw [show (8 : Int) * (l.length : Int) = (l.length : Int) * 8 by omega] at hown1
      simpa [lenByte] using hown1
     have hb3 : Below (w.heap.size + 1) w0 w3 := (hbel.alloc hge _).grown hgrow (by simp; omega) (fun k hk => (hown.lt k hk).1)
     clear hown1 hgrow hnil hown hbel
     refine ⟨⟨j + 1, by omega, by go_num, hn, hb3⟩, ?_⟩
     simp [intOf]; omega
    ·obtain rfl : j = 8 := by omega
     rw [show padLen l.length - 8 + 8 = padLen l.length by omega] at hown
     obtain ⟨ga, capa, rfl, hcapa, hga, hga2, hrowA⟩ := own_row8 hown (by omega)
     have Y := Hd (And.intro hrowA hbel)
     clear hown hrowA hbel
     go_wp2_with fail
     refine (consts_any wr).mono ?_
     rintro e w4 ⟨rfl, hrk, hC, hb4⟩
     have hb40 : Below w.heap.size w w4 := ((uh Z).2.2.1.trans ((uh Y).2.mono (Nat.le_succ _))).trans (hb4.mono (by omega))
     have hrH : Row32 w4 w.heap.size 8 iW := ((uh Z).2.2.2.2.below (uh Y).2 (Nat.lt_succ_self _)).below hb4 (by omega)
     have hrA := (uh Y).1.below hb4 hga2
     have hgaC : ga < w4.heap.size := Nat.lt_of_lt_of_le hga2 hb4.size
     have hgaW : ga ≠ wr.heap.size := by omega
     have hN := Hd (show (padLen l.length : Int) = 64 * ((padLen l.length / 64 : Nat) : Int) by unfold padLen; omega)
     have Y2 := Hd (And.intro hrH (And.intro hrA (And.intro hrk hb40)))
     have hCC : w.heap.size < wr.heap.size := by omega
     generalize hcb : wr.heap.size = cb at *
     clear hrH hrA hrk hb40 hb4 Y hga2 hcb
     go_wp2_with fail
     go_loopw [7] (fun i wr => ∃ k : Nat, k ≤ padLen l.length / 64 ∧ i = .int .i64 (64 * (k : Int)) ∧ Row32 wr w.heap.size 8 (stAt l k) ∧ Row8 wr ga (padLen l.length) (padAt l) ∧ Row32 wr cb 64 kW ∧ ga < wr.heap.size ∧ cb < wr.heap.size ∧ Below w.heap.size w wr)
      (fun i _ => padLen l.length - (intOf i).toNat)
     case atStart => exact ⟨0, Nat.zero_le _, rfl, (uh Y2).1, (uh Y2).2.1, (uh Y2).2.2.1, hgaC, hC, (uh Y2).2.2.2⟩
     case round =>
      clear Y2 hgaC hC
      obtain ⟨k, hk, rfl, hX, hA, hK, hg1, hg2, hbel⟩ := hrel
      by_cases hlt : k < padLen l.length / 64
      ·have HS : Hid (stAt l (k + 1) = after (W (blockB l k)) (stAt l k)) := rfl
       have hk0 : (0 : Int) ≤ 64 * (k : Int) := by omega
       have hk1 : 64 * (k : Int) + 64 ≤ (padLen l.length : Int) := by have := uh hN; omega
       have hk1' : 64 * (k : Int) + 64 ≤ (capa : Int) := by omega
       have hk2 : 64 * (k : Int) < (padLen l.length : Int) := by omega
       have hk3 : (0 : Int) ≤ 64 * (k : Int) + 64 := by omega
       have hk4 : 64 * (k : Int) ≤ 64 * (k : Int) + 64 := by omega
       have t1 : (64 * (k : Int)).toNat = 64 * k := by omega
       have t2 : (64 * (k : Int) + 64).toNat = 64 * k + 64 := by omega
       have t3 : ¬ capa = 64 * k := by omega
       have t4 : 64 * k + 64 - 64 * k = 64 := by omega
       have hby : Hid (∀ i, i < 64 → wr.cell? ⟨ga, 64 * k + i, none⟩ = some (.int .u8 (blockB l k i))) := fun i hi => (hA (64 * k + i) (by omega)).1
       have Y := Hd (And.intro hX (And.intro hA (And.intro hK hbel)))
       clear hX hA hK hbel
       go_wp2_with fail
       refine (block_any w.heap.size ga (64 * k) (capa - 64 * k) cb (stAt l k) (blockB l k) wr (stAt_lt l k) (fun i => (padK_lo l (uh HR) 8 _).1) (fun i => (padK_lo l (uh HR) 8 _).2) (uh Y).1 (uh Y).2.2.1 (uh hby) (by omega) hg1 hg2).mono ?_
       rintro e w5 ⟨rfl, hr5, hgr5⟩
       have hsz5 := hgr5.size
       have hA5 := (uh Y).2.1.grown hgr5 hg1 (by simp; omega)
       have hK5 := (uh Y).2.2.1.grown hgr5 hg2 (by simp; omega)
       have hb5 := (uh Y).2.2.2.grown hgr5 (uh Y).2.2.2.size (fun q hq => by cases hq; exact Nat.le_refl _)
       rw [← uh HS] at hr5
       have Y2 := Hd (And.intro hr5 (And.intro hA5 (And.intro hK5 hb5)))
       clear hr5 hA5 hK5 hb5 hgr5 Y hby t1 t2 t3 t4
       go_wp2_with fail
       refine ⟨⟨k + 1, by omega, by go_num, (uh Y2).1, (uh Y2).2.1, (uh Y2).2.2.1, by omega, by omega, (uh Y2).2.2.2⟩, ?_⟩
       simp [intOf]; omega
      ·obtain rfl : k = padLen l.length / 64 := by omega
       have hbd := stAt_lt l (padLen l.length / 64)
       generalize hst : stAt l (padLen l.length / 64) = st at *
       have HST := Hd hst
       clear hst
       have hge4 : (padLen l.length : Int) ≤ 64 * ((padLen l.length / 64 : Nat) : Int) := by have := uh hN; omega
       have Hbd := Hd hbd
       have Y := Hd (And.intro hX hbel)
       have hH4 : w.heap.size < wr.heap.size := by omega
       clear hX hA hK hbel hbd
       go_wp2_with fail
       obtain ⟨wo, hwo⟩ : ∃ wo, wo = wr := ⟨_, rfl⟩
       rw [← hwo] at hH4
       have Y : Hid (Row32 wo w.heap.size 8 st ∧ Below w.heap.size w wo) := by rw [hwo]; exact Y
       go_loopw [8, 9] (fun v i wr => ∃ k : Nat, k ≤ 8 ∧ i = .int .i64 k ∧ wr.ownsRow wo.heap.size 5 1 v (4 * k) (((List.range (4 * k)).map (byteOf st)).map (Value.int .u8)) ∧ Below wo.heap.size wo wr)
        (fun _ i _ => 8 - (intOf i).toNat)
       case atStart =>
        rw [hwo]
        exact ⟨0, Nat.zero_le _, rfl, World.ownsRow_made wr #[] 0 (Nat.le_refl _) (by unfold maxLen; omega) rfl, (Below.refl _ _).alloc (Nat.le_refl _) _⟩
       case round =>
        clear hwo
        obtain ⟨k, hk, rfl, hown, hb4⟩ := hrel
        have hge5 := hb4.size
        by_cases hlt4 : k < 8
        ·have hrow := (uh Y).1.below hb4 hH4
         have x1 := (hrow k hlt4).1
         have hbk := uh Hbd k
         have hk0 : (0 : Int) ≤ (k : Int) := by omega
         have hk1 : (k : Int) < 8 := by omega
         clear hrow
         go_wp2_with fail
         go_region_held3 (fun w' => w'.cell? ⟨w.heap.size, k, none⟩ = some (.int .u32 (st k))) (first | go_keep | (rw [hgrow.cell_far _ (by simp; omega) (far_ne hown hH4)]; assumption)) ((refine step_append_lies _ (by rfl) _ _ _ (by rfl) wo.heap.size 5 i0 _ 1 1 Tryz.underlying127 hi hz0 hz1 hz2 rfl (by omega) u8 (4 * k) (((List.range (4 * k)).map (byteOf st)).map (Value.int .u8)) (by rfl) ((hown.alloc _).drew) ⟨wr.heap.size, 0, none⟩ 4 4 [_, _, _, _] (by rfl) (by rfl) (World.news_of_block (cs := #[_, _, _, _]) (t := 5) (fr := (0, 0)) (heap_alloc_new wr _)) (by simp [Value.oneCell']) (by omega) (by unfold maxLen; omega) (by omega) (by simp; omega) (wr.heap.size + 1) (by simp) ?_; intro gg capg w1 hown1 hgrow hat hlt1))
         have hn := text_step hown1
         have hb6 : Below wo.heap.size wo w1 := ((hb4.alloc hge5 _).drew).grown hgrow (by simp; omega) (fun q hq => (hown.lt q hq).1)
         have R := Hd (And.intro hn hb6)
         clear hown1 hgrow hat hlt1 hown hb4 hn hb6
         go_wp2
         refine ⟨?_, ?_⟩
         ·repeat (apply Exists.intro)
          refine ⟨?_, rfl⟩
          exact ⟨k + 1, by omega, by go_num, (uh R).1, (uh R).2⟩
         ·simp [intOf]; omega
        ·obtain rfl : k = 8 := by omega
         have hown' : wr.ownsRow wo.heap.size 5 1 _ 32 ((textL st).map (Value.int .u8)) := hown
         have hc := conv_own (P := Tryz.prog) 127 9 5 Tryz.underlying127 Tryz.underlying5 Tryz.underlying9 hown'
         have hb' := Hd (((uh Y).2).trans (hb4.mono (Nat.le_of_lt hH4)))
         clear hown hown' hb4
         go_wp2_with fail
         go_ret
         exact ⟨by rw [uh HST]; rfl, uh hb'⟩
  ·have hm3 : m < padLen l.length - 8 := by unfold padLen at *; omega
   have hz := padAt_zero l (show l.length < m by omega) hm3
   have HZ := Hd (show padL l (m + 1) = padL l m ++ [0] by rw [padL_succ, hz])
   have ht : ((m : Int) % 64 != 56) = true := by simp; omega
   clear h56 hz
   go_wp2_with (at_builtin; refine wpList_append_own _ rfl _ _ 127 rfl (w.heap.size + 1) 5 i0 (.int .u8 0) 1 1 Tryz.underlying127 hi hz0 hz1 hz2 rfl (by decide) _ _ _ rfl (hown.alloc _) ⟨wr.heap.size, 0, none⟩ 1 1 [.int .u8 0] rfl rfl (World.news_of_block (cs := #[.int .u8 0]) (t := 5) (fr := (0, 0)) (heap_alloc_new wr _)) (by simp [Value.oneCell']) (by unfold maxLen; omega) (by omega) (by simp; omega) ?_; intro v' w3 hown1 hgrow hnil)
   have hn : w3.ownsRow (w.heap.size + 1) 5 1 v' (m + 1) ((padL l (m + 1)).map (Value.int .u8)) := by rw [uh HZ]; simpa using hown1
   have hb3 : Below (w.heap.size + 1) w0 w3 := (hbel.alloc hge _).grown hgrow (by simp; omega) (fun k hk => (hown.lt k hk).1)
   have hl2 := own_len hn
   clear hown1 hgrow hnil hown hbel
   refine ⟨⟨m + 1, by omega, by omega, hn, hb3⟩, ?_⟩
   rw [hl2]
   show padLen l.length - (m + 1) < padLen l.length - m
   omega

theorem own : ownKnob Tryz.prog.godebug = none := by kernel_rfl
theorem laidOut : laidOutB Tryz.prog = true := by kernel_rfl
theorem gFirst : Tryz.prog.globalNamed "loop.example/g00220/impl.firstWords" = some 0 := by kernel_rfl
theorem gFirstType : (Tryz.prog.globals[0]?).map (·.type) = some 187 := by kernel_rfl
theorem gRound : Tryz.prog.globalNamed "loop.example/g00220/impl.roundWords" = some 1 := by kernel_rfl
theorem gRoundType : (Tryz.prog.globals[1]?).map (·.type) = some 191 := by kernel_rfl
theorem cellsA : Tryz.prog.cellsOf 187 = 8 := by kernel_rfl
theorem cellsB : Tryz.prog.cellsOf 191 = 64 := by kernel_rfl
theorem cellsE : Tryz.prog.cellsOf 171 = 1 := by kernel_rfl
def firstCells : Array Value := (cells32 8 iW).toArray
def roundCells : Array Value := (cells32 64 kW).toArray
def firstH {H : Type} : DataW H := .agg ((List.range 8).map fun j => .lit (.int .u32 (iW j)))
def roundH {H : Type} : DataW H := .agg ((List.range 64).map fun j => .lit (.int .u32 (kW j)))
theorem first_of {W : World} (h : W.var? Tryz.prog "loop.example/g00220/impl.firstWords" = some firstCells) : First W := by
 have hc : ∀ i, i < 8 → W.cell? ⟨0, i, none⟩ = some (.int .u32 (iW i)) := fun i hi => by
  rw [World.var?_cell gFirst h i]; simp [firstCells, cells32, hi]
 exact ⟨World.block_lt_of_cell? W _ (hc 0 (by omega)), hc⟩
theorem table_of {W : World} (h : W.var? Tryz.prog "loop.example/g00220/impl.roundWords" = some roundCells) : Table W := by
 have hc : ∀ i, i < 64 → W.cell? ⟨1, i, none⟩ = some (.int .u32 (kW i)) := fun i hi => by
  rw [World.var?_cell gRound h i]; simp [roundCells, cells32, hi]
 exact ⟨World.block_lt_of_cell? W _ (hc 0 (by omega)), hc⟩
theorem reads_first {H : Type} (enc : TypeId × Value → H) (W : World) (sp : Nat → Bool) : DataW.trod enc Tryz.prog W 0 sp true 3 187 firstCells.toList = some (firstH, []) := by kernel_rfl
theorem reads_round {H : Type} (enc : TypeId × Value → H) (W : World) (sp : Nat → Bool) : DataW.trod enc Tryz.prog W 0 sp true 3 191 roundCells.toList = some (roundH, []) := by kernel_rfl
theorem vars_again {H : Type} {enc : TypeId × Value → H} {W W' : World} {sp : Nat → Bool} {gs : List (DataW H)} {q : List MemPlace}
  (hv1 : W.var? Tryz.prog "loop.example/g00220/impl.firstWords" = some firstCells) (hv2 : W.var? Tryz.prog "loop.example/g00220/impl.roundWords" = some roundCells)
  (hV : DataW.TrodVars enc Tryz.prog W (fun _ => true) ["loop.example/g00220/impl.firstWords", "loop.example/g00220/impl.roundWords"] gs q) (hb : Below W.heap.size W W') :
  gs = [firstH, roundH] ∧ ∃ pv, DataW.TrodVars enc Tryz.prog W' sp ["loop.example/g00220/impl.firstWords", "loop.example/g00220/impl.roundWords"] [firstH, roundH] pv := by
 match gs, hV with
 | d1 :: gs1, ⟨g, t, cs, fuel, p, q1, hg, ht, hvar, hd, hV1, _⟩ =>
  match gs1, hV1 with
  | d2 :: gs2, ⟨g', t', cs', fuel', p', q2, hg', ht', hvar', hd', hV2, _⟩ =>
   match gs2, hV2 with
   | [], _ =>
    obtain rfl := Option.some.inj (gFirst.symm.trans hg)
    obtain rfl := Option.some.inj (gFirstType.symm.trans ht)
    obtain rfl := Option.some.inj (gRound.symm.trans hg')
    obtain rfl := Option.some.inj (gRoundType.symm.trans ht')
    obtain rfl : cs = firstCells := Option.some.inj (hvar.symm.trans hv1)
    obtain rfl : cs' = roundCells := Option.some.inj (hvar'.symm.trans hv2)
    obtain ⟨rfl, rfl⟩ := DataW.Trod.unique (v := .agg firstCells) ⟨fuel, hd⟩ ⟨3, reads_first enc W _⟩
    obtain ⟨rfl, rfl⟩ := DataW.Trod.unique (v := .agg roundCells) ⟨fuel', hd'⟩ ⟨3, reads_round enc W _⟩
    exact ⟨rfl, _, 0, 187, firstCells, 3, [], _, hg, ht, var?_below hb gFirst (first_of hv1).1 hv1, reads_first enc W' sp,
     ⟨1, 191, roundCells, 3, [], [], hg', ht', var?_below hb gRound (table_of hv2).1 hv2, reads_round enc W' sp, rfl, rfl⟩, rfl⟩
theorem First.below {w w' : World} (h : First w) (hb : Below w.heap.size w w') : First w' :=
 ⟨Nat.lt_of_lt_of_le h.1 hb.size, fun i hi => by rw [hb.cell (p := ⟨0, i, none⟩) h.1]; exact h.2 i hi⟩

end Go.Proofs.YtnhhnjmjodmacaaGreatDoor.Sha
namespace Go.Proofs.YtnhhnjmjodmacaaGreatDoor
set_option maxRecDepth 100000
set_option maxHeartbeats 8000000
open Go.ChangeShapes Go.WideShapes Go.ChangeAt Go.RowKit
set_option linter.unusedVariables false
def bytesI (s : ByteArray) : List Int := s.data.toList.map fun c => (c.toNat : Int)
theorem bytesI_len (s : ByteArray) : (bytesI s).length = s.size := by
 unfold bytesI; rw [List.length_map, Array.length_toList]; rfl
theorem bytesI_range (s : ByteArray) : ∀ i, 0 ≤ (bytesI s).getD i 0 ∧ (bytesI s).getD i 0 ≤ 255 := by
 intro i
 unfold bytesI
 by_cases h : i < s.data.toList.length
 ·rw [List.getD_eq_getElem?_getD, List.getElem?_map, List.getElem?_eq_getElem h]
  have := (s.data.toList[i]).toNat_lt
  simp only [Option.map_some, Option.getD_some]; omega
 ·rw [List.getD_eq_getElem?_getD, List.getElem?_map, List.getElem?_eq_none (by omega)]; simp
theorem strCells_eq (s : ByteArray) : Lib.strCells s = (bytesI s).map (Value.int .u8) := by
 simp [Lib.strCells, bytesI, Function.comp_def]
theorem wpList_append_str {P : Program} (w : World) {ops : Array Oper} {rest : List Oper} {o : Oper} {a : Act} {Q : Exit → Act → World → Prop} (hgd : o.guard = none) (sl x : Operand) (t u : TypeId)
  (ho : o.op = .call { callee := .builtin .append, args := #[sl, x], argTypes := #[t, u] })
  (base : Nat) (e : TypeId) (i : TypeInfo) (ht : P.underlying t = some (.slice e)) (hu : P.underlying u = some .string) (hi : P.info? e = some i) (hz : i.zero = some (.int .u8 0)) (hsize : i.size = 1) (hby : i.bytes = 1)
  (v : Value) (n : Nat) (xs : List Value) (hs : a.eval sl = v) (hown : w.ownsRow base e 1 v n xs) (s : ByteArray) (hx : a.eval x = .string s) (hpos : 0 < n + s.size) (hb : n + s.size ≤ 140737488355328) (hbase : base ≤ w.heap.size)
  (h : ∀ g cap w', w'.ownsRow base e 1 (.slice (some ⟨g, 0, none⟩) (n + s.size) cap) (n + s.size) (xs ++ Lib.strCells s) → w.grownBy w' v.ownBlock → (v.ownBlock = some g ∨ g = w.heap.size) → wpList P ops Q rest (a.put o.dst (.slice (some ⟨g, 0, none⟩) (n + s.size) cap)) w') :
  wpList P ops Q (o :: rest) a w := by
 refine wpList_plain hgd fun K hK => ?_
 obtain ⟨v', w', hr, h2, h3, h4⟩ := Lib.run_append_own_string (P := P) w base t u o.type e i ht hu hi hz hsize hby v n xs hown s (by unfold maxLen; omega) hb hbase
 unfold Oper.wp execOp
 simp only [ho, resolve, invoke, builtin, Sem.run_bind, Sem.run_pure, Result.andThen_ok, List.map_toArray, List.map_cons, List.map_nil, hs, hx, hr]
 obtain ⟨g, cap, rfl, _, _⟩ := h2.form hpos
 refine hK _ _ (h g cap w' h2 h3 ?_)
 rcases str_lies ht hu hi hz hsize hby hown hb hr h4 with e | e
 ·left; rw [← e]; rfl
 ·right; simpa [Value.ownBlock] using e
end Go.Proofs.YtnhhnjmjodmacaaGreatDoor
