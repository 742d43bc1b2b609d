/- spec.l01Hash, spec.Hash: what they answer of every slice of bytes that is not nil. -/
import Derived.Test.YtnajpeaieeaflaaDoorShaB
import Derived.Deep.RegionHeld3
namespace Go.Proofs.YtnajpeaieeaflaaDoor.Sha
open Go.ChangeShapes Go.WideShapes Go.ChangeAt Go.RowKit
set_option linter.unusedVariables false

def padL (l : List Int) (m : Nat) : List Int := (List.range m).map (padAt l)
theorem padL_len (l : List Int) (m : Nat) : (padL l m).length = m := by simp [padL]
theorem padL_succ (l : List Int) (m : Nat) : padL l (m + 1) = padL l m ++ [padAt l m] := by simp [padL, List.range_succ]
theorem padL_msg (l : List Int) : padL l l.length = l := by
  apply List.ext_getElem?
  intro i
  by_cases h : i < l.length
  · simp only [padL, List.getElem?_map, List.getElem?_range h, Option.map_some]
    unfold padAt padK
    rw [if_pos h]
    simp [List.getD, h]
  · rw [List.getElem?_eq_none (by simp [padL]; omega), List.getElem?_eq_none (by omega)]
theorem padAt_mark (l : List Int) : padAt l l.length = 128 := by unfold padAt padK; rw [if_neg (by omega), if_pos rfl]
theorem padAt_zero (l : List Int) {m : Nat} (h : l.length < m) (h2 : m < padLen l.length - 8) : padAt l m = 0 := by
  unfold padAt padK; rw [if_neg (by omega), if_neg (by omega), if_neg (by omega)]
theorem padAt_tail (l : List Int) {j : Nat} (hj : j < 8) : padAt l (padLen l.length - 8 + j) = lenByte l.length (7 - j) := by
  have := padLen_ge l.length
  unfold padAt padK
  rw [if_neg (by omega), if_neg (by omega), if_pos (by omega)]
  rw [show padLen l.length - 1 - (padLen l.length - 8 + j) = 7 - j by omega]
def lenOf : Value → Nat
  | .slice _ n _ => n
  | _ => 0
theorem own_len {w : World} {base e : Nat} {v : Value} {n : Nat} {xs : List Value} (h : w.ownsRow base e 1 v n xs) : lenOf v = n := by
  rcases h.2 with ⟨rfl, rfl⟩ | ⟨g, cap, cur, rfl, _⟩ <;> rfl
theorem own_shape {w : World} {base e : Nat} {v : Value} {n : Nat} {xs : List Value} (h : w.ownsRow base e 1 v n xs) : ∃ a cap, v = .slice a n cap := by
  rcases h.2 with ⟨rfl, rfl⟩ | ⟨g, cap, cur, rfl, _⟩
  · exact ⟨none, 0, rfl⟩
  · exact ⟨_, cap, rfl⟩
theorem own_row8 {w : World} {base n : Nat} {v : Value} {l : List Int} (h : w.ownsRow base 5 1 v n ((padL l n).map (Value.int .u8))) (hn : 0 < n) : ∃ g cap, v = .slice (some ⟨g, 0, none⟩) n cap ∧ n ≤ cap ∧ base ≤ g ∧ g < w.heap.size ∧ Row8 w g n (padAt l) := by
  rcases h.2 with ⟨_, h0⟩ | ⟨g, cap, cur, rfl, hb, hg, hnc, _, _, _⟩
  · omega
  · refine ⟨g, cap, rfl, hnc, hb, (h.lt g rfl).2, fun j hj => ⟨?_, h.frozenAt j⟩⟩
    rw [h.cellAt j (by omega)]
    simp [padL, hj]
theorem owns_made {base e : Nat} (w : World) (b : Nat) (hb : b = w.heap.size) (hB : base ≤ w.heap.size) : (w.alloc (.cells #[] e)).ownsRow base e 1 (.slice (some ⟨b, 0, none⟩) 0 0) 0 [] := by
  subst hb
  exact World.ownsRow_made w #[] 0 hB (by unfold maxLen; omega) rfl
theorem icells : (cells32 8 iW).toArray = #[Value.int IntKind.u32 1779033703, Value.int IntKind.u32 3144134277, Value.int IntKind.u32 1013904242, Value.int IntKind.u32 2773480762, Value.int IntKind.u32 1359893119, Value.int IntKind.u32 2600822924, Value.int IntKind.u32 528734635, Value.int IntKind.u32 1541459225] := by kernel_rfl
theorem srcBytes {w w0 : World} {ad : Addr} {l : List Int} (hc : l.length = 0 ∨ ∃ b off, some ad = some (⟨b, off, none⟩ : Addr) ∧ b < w.heap.size ∧ ∀ i, i < l.length → w.cell? ⟨b, off + i, none⟩ = some (.int .u8 (l.getD i 0))) (hb : Below w.heap.size w w0) :
    ∀ j u, (l.map (Value.int .u8))[j]? = some u → w0.cell? (ad.add j) = some u := by
  intro j u hu
  have hj : j < l.length := by have := (List.getElem?_eq_some_iff.1 hu).1; simpa using this
  rcases hc with h | ⟨b, off, e, hblk, hcell⟩
  · omega
  · cases e
    rw [show (⟨b, off, none⟩ : Addr).add j = ⟨b, off + j, none⟩ by unfold Addr.add; split <;> simp_all]
    rw [hb.cell (p := ⟨b, off + j, none⟩) hblk, hcell j hj, ← hu]
    simp [List.getD, hj]
theorem Row8.grown {w w' : World} {b n : Nat} {f : Nat → Int} {r : Option Nat} (h : Row8 w b n f) (hg : w.grownBy w' r) (hb : b < w.heap.size) (hr : some b ≠ r) : Row8 w' b n f := fun j hj => by
  rw [hg.cell_far ⟨b, j, none⟩ hb hr, hg.frozen_far ⟨b, j, none⟩ hb hr]; exact h j hj
theorem Row32.grown {w w' : World} {b n : Nat} {f : Nat → Nat} {r : Option Nat} (h : Row32 w b n f) (hg : w.grownBy w' r) (hb : b < w.heap.size) (hr : some b ≠ r) : Row32 w' b n f := fun j hj => by
  rw [hg.cell_far ⟨b, j, none⟩ hb hr, hg.frozen_far ⟨b, j, none⟩ hb hr]; exact h j hj
theorem far_ne {w : World} {base e b : Nat} {v : Value} {n : Nat} {xs : List Value} (h : w.ownsRow base e 1 v n xs) (hb : b < base) : some b ≠ v.ownBlock := fun q => by
  have := (h.lt b q.symm).1; omega
theorem wrap8 (x : Int) : IntKind.u8.wrap x = x % 256 := by simp [IntKind.wrap, IntKind.bits, IntKind.signed]
theorem byteOf_at (s : Nat → Nat) (k i : Nat) (hi : i < 4) : byteOf s (4 * k + i) = ((s k : Nat) : Int) / 2 ^ (24 - 8 * i) % 256 := by
  unfold byteOf
  rw [show (4 * k + i) / 4 = k by omega, show (4 * k + i) % 4 = i by omega]
theorem text_step {w : World} {base g cap k : Nat} {s : Nat → Nat}
    (h : w.ownsRow base 5 1 (.slice (some ⟨g, 0, none⟩) (4 * k + 4) cap) (4 * k + 4) (((List.range (4 * k)).map (byteOf s)).map (Value.int .u8) ++ [.int .u8 (IntKind.u8.wrap (((s k : Nat) : Int) / 16777216)), .int .u8 (IntKind.u8.wrap (((s k : Nat) : Int) / 65536)), .int .u8 (IntKind.u8.wrap (((s k : Nat) : Int) / 256)), .int .u8 (IntKind.u8.wrap ((s k : Nat) : Int))])) :
    w.ownsRow base 5 1 (.slice (some ⟨g, 0, none⟩) (4 * k + 4) cap) (4 * (k + 1)) (((List.range (4 * (k + 1))).map (byteOf s)).map (Value.int .u8)) := by
  have b0 := byteOf_at s k 0 (by omega)
  have b1 := byteOf_at s k 1 (by omega)
  have b2 := byteOf_at s k 2 (by omega)
  have b3 := byteOf_at s k 3 (by omega)
  rw [Nat.add_zero] at b0
  have e : List.range (4 * (k + 1)) = List.range (4 * k) ++ [4 * k, 4 * k + 1, 4 * k + 2, 4 * k + 3] := by
    rw [show 4 * (k + 1) = 4 * k + 1 + 1 + 1 + 1 by omega, List.range_succ, List.range_succ, List.range_succ, List.range_succ]; simp
  rw [wrap8, wrap8, wrap8, wrap8] at h
  rw [e, show 4 * (k + 1) = 4 * k + 4 by omega, List.map_append, List.map_append]
  simp only [List.map_cons, List.map_nil, b0, b1, b2, b3]
  simpa using h
theorem grow_below {B : Nat} {w0 w w' : World} {r : Option Nat} (h : Below B w0 w) (hg : w.grownBy w' r) (hB : B ≤ w.heap.size) (hr : ∀ k, r = some k → B ≤ k) : Below B w0 w' := h.grown hg hB hr

set_option maxRecDepth 100000 in
set_option maxHeartbeats 8000000 in
theorem l01Hash_any (ad : Addr) (cap : Nat) (l : List Int) (w : World) (h : Bytes w (.slice (some ad) l.length cap) l) (hs : l.length ≤ 65536) :
    Calls Tryd.prog 36 #[.slice (some ad) l.length cap] w fun e w' => e = .returned (.string (strOfNums (textL (stAt l (padLen l.length / 64))))) ∧ Below w.heap.size w w' := by
  obtain ⟨a, cap', hv, hm, hc, hr⟩ := h
  simp only [Value.slice.injEq] at hv
  obtain ⟨rfl, _, rfl⟩ := hv
  obtain ⟨i0, hi, hz0, hz1, hz2⟩ := info_parts info5
  have HC := hide hc
  have HR := hide hr
  clear hc hr hm
  have hNge := padLen_ge l.length
  have hNle : padLen l.length ≤ 65700 := by unfold padLen; omega
  have hrowH := hide (row_box w 8 iW 82 w.heap.size rfl)
  rw [icells] at hrowH
  go_enter Tryd.func36, Tryd.ntmps36
  have HB2 : Hid (Below w.heap.size w ((w.alloc (.cells #[Value.int IntKind.u32 1779033703, Value.int IntKind.u32 3144134277, Value.int IntKind.u32 1013904242, Value.int IntKind.u32 2773480762, Value.int IntKind.u32 1359893119, Value.int IntKind.u32 2600822924, Value.int IntKind.u32 528734635, Value.int IntKind.u32 1541459225] 82)).alloc (.cells #[] 5))) := ((Below.refl _ _).alloc (Nat.le_refl _) _).alloc (by simp) _
  go_wp2_with (first
    | (at_builtin; refine wpList_append_own _ rfl (.tmp 11) (.tmp 12) 22 rfl (w.heap.size + 1) 5 i0 (.int .u8 0) 1 1 Tryd.underlying22 hi hz0 hz1 hz2 rfl (by decide) _ 0 [] rfl (owns_made _ _ (by simp) (by simp)) ad l.length cap (l.map (Value.int .u8)) rfl (by simp) (srcBytes (unhide HC) (by exact unhide HB2)) (bytes_one l) (by unfold maxLen; omega) (by omega) (by simp) ?_; intro v1 w1 hown1 hgrow1 hnil1)
    | (at_builtin; refine wpList_append_own _ rfl (.tmp 13) (.tmp 14) 22 rfl (w.heap.size + 1) 5 i0 (.int .u8 0) 1 1 Tryd.underlying22 hi hz0 hz1 hz2 rfl (by decide) _ (0 + l.length) _ rfl (hown1.alloc _) ⟨w1.heap.size, 0, none⟩ 1 1 [.int .u8 128] rfl rfl (World.news_of_block (cs := #[.int .u8 128]) (t := 5) (fr := (0, 0)) (heap_alloc_new w1 _)) (by simp [Value.oneCell']) (by unfold maxLen; omega) (by omega) (by have := hgrow1.size; simp at this ⊢; omega) ?_; intro v2 w2 hown2 hgrow2 hnil2))
  have hall : w2.ownsRow (w.heap.size + 1) 5 1 v2 (l.length + 1) ((padL l (l.length + 1)).map (Value.int .u8)) := by
    rw [padL_succ, padL_msg, padAt_mark]
    simpa using hown2
  generalize hw0 : w.alloc (.cells #[Value.int IntKind.u32 1779033703, Value.int IntKind.u32 3144134277, Value.int IntKind.u32 1013904242, Value.int IntKind.u32 2773480762, Value.int IntKind.u32 1359893119, Value.int IntKind.u32 2600822924, Value.int IntKind.u32 528734635, Value.int IntKind.u32 1541459225] 82) = w0 at *
  have hz0' : w0.heap.size = w.heap.size + 1 := by rw [← hw0]; simp
  have hbH : Below w.heap.size w w0 := by rw [← hw0]; exact (Below.refl _ _).alloc (Nat.le_refl _) _
  have hb1 : Below (w.heap.size + 1) w0 w1 := ((Below.refl (w.heap.size + 1) w0).alloc (by omega) _).grown hgrow1 (by simp; omega) (fun k hk => by cases hk; exact Nat.le_refl _)
  have hb2 : Below (w.heap.size + 1) w0 w2 := (hb1.alloc (by have := hb1.size; omega) _).grown hgrow2 (by have := hb1.size; simp; omega) (fun k hk => (hown1.lt k hk).1)
  have Z := hide (And.intro hall (And.intro hb2 (And.intro hbH (And.intro hz0' (unhide hrowH)))))
  clear hall hb1 hb2 hown1 hown2 hgrow1 hgrow2 hnil1 hnil2 hw0 hz0' hbH HB2 hrowH
  go_loopw [4] (fun v wr => ∃ m : Nat, l.length + 1 ≤ m ∧ m ≤ padLen l.length - 8 ∧ wr.ownsRow (w.heap.size + 1) 5 1 v m ((padL l m).map (Value.int .u8)) ∧ Below (w.heap.size + 1) w0 wr)
    (fun v _ => padLen l.length - lenOf v)
  case atStart => exact ⟨l.length + 1, Nat.le_refl _, by omega, (unhide Z).1, (unhide Z).2.1⟩
  case round =>
    obtain ⟨m, hm1, hm2, hown, hbel⟩ := hrel
    have hlen := own_len hown
    obtain ⟨av, capv, rfl⟩ := own_shape hown
    have hsz := hbel.size
    have hz0' := (unhide Z).2.2.2.1
    have hge : w.heap.size + 1 ≤ wr.heap.size := by omega
    clear hz0' hsz hlen
    by_cases h56 : m % 64 = 56
    · have hme : m = padLen l.length - 8 := by unfold padLen at *; omega
      have ht : ((m : Int) % 64 != 56) = false := by simp; omega
      have Hm := hide hme
      have Y := hide (And.intro hown hbel)
      clear h56 hme hown hbel
      go_wp2_with fail
      go_loopw [4, 5] (fun v i wr => ∃ j : Nat, j ≤ 8 ∧ i = .int .i64 (7 - (j : Int)) ∧ wr.ownsRow (w.heap.size + 1) 5 1 v (padLen l.length - 8 + j) ((padL l (padLen l.length - 8 + j)).map (Value.int .u8)) ∧ Below (w.heap.size + 1) w0 wr)
        (fun _ i _ => (1 + intOf i).toNat)
      case atStart =>
        have e := unhide Hm
        subst e
        exact ⟨0, Nat.zero_le _, rfl, (unhide Y).1, (unhide Y).2⟩
      case round =>
        clear Hm Y hm1 hm2 ht hge
        obtain ⟨j, hj, rfl, hown, hbel⟩ := hrel
        have hsz := hbel.size
        have hz0' := (unhide Z).2.2.2.1
        have hge : w.heap.size + 1 ≤ wr.heap.size := by omega
        clear hz0' hsz
        by_cases hj8 : j < 8
        · have HZ := hide (show padL l (padLen l.length - 8 + j + 1) = padL l (padLen l.length - 8 + j) ++ [lenByte l.length (7 - j)] by rw [padL_succ, padAt_tail l hj8])
          go_wp2_with (at_builtin; refine wpList_append_own _ rfl _ _ 22 rfl (w.heap.size + 1) 5 i0 (.int .u8 0) 1 1 Tryd.underlying22 hi hz0 hz1 hz2 rfl (by decide) _ _ _ rfl (hown.alloc _) ⟨wr.heap.size, 0, none⟩ 1 1 [_] rfl rfl (World.news_of_block (cs := #[_]) (t := 5) (fr := (0, 0)) (heap_alloc_new wr _)) (by simp [Value.oneCell']) (by unfold maxLen; omega) (by omega) (by simp; omega) ?_; intro v' w3 hown1 hgrow hnil)
          have hn : w3.ownsRow (w.heap.size + 1) 5 1 v' (padLen l.length - 8 + (j + 1)) ((padL l (padLen l.length - 8 + (j + 1))).map (Value.int .u8)) := by
            rw [show padLen l.length - 8 + (j + 1) = padLen l.length - 8 + j + 1 by omega, unhide HZ]
            rw [show (8 : Int) * (l.length : Int) = (l.length : Int) * 8 by omega] at hown1
            simpa [lenByte] using hown1
          have hb3 : Below (w.heap.size + 1) w0 w3 := (hbel.alloc hge _).grown hgrow (by simp; omega) (fun k hk => (hown.lt k hk).1)
          clear hown1 hgrow hnil hown hbel
          refine ⟨⟨j + 1, by omega, by go_num, hn, hb3⟩, ?_⟩
          simp [intOf]; omega
        · obtain rfl : j = 8 := by omega
          rw [show padLen l.length - 8 + 8 = padLen l.length by omega] at hown
          obtain ⟨ga, capa, rfl, hcapa, hga, hga2, hrowA⟩ := own_row8 hown (by omega)
          have Y := hide (And.intro hrowA hbel)
          clear hown hrowA hbel
          go_wp2_with fail
          refine (consts_any wr).mono ?_
          rintro e w4 ⟨rfl, hrk, hC, hb4⟩
          have hb40 : Below w.heap.size w w4 := ((unhide Z).2.2.1.trans ((unhide Y).2.mono (Nat.le_succ _))).trans (hb4.mono (by omega))
          have hrH : Row32 w4 w.heap.size 8 iW := ((unhide Z).2.2.2.2.below (unhide Y).2 (Nat.lt_succ_self _)).below hb4 (by omega)
          have hrA := (unhide Y).1.below hb4 hga2
          have hgaC : ga < w4.heap.size := Nat.lt_of_lt_of_le hga2 hb4.size
          have hgaW : ga ≠ wr.heap.size := by omega
          have hN := hide (show (padLen l.length : Int) = 64 * ((padLen l.length / 64 : Nat) : Int) by unfold padLen; omega)
          have Y2 := hide (And.intro hrH (And.intro hrA (And.intro hrk hb40)))
          have hCC : w.heap.size < wr.heap.size := by omega
          generalize hcb : wr.heap.size = cb at *
          clear hrH hrA hrk hb40 hb4 Y hga2 hcb
          go_wp2_with fail
          go_loopw [7] (fun i wr => ∃ k : Nat, k ≤ padLen l.length / 64 ∧ i = .int .i64 (64 * (k : Int)) ∧ Row32 wr w.heap.size 8 (stAt l k) ∧ Row8 wr ga (padLen l.length) (padAt l) ∧ Row32 wr cb 64 kW ∧ ga < wr.heap.size ∧ cb < wr.heap.size ∧ Below w.heap.size w wr)
            (fun i _ => padLen l.length - (intOf i).toNat)
          case atStart => exact ⟨0, Nat.zero_le _, rfl, (unhide Y2).1, (unhide Y2).2.1, (unhide Y2).2.2.1, hgaC, hC, (unhide Y2).2.2.2⟩
          case round =>
            clear Y2 hgaC hC
            obtain ⟨k, hk, rfl, hX, hA, hK, hg1, hg2, hbel⟩ := hrel
            by_cases hlt : k < padLen l.length / 64
            · have HS : Hid (stAt l (k + 1) = after (W (blockB l k)) (stAt l k)) := rfl
              have hk0 : (0 : Int) ≤ 64 * (k : Int) := by omega
              have hk1 : 64 * (k : Int) + 64 ≤ (padLen l.length : Int) := by have := unhide hN; omega
              have hk1' : 64 * (k : Int) + 64 ≤ (capa : Int) := by omega
              have hk2 : 64 * (k : Int) < (padLen l.length : Int) := by omega
              have hk3 : (0 : Int) ≤ 64 * (k : Int) + 64 := by omega
              have hk4 : 64 * (k : Int) ≤ 64 * (k : Int) + 64 := by omega
              have t1 : (64 * (k : Int)).toNat = 64 * k := by omega
              have t2 : (64 * (k : Int) + 64).toNat = 64 * k + 64 := by omega
              have t3 : ¬ capa = 64 * k := by omega
              have t4 : 64 * k + 64 - 64 * k = 64 := by omega
              have hby : Hid (∀ i, i < 64 → wr.cell? ⟨ga, 64 * k + i, none⟩ = some (.int .u8 (blockB l k i))) := fun i hi => (hA (64 * k + i) (by omega)).1
              have Y := hide (And.intro hX (And.intro hA (And.intro hK hbel)))
              clear hX hA hK hbel
              go_wp2_with fail
              refine (block_any w.heap.size ga (64 * k) (capa - 64 * k) cb (stAt l k) (blockB l k) wr (stAt_lt l k) (fun i => (padK_lo l (unhide HR) 8 _).1) (fun i => (padK_lo l (unhide HR) 8 _).2) (unhide Y).1 (unhide Y).2.2.1 (unhide hby) (by omega) hg1 hg2).mono ?_
              rintro e w5 ⟨rfl, hr5, hgr5⟩
              have hsz5 := hgr5.size
              have hA5 := (unhide Y).2.1.grown hgr5 hg1 (by simp; omega)
              have hK5 := (unhide Y).2.2.1.grown hgr5 hg2 (by simp; omega)
              have hb5 := (unhide Y).2.2.2.grown hgr5 (unhide Y).2.2.2.size (fun q hq => by cases hq; exact Nat.le_refl _)
              rw [← unhide HS] at hr5
              have Y2 := hide (And.intro hr5 (And.intro hA5 (And.intro hK5 hb5)))
              clear hr5 hA5 hK5 hb5 hgr5 Y hby t1 t2 t3 t4
              go_wp2_with fail
              refine ⟨⟨k + 1, by omega, by go_num, (unhide Y2).1, (unhide Y2).2.1, (unhide Y2).2.2.1, by omega, by omega, (unhide Y2).2.2.2⟩, ?_⟩
              simp [intOf]; omega
            · obtain rfl : k = padLen l.length / 64 := by omega
              have hbd := stAt_lt l (padLen l.length / 64)
              generalize hst : stAt l (padLen l.length / 64) = st at *
              have HST := hide hst
              clear hst
              have hge4 : (padLen l.length : Int) ≤ 64 * ((padLen l.length / 64 : Nat) : Int) := by have := unhide hN; omega
              have Hbd := hide hbd
              have Y := hide (And.intro hX hbel)
              have hH4 : w.heap.size < wr.heap.size := by omega
              clear hX hA hK hbel hbd
              go_wp2_with fail
              obtain ⟨wo, hwo⟩ : ∃ wo, wo = wr := ⟨_, rfl⟩
              rw [← hwo] at hH4
              have Y : Hid (Row32 wo w.heap.size 8 st ∧ Below w.heap.size w wo) := by rw [hwo]; exact Y
              go_loopw [8, 9] (fun v i wr => ∃ k : Nat, k ≤ 8 ∧ i = .int .i64 k ∧ wr.ownsRow wo.heap.size 5 1 v (4 * k) (((List.range (4 * k)).map (byteOf st)).map (Value.int .u8)) ∧ Below wo.heap.size wo wr)
                (fun _ i _ => 8 - (intOf i).toNat)
              case atStart =>
                rw [hwo]
                exact ⟨0, Nat.zero_le _, rfl, World.ownsRow_made wr #[] 0 (Nat.le_refl _) (by unfold maxLen; omega) rfl, (Below.refl _ _).alloc (Nat.le_refl _) _⟩
              case round =>
                clear hwo
                obtain ⟨k, hk, rfl, hown, hb4⟩ := hrel
                have hge5 := hb4.size
                by_cases hlt4 : k < 8
                · have hrow := (unhide Y).1.below hb4 hH4
                  have x1 := (hrow k hlt4).1
                  have hbk := unhide Hbd k
                  have hk0 : (0 : Int) ≤ (k : Int) := by omega
                  have hk1 : (k : Int) < 8 := by omega
                  clear hrow
                  go_wp2_with fail
                  go_region_held3 (fun w' => w'.cell? ⟨w.heap.size, k, none⟩ = some (.int .u32 (st k))) (first | go_keep | (rw [hgrow.cell_far _ (by simp; omega) (far_ne hown hH4)]; assumption)) ((refine step_append_lies _ (by rfl) _ _ _ (by rfl) wo.heap.size 5 i0 _ 1 1 Tryd.underlying22 hi hz0 hz1 hz2 rfl (by omega) u8 (4 * k) (((List.range (4 * k)).map (byteOf st)).map (Value.int .u8)) (by rfl) ((hown.alloc _).drew) ⟨wr.heap.size, 0, none⟩ 4 4 [_, _, _, _] (by rfl) (by rfl) (World.news_of_block (cs := #[_, _, _, _]) (t := 5) (fr := (0, 0)) (heap_alloc_new wr _)) (by simp [Value.oneCell']) (by omega) (by unfold maxLen; omega) (by omega) (by simp; omega) (wr.heap.size + 1) (by simp) ?_; intro gg capg w1 hown1 hgrow hat hlt1))
                  have hn := text_step hown1
                  have hb6 : Below wo.heap.size wo w1 := ((hb4.alloc hge5 _).drew).grown hgrow (by simp; omega) (fun q hq => (hown.lt q hq).1)
                  have R := hide (And.intro hn hb6)
                  clear hown1 hgrow hat hlt1 hown hb4 hn hb6
                  go_wp2
                  refine ⟨?_, ?_⟩
                  · repeat (apply Exists.intro)
                    refine ⟨?_, rfl⟩
                    exact ⟨k + 1, by omega, by go_num, (unhide R).1, (unhide R).2⟩
                  · simp [intOf]; omega
                · obtain rfl : k = 8 := by omega
                  have hown' : wr.ownsRow wo.heap.size 5 1 _ 32 ((textL st).map (Value.int .u8)) := hown
                  have hc := conv_own (P := Tryd.prog) 22 9 5 Tryd.underlying22 Tryd.underlying5 Tryd.underlying9 hown'
                  have hb' := hide (((unhide Y).2).trans (hb4.mono (Nat.le_of_lt hH4)))
                  clear hown hown' hb4
                  go_wp2_with fail
                  go_ret
                  exact ⟨by rw [unhide HST]; rfl, unhide hb'⟩
    · have hm3 : m < padLen l.length - 8 := by unfold padLen at *; omega
      have hz := padAt_zero l (show l.length < m by omega) hm3
      have HZ := hide (show padL l (m + 1) = padL l m ++ [0] by rw [padL_succ, hz])
      have ht : ((m : Int) % 64 != 56) = true := by simp; omega
      clear h56 hz
      go_wp2_with (at_builtin; refine wpList_append_own _ rfl _ _ 22 rfl (w.heap.size + 1) 5 i0 (.int .u8 0) 1 1 Tryd.underlying22 hi hz0 hz1 hz2 rfl (by decide) _ _ _ rfl (hown.alloc _) ⟨wr.heap.size, 0, none⟩ 1 1 [.int .u8 0] rfl rfl (World.news_of_block (cs := #[.int .u8 0]) (t := 5) (fr := (0, 0)) (heap_alloc_new wr _)) (by simp [Value.oneCell']) (by unfold maxLen; omega) (by omega) (by simp; omega) ?_; intro v' w3 hown1 hgrow hnil)
      have hn : w3.ownsRow (w.heap.size + 1) 5 1 v' (m + 1) ((padL l (m + 1)).map (Value.int .u8)) := by rw [unhide HZ]; simpa using hown1
      have hb3 : Below (w.heap.size + 1) w0 w3 := (hbel.alloc hge _).grown hgrow (by simp; omega) (fun k hk => (hown.lt k hk).1)
      have hl2 := own_len hn
      clear hown1 hgrow hnil hown hbel
      refine ⟨⟨m + 1, by omega, by omega, hn, hb3⟩, ?_⟩
      rw [hl2]
      show padLen l.length - (m + 1) < padLen l.length - m
      omega

end Go.Proofs.YtnajpeaieeaflaaDoor.Sha
