/- spec.l01Consts, spec.l01Block: a block of sixty-four bytes taken into a state. -/
import Derived.Test.YtnajpeaieeaflaaDoorShaI
namespace Go.Proofs.YtnajpeaieeaflaaDoor.Sha
open Go.ChangeShapes Go.WideShapes Go.ChangeAt Go.RowKit
set_option linter.unusedVariables false

theorem kcells : (cells32 64 kW).toArray = #[Value.int IntKind.u32 1116352408, Value.int IntKind.u32 1899447441, Value.int IntKind.u32 3049323471, Value.int IntKind.u32 3921009573, Value.int IntKind.u32 961987163, Value.int IntKind.u32 1508970993, Value.int IntKind.u32 2453635748, Value.int IntKind.u32 2870763221, Value.int IntKind.u32 3624381080, Value.int IntKind.u32 310598401, Value.int IntKind.u32 607225278, Value.int IntKind.u32 1426881987, Value.int IntKind.u32 1925078388, Value.int IntKind.u32 2162078206, Value.int IntKind.u32 2614888103, Value.int IntKind.u32 3248222580, Value.int IntKind.u32 3835390401, Value.int IntKind.u32 4022224774, Value.int IntKind.u32 264347078, Value.int IntKind.u32 604807628, Value.int IntKind.u32 770255983, Value.int IntKind.u32 1249150122, Value.int IntKind.u32 1555081692, Value.int IntKind.u32 1996064986, Value.int IntKind.u32 2554220882, Value.int IntKind.u32 2821834349, Value.int IntKind.u32 2952996808, Value.int IntKind.u32 3210313671, Value.int IntKind.u32 3336571891, Value.int IntKind.u32 3584528711, Value.int IntKind.u32 113926993, Value.int IntKind.u32 338241895, Value.int IntKind.u32 666307205, Value.int IntKind.u32 773529912, Value.int IntKind.u32 1294757372, Value.int IntKind.u32 1396182291, Value.int IntKind.u32 1695183700, Value.int IntKind.u32 1986661051, Value.int IntKind.u32 2177026350, Value.int IntKind.u32 2456956037, Value.int IntKind.u32 2730485921, Value.int IntKind.u32 2820302411, Value.int IntKind.u32 3259730800, Value.int IntKind.u32 3345764771, Value.int IntKind.u32 3516065817, Value.int IntKind.u32 3600352804, Value.int IntKind.u32 4094571909, Value.int IntKind.u32 275423344, Value.int IntKind.u32 430227734, Value.int IntKind.u32 506948616, Value.int IntKind.u32 659060556, Value.int IntKind.u32 883997877, Value.int IntKind.u32 958139571, Value.int IntKind.u32 1322822218, Value.int IntKind.u32 1537002063, Value.int IntKind.u32 1747873779, Value.int IntKind.u32 1955562222, Value.int IntKind.u32 2024104815, Value.int IntKind.u32 2227730452, Value.int IntKind.u32 2361852424, Value.int IntKind.u32 2428436474, Value.int IntKind.u32 2756734187, Value.int IntKind.u32 3204031479, Value.int IntKind.u32 3329325298] := by kernel_rfl
set_option maxRecDepth 100000 in
theorem consts_any (w : World) :
    Calls Tryd.prog 69 #[] w fun e w' => e = .returned (.slice (some ⟨w.heap.size, 0, none⟩) 64 64) ∧ Row32 w' w.heap.size 64 kW ∧ w.heap.size < w'.heap.size ∧ Below w.heap.size w w' := by
  have hrow := hide (row_box w 64 kW 82 w.heap.size rfl)
  rw [kcells] at hrow
  go_enter Tryd.func69, Tryd.ntmps69
  go_wp2_with fail
  go_ret
  exact ⟨rfl, unhide hrow, by simp, (Below.refl _ _).alloc (Nat.le_refl _) _⟩

theorem info32 : (Tryd.prog.info? 82).map (fun i => (i.zero, i.size, i.bytes)) = some (some (.int .u32 0), 1, 4) := by kernel_rfl
theorem made32 {w w1 : World} {n : Nat} (h : w1.ownsRow w.heap.size 82 1 (.slice (some ⟨w.heap.size, 0, none⟩) n n) n (madeCells (Value.int .u32 0).cells (n * 1)).toList) : Row32 w1 w.heap.size n (fun _ => 0) := by
  intro j hj
  refine ⟨?_, h.frozenAt j⟩
  rw [h.cellAt j (by omega)]
  have e : (Value.int IntKind.u32 0).cells = #[Value.int IntKind.u32 0] := rfl
  rw [e, Nat.mul_one, toList_madeCells_one]
  simp [hj]
theorem wbE {x : Nat} (h : x < 4294967296) : bits BinOp.xor IntKind.u32 (bits BinOp.xor IntKind.u32 ((rotr x 6 : Nat) : Int) ((rotr x 11 : Nat) : Int)) ((rotr x 25 : Nat) : Int) = ((bE x : Nat) : Int) := xor3 (rotr_lt h 6) (rotr_lt h 11) (rotr_lt h 25)
theorem wbA {x : Nat} (h : x < 4294967296) : bits BinOp.xor IntKind.u32 (bits BinOp.xor IntKind.u32 ((rotr x 2 : Nat) : Int) ((rotr x 13 : Nat) : Int)) ((rotr x 22 : Nat) : Int) = ((bA x : Nat) : Int) := xor3 (rotr_lt h 2) (rotr_lt h 13) (rotr_lt h 22)
theorem wS0 {x : Nat} (h : x < 4294967296) : bits BinOp.xor IntKind.u32 (bits BinOp.xor IntKind.u32 ((rotr x 7 : Nat) : Int) ((rotr x 18 : Nat) : Int)) ((x : Int) / 8) = ((s0 x : Nat) : Int) := xor3 (rotr_lt h 7) (rotr_lt h 18) (div_lt h 8)
theorem wS1 {x : Nat} (h : x < 4294967296) : bits BinOp.xor IntKind.u32 (bits BinOp.xor IntKind.u32 ((rotr x 17 : Nat) : Int) ((rotr x 19 : Nat) : Int)) ((x : Int) / 1024) = ((s1 x : Nat) : Int) := xor3 (rotr_lt h 17) (rotr_lt h 19) (div_lt h 1024)
theorem add4 (a b c d : Nat) : ((a : Int) + (b : Int) + (c : Int) + (d : Int)) % 4294967296 = ((add (add (add a b) c) d : Nat) : Int) := by unfold add; omega
theorem rowSrc {w wr : World} {hb n : Nat} {f : Nat → Nat} {o : Obj} (h : Row32 wr hb n f) (hlt : hb < w.heap.size) (hbel : Below w.heap.size w wr) : ∀ j u, (cells32 n f)[j]? = some u → (wr.alloc o).cell? ((⟨hb, 0, none⟩ : Addr).add j) = some u := by
  intro j u hu
  have hj : j < n := by have := (List.getElem?_eq_some_iff.1 hu).1; rwa [cells32_len] at this
  rw [show (⟨hb, 0, none⟩ : Addr).add j = ⟨hb, j, none⟩ by unfold Addr.add; split <;> simp_all]
  rw [World.cell?_alloc_lt _ _ _ (Nat.lt_of_lt_of_le hlt hbel.size), (h j hj).1, ← hu]
  simp [cells32, hj]
theorem wch' {e f g : Nat} (h : e < 4294967296) (h2 : f < 4294967296) (h3 : g < 4294967296) :
    bits BinOp.xor IntKind.u32 (bits BinOp.and IntKind.u32 (e : Int) (f : Int)) (bits BinOp.and IntKind.u32 (bits BinOp.xor IntKind.u32 IntKind.u32.max (e : Int)) (g : Int)) = ((ch e f g : Nat) : Int) := by
  rw [wnot h, wand h h2, wand (not_lt h) h3, wxor (and_lt h) (and_lt (not_lt h)), ch_xor f g h]
theorem wmaj' {a b c : Nat} (h : a < 4294967296) (h2 : b < 4294967296) (h3 : c < 4294967296) :
    bits BinOp.xor IntKind.u32 (bits BinOp.xor IntKind.u32 (bits BinOp.and IntKind.u32 (a : Int) (b : Int)) (bits BinOp.and IntKind.u32 (a : Int) (c : Int))) (bits BinOp.and IntKind.u32 (b : Int) (c : Int)) = ((maj a b c : Nat) : Int) := by
  rw [wand h h2, wand h h3, wand h2 h3, wxor (and_lt h) (and_lt h), wxor (xor_lt (and_lt h) (and_lt h)) (and_lt h2), maj_xor]
theorem own_row32 {w : World} {base e n : Nat} {v : Value} {f : Nat → Nat} (h : w.ownsRow base e 1 v n (cells32 n f)) (hn : 0 < n) : ∃ g cap, v = .slice (some ⟨g, 0, none⟩) n cap ∧ base ≤ g ∧ g < w.heap.size ∧ Row32 w g n f := by
  rcases h.2 with ⟨_, h0⟩ | ⟨g, cap, cur, rfl, hb, hg, _, _, _, _⟩
  · omega
  · refine ⟨g, cap, rfl, hb, (h.lt g rfl).2, fun j hj => ⟨?_, h.frozenAt j⟩⟩
    rw [h.cellAt j (by omega)]
    simp [cells32, hj]
theorem drew_rows {w wr wq : World} {gv hb kb wb B : Nat} {st s f : Nat → Nat} (e : wr.drew = wq) (h1 : Row32 wr gv 8 st) (h2 : Row32 wr wb 64 f) (h3 : Row32 wr hb 8 s) (h4 : Row32 wr kb 64 kW) (h5 : Below B w wr) :
    Row32 wq gv 8 st ∧ Row32 wq wb 64 f ∧ Row32 wq hb 8 s ∧ Row32 wq kb 64 kW ∧ Below B w wq := by
  subst e
  exact ⟨h1, h2, h3, h4, h5.drew⟩
theorem rnd_arr (K Wt : Nat) (s : Nat → Nat) : (cells32 8 (rnd K Wt s)).toArray = #[.int .u32 (add (tT K Wt s) (tU s)), .int .u32 (s 0), .int .u32 (s 1), .int .u32 (s 2), .int .u32 (add (s 3) (tT K Wt s)), .int .u32 (s 4), .int .u32 (s 5), .int .u32 (s 6)] := rfl
theorem grown_set {w wr : World} {hb k : Nat} {v : Value} (h : w.grownBy wr (some hb)) : w.grownBy (wr.setCell ⟨hb, k, none⟩ v) (some hb) :=
  ⟨h.os, h.tape, h.output, by simpa using h.size, fun b hb' hne => (heap_setCell_other wr ⟨hb, k, none⟩ b v (fun e => hne (by simp [e]))).trans (h.block b hb' hne)⟩
theorem grown_drew {w wr : World} {r : Option Nat} (h : w.grownBy wr r) : w.grownBy wr.drew r := ⟨h.os, h.tape, h.output, h.size, h.block⟩
theorem grown_of_below {w w' : World} (h : Below w.heap.size w w') (r : Option Nat) : w.grownBy w' r := ⟨h.os, h.tape, h.output, h.size, fun k hk _ => h.block k hk⟩

set_option maxRecDepth 100000 in
set_option maxHeartbeats 16000000 in
theorem block_any (hb g off capb kb : Nat) (s : Nat → Nat) (B : Nat → Int) (w : World) (hs : ∀ j, s j < 4294967296) (hB0 : ∀ i, 0 ≤ B i) (hB1 : ∀ i, B i ≤ 255)
    (hrow : Row32 w hb 8 s) (hk : Row32 w kb 64 kW) (hby : ∀ i, i < 64 → w.cell? ⟨g, off + i, none⟩ = some (.int .u8 (B i))) (h1 : hb < w.heap.size) (h2 : g < w.heap.size) (h3 : kb < w.heap.size) :
    Calls Tryd.prog 70 #[.slice (some ⟨hb, 0, none⟩) 8 8, .slice (some ⟨g, off, none⟩) 64 capb, .slice (some ⟨kb, 0, none⟩) 64 64] w fun e w' => e = .returned (.tuple #[]) ∧ Row32 w' hb 8 (after (W B) s) ∧ w.grownBy w' (some hb) := by
  obtain ⟨i0, hi, hz0, hz1, hz2⟩ := info_parts info32
  have HS := hide hs
  have H0 := hide hB0
  have H1 := hide hB1
  have HR := hide hrow
  have HK := hide hk
  have HY := hide hby
  clear hs hB0 hB1 hrow hk hby
  go_enter Tryd.func70, Tryd.ntmps70
  go_wp2_with (at_make; refine wpList_make_full _ rfl _ _ 99 rfl w.heap.size 82 i0 _ 1 Tryd.underlying99 hi hz0 hz1 .i64 .i64 64 64 64 rfl rfl rfl rfl (by rw [hz2]; omega) (by unfold maxLen; omega) (Nat.le_refl _) ?_; intro w1 hown1 hg1)
  have hrow0 := hide (made32 hown1)
  have hbel0 := hide (made_below hg1)
  have hsz0 := (hown1.lt w.heap.size rfl).2
  clear hown1 hg1
  go_loopw [7] (fun i wr => ∃ k : Nat, k ≤ 16 ∧ i = .int .i64 k ∧ Row32 wr w.heap.size 64 (upTo k (W B)) ∧ w.heap.size < wr.heap.size ∧ Below w.heap.size w wr)
    (fun i _ => 16 - (intOf i).toNat)
  case atStart => exact ⟨0, Nat.zero_le _, rfl, (unhide hrow0).congr (fun j _ => rfl), hsz0, unhide hbel0⟩
  case round =>
    clear hrow0 hbel0 hsz0
    obtain ⟨k, hk, rfl, hX, hsz, hbel⟩ := hrel
    by_cases hlt : k < 16
    · have hcl : ∀ i, i < 64 → wr.cell? ⟨g, off + i, none⟩ = some (.int .u8 (B i)) := fun i hi => (hbel.cell (p := ⟨g, off + i, none⟩) h2).trans (unhide HY i hi)
      have e0 := hcl (4 * k) (by omega)
      have e1 := hcl (4 * k + 1) (by omega)
      have e2 := hcl (4 * k + 2) (by omega)
      have e3 := hcl (4 * k + 3) (by omega)
      have l0 := unhide H0 (4 * k)
      have g0 := unhide H1 (4 * k)
      have l1 := unhide H0 (4 * k + 1)
      have g1 := unhide H1 (4 * k + 1)
      have l2 := unhide H0 (4 * k + 2)
      have g2 := unhide H1 (4 * k + 2)
      have l3 := unhide H0 (4 * k + 3)
      have g3 := unhide H1 (4 * k + 3)
      have hgk := (hX k (by omega)).1
      have hgf := (hX k (by omega)).2
      have HX := hide hX
      have HB := hide hbel
      have HW := hide (W_lo B hlt)
      have hk0 : (0 : Int) ≤ (k : Int) := by omega
      have hk1 : (k : Int) < 64 := by omega
      have a0 : (0 : Int) ≤ 4 * (k : Int) := by omega
      have a1 : 4 * (k : Int) < 64 := by omega
      have a2 : 4 * (k : Int) + 1 < 64 := by omega
      have a3 : 4 * (k : Int) + 2 < 64 := by omega
      have a4 : 4 * (k : Int) + 3 < 64 := by omega
      clear hX hbel hcl
      go_wp2_with fail
      go_region
      go_wp2_with fail
      rw [wwd l0 g0 l1 g1 l2 g2 l3 g3, ← unhide HW]
      refine ⟨⟨k + 1, by omega, by go_num, (unhide HX).step, by simpa using hsz, ((unhide HB).setCell (by simp) _).drew⟩, ?_⟩
      simp [intOf]; omega
    · obtain rfl : k = 16 := by omega
      go_wp2_with fail
      go_loopw [8, 9, 10] (fun i _ _ wr => ∃ k : Nat, k ≤ 48 ∧ i = .int .i64 ((k : Int) + 16) ∧ Row32 wr w.heap.size 64 (upTo (k + 16) (W B)) ∧ w.heap.size < wr.heap.size ∧ Below w.heap.size w wr)
        (fun i _ _ _ => 64 - (intOf i).toNat)
      case atStart => exact ⟨0, Nat.zero_le _, rfl, hX, hsz, hbel⟩
      case round =>
        clear hX hbel hsz
        obtain ⟨k, hk, rfl, hX, hsz, hbel⟩ := hrel
        by_cases hlt : k < 48
        · have e1 := (hX k (by omega)).1
          have e2 := (hX (k + 1) (by omega)).1
          have e3 := (hX (k + 9) (by omega)).1
          have e4 := (hX (k + 14) (by omega)).1
          rw [upTo_in _ (by omega)] at e1 e2 e3 e4
          have hgk := (hX (k + 16) (by omega)).1
          have hgf := (hX (k + 16) (by omega)).2
          have HX := hide hX
          have HB := hide hbel
          have HW : Hid (W B (k + 16) = add (add (add (W B k) (s0 (W B (k + 1)))) (W B (k + 9))) (s1 (W B (k + 14)))) := by
            have h := W_hi B (i := k + 16) (by omega)
            rw [show k + 16 - 16 = k by omega, show k + 16 - 15 = k + 1 by omega, show k + 16 - 7 = k + 9 by omega, show k + 16 - 2 = k + 14 by omega] at h
            exact h
          have l1 := W_lt B (unhide H1) k
          have l2 := W_lt B (unhide H1) (k + 1)
          have l3 := W_lt B (unhide H1) (k + 9)
          have l4 := W_lt B (unhide H1) (k + 14)
          have hk0 : (0 : Int) ≤ (k : Int) := by omega
          have hk1 : (k : Int) + 16 < 64 := by omega
          have t2 : ((k : Int) + 1).toNat = k + 1 := by omega
          have t3 : ((k : Int) + 9).toNat = k + 9 := by omega
          have t4 : ((k : Int) + 14).toNat = k + 14 := by omega
          have t5 : ((k : Int) + 16).toNat = k + 16 := by omega
          have k1 : (k : Int) < 64 := by omega
          have n2 : (0 : Int) ≤ (k : Int) + 1 := by omega
          have n3 : (0 : Int) ≤ (k : Int) + 9 := by omega
          have n4 : (0 : Int) ≤ (k : Int) + 14 := by omega
          have n5 : (0 : Int) ≤ (k : Int) + 16 := by omega
          have k2 : (k : Int) + 1 < 64 := by omega
          have k3 : (k : Int) + 9 < 64 := by omega
          have k4 : (k : Int) + 14 < 64 := by omega
          have m1 : IntKind.i64.wrap (k : Int) = (k : Int) := wrap_small _ (by omega) (by omega)
          have m2 : IntKind.i64.wrap ((k : Int) + 16 - 15) = (k : Int) + 1 := by rw [show (k : Int) + 16 - 15 = (k : Int) + 1 by omega]; exact wrap_small _ (by omega) (by omega)
          have m3 : IntKind.i64.wrap ((k : Int) + 16 - 7) = (k : Int) + 9 := by rw [show (k : Int) + 16 - 7 = (k : Int) + 9 by omega]; exact wrap_small _ (by omega) (by omega)
          have m4 : IntKind.i64.wrap ((k : Int) + 16 - 2) = (k : Int) + 14 := by rw [show (k : Int) + 16 - 2 = (k : Int) + 14 by omega]; exact wrap_small _ (by omega) (by omega)
          have s2 : (k : Int) + 16 - 15 = (k : Int) + 1 := by omega
          have s4 : (k : Int) + 16 - 2 = (k : Int) + 14 := by omega
          clear hX hbel
          go_wp2_with fail
          clear s2 s4
          refine wp_region_still_tail 32 (by kernel_rfl) (by kernel_rfl) ?_
          simp only [List.take_succ_cons, List.take_zero, List.drop_succ_cons, List.drop_zero]
          iterate 8 still_step
          still_call (l01Turn_any _ 7 _ l2 (by omega) (by omega))
          still_step
          still_call (l01Turn_any _ 18 _ l2 (by omega) (by omega))
          iterate 12 still_step
          still_call (l01Turn_any _ 17 _ l4 (by omega) (by omega))
          still_step
          still_call (l01Turn_any _ 19 _ l4 (by omega) (by omega))
          iterate 6 still_step
          refine wpStill_nil ?_
          go_wp2_with fail
          refine ⟨?_, ?_⟩
          · repeat (apply Exists.intro)
            refine ⟨?_, rfl⟩
            rw [wS0 l2, wS1 l4, add4, ← unhide HW]
            exact ⟨k + 1, by omega, by go_num, by rw [show k + 1 + 16 = k + 16 + 1 by omega]; exact (unhide HX).step, by simpa using hsz, ((unhide HB).setCell (by simp) _).drew⟩
          · simp [intOf]; omega
        · obtain rfl : k = 48 := by omega
          have hXW : Row32 wr w.heap.size 64 (W B) := hX.congr fun j hj => upTo_in _ (by omega)
          have hrs := (unhide HR).below hbel h1
          have hrk := (unhide HK).below hbel h3
          have HXW := hide hXW
          have HRS := hide hrs
          have HRK := hide hrk
          have HB := hide hbel
          clear hX hXW hrs hrk hbel
          go_wp2_with (at_builtin; refine wpList_append_own _ rfl _ _ 99 rfl (w.heap.size + 1) 82 i0 (.int .u32 0) 1 4 Tryd.underlying99 hi hz0 hz1 hz2 rfl (by decide) _ _ _ rfl (World.ownsRow_made wr #[] 0 (by omega) (by unfold maxLen; omega) rfl) ⟨hb, 0, none⟩ 8 8 (cells32 8 s) rfl (cells32_len 8 s) (rowSrc (unhide HRS) h1 (unhide HB)) (cells32_one 8 s) (by unfold maxLen; omega) (by omega) (by simp; omega) ?_; intro v' w3 hown1 hgrow hnil)
          have hb3 : Below wr.heap.size wr w3 := ((Below.refl _ _).alloc (Nat.le_refl _) _).grown hgrow (by simp) (fun k hk => by cases hk; exact Nat.le_refl _)
          obtain ⟨gv, capv, rfl, hgv, hgv2, hrv⟩ := own_row32 hown1 (by omega)
          have Z := hide (And.intro hrv (And.intro ((unhide HXW).below hb3 hsz) (And.intro ((unhide HRS).below hb3 (by omega)) (And.intro ((unhide HRK).below hb3 (by omega)) ((unhide HB).trans (hb3.mono (by omega)))))))
          clear hown1 hgrow hnil hrv hb3 HXW HRS HRK HB
          go_wp2_with fail
          go_loopw [11, 12, 13, 14, 15, 16] (fun v i _ _ _ _ wr => ∃ k gv cap : Nat, k ≤ 64 ∧ i = .int .i64 k ∧ v = .slice (some ⟨gv, 0, none⟩) 8 cap ∧ w.heap.size < gv ∧ gv < wr.heap.size ∧ Row32 wr gv 8 (rounds (W B) s k) ∧ Row32 wr w.heap.size 64 (W B) ∧ Row32 wr hb 8 s ∧ Row32 wr kb 64 kW ∧ Below w.heap.size w wr)
            (fun _ i _ _ _ _ _ => 64 - (intOf i).toNat)
          case atStart => exact ⟨0, gv, capv, Nat.zero_le _, rfl, rfl, by omega, hgv2, (unhide Z).1, (unhide Z).2.1, (unhide Z).2.2.1, (unhide Z).2.2.2.1, (unhide Z).2.2.2.2⟩
          case round =>
            clear Z hgv hgv2 hsz
            obtain ⟨k, gv, cap, hk, rfl, rfl, hgv, hgv2, hV, hXW, hrs, hrk, hbel⟩ := hrel
            by_cases hlt : k < 64
            · have hbd := rounds_lt (f := W B) (unhide HS) k
              have HN : Hid (rounds (W B) s (k + 1) = rnd (kW k) (W B k) (rounds (W B) s k)) := rfl
              generalize rounds (W B) s k = st at *
              have x0 := (hV 0 (by omega)).1
              have x1 := (hV 1 (by omega)).1
              have x2 := (hV 2 (by omega)).1
              have x3 := (hV 3 (by omega)).1
              have x4 := (hV 4 (by omega)).1
              have x5 := (hV 5 (by omega)).1
              have x6 := (hV 6 (by omega)).1
              have x7 := (hV 7 (by omega)).1
              have xk := (hrk k hlt).1
              have xf := (hXW k hlt).1
              have b0 := hbd 0
              have b1 := hbd 1
              have b2 := hbd 2
              have b4 := hbd 4
              have b5 := hbd 5
              have b6 := hbd 6
              have qE := wbE b4
              have qC := wch' b4 b5 b6
              have qA := wbA b0
              have qM := wmaj' b0 b1 b2
              have p1 := uadd (st 7) (bE (st 4))
              have p2 := uadd (add (st 7) (bE (st 4))) (ch (st 4) (st 5) (st 6))
              have p3 := uadd (add (add (st 7) (bE (st 4))) (ch (st 4) (st 5) (st 6))) (kW k)
              have p4 : IntKind.u32.wrap (((add (add (add (st 7) (bE (st 4))) (ch (st 4) (st 5) (st 6))) (kW k) : Nat) : Int) + ((W B k : Nat) : Int)) = ((tT (kW k) (W B k) st : Nat) : Int) := uadd _ _
              have p5 : IntKind.u32.wrap (((bA (st 0) : Nat) : Int) + ((maj (st 0) (st 1) (st 2) : Nat) : Int)) = ((tU st : Nat) : Int) := uadd _ _
              have Z := hide (And.intro hV (And.intro hXW (And.intro hrs (And.intro hrk hbel))))
              have hk0 : (0 : Int) ≤ (k : Int) := by omega
              have hk1 : (k : Int) < 64 := by omega
              clear hV hXW hrs hrk hbel hbd
              go_wp2_with fail
              refine wp_region_still_lit (by kernel_rfl) (by kernel_rfl) ?_
              iterate 4 still_step
              still_call (l01Turn_any _ 6 _ b4 (by omega) (by omega))
              still_step
              still_call (l01Turn_any _ 11 _ b4 (by omega) (by omega))
              iterate 2 still_step
              still_call (l01Turn_any _ 25 _ b4 (by omega) (by omega))
              iterate 26 still_step
              refine wpStill_nil ?_
              go_wp2_with fail
              generalize hP : tT (kW k) (W B k) st = tp at *
              have HP := hide hP
              clear hP p1 p2 p3 p4 qE qC
              generalize hwq : wr.drew = wq
              have y := drew_rows hwq (unhide Z).1 (unhide Z).2.1 (unhide Z).2.2.1 (unhide Z).2.2.2.1 (unhide Z).2.2.2.2
              have hgq : gv < wq.heap.size := by rw [← hwq]; exact hgv2
              clear hwq Z x0 x1 x2 x3 x4 x5 x6 x7 xk xf hgv2
              have x0 := (y.1 0 (by omega)).1
              have x1 := (y.1 1 (by omega)).1
              have x2 := (y.1 2 (by omega)).1
              have x3 := (y.1 3 (by omega)).1
              have x4 := (y.1 4 (by omega)).1
              have x5 := (y.1 5 (by omega)).1
              have x6 := (y.1 6 (by omega)).1
              have Z := hide y
              clear y
              refine wp_region_still_lit (by kernel_rfl) (by kernel_rfl) ?_
              still_step
              still_call (l01Turn_any _ 2 _ b0 (by omega) (by omega))
              still_step
              still_call (l01Turn_any _ 13 _ b0 (by omega) (by omega))
              iterate 2 still_step
              still_call (l01Turn_any _ 22 _ b0 (by omega) (by omega))
              iterate 22 still_step
              refine wpStill_nil ?_
              go_wp2_with fail
              generalize hQ : tU st = tq at *
              have HQ := hide hQ
              clear hQ p5 qA qM
              have p6 := uadd tp tq
              have p7 := uadd (st 3) tp
              generalize hwp : ({ wq with drawn := wq.drawn + 1 } : World) = wp
              have y := drew_rows (show wq.drew = wp from hwp) (unhide Z).1 (unhide Z).2.1 (unhide Z).2.2.1 (unhide Z).2.2.2.1 (unhide Z).2.2.2.2
              have hgp : gv < wp.heap.size := by rw [← hwp]; exact hgq
              clear hwp Z x0 x1 x2 x3 x4 x5 x6 hgq
              have x0 := (y.1 0 (by omega)).1
              have x1 := (y.1 1 (by omega)).1
              have x2 := (y.1 2 (by omega)).1
              have x3 := (y.1 3 (by omega)).1
              have x4 := (y.1 4 (by omega)).1
              have x5 := (y.1 5 (by omega)).1
              have x6 := (y.1 6 (by omega)).1
              have Z := hide y
              clear y
              refine wp_region_still_tail 26 (by kernel_rfl) (by kernel_rfl) ?_
              simp only [List.take_succ_cons, List.take_zero, List.drop_succ_cons, List.drop_zero]
              iterate 26 still_step
              refine wpStill_nil ?_
              go_wp2_with fail
              refine ⟨?_, ?_⟩
              · repeat (apply Exists.intro)
                refine ⟨?_, rfl⟩
                have hnew := row_box wp 8 (rnd (kW k) (W B k) st) 82 wp.heap.size rfl
                rw [rnd_arr, unhide HP, unhide HQ, ← unhide HN] at hnew
                have hsz := (unhide Z).2.2.2.2.size
                refine ⟨k + 1, wp.heap.size, 8, by omega, by go_num, rfl, by omega, by simp, hnew, (unhide Z).2.1.alloc (by omega) _ _, (unhide Z).2.2.1.alloc (by omega) _ _, (unhide Z).2.2.2.1.alloc (by omega) _ _, ((unhide Z).2.2.2.2.alloc (by omega) _).drew⟩
              · simp [intOf]; omega
            · obtain rfl : k = 64 := by omega
              have HN : Hid (∀ j, after (W B) s j = add (rounds (W B) s 64 j) (s j)) := fun _ => rfl
              have hne : gv ≠ hb := by omega
              generalize rounds (W B) s 64 = st at *
              have hgr := grown_of_below hbel (some hb)
              go_wp2_with fail
              go_loopw [17] (fun i wr => ∃ k : Nat, k ≤ 8 ∧ i = .int .i64 k ∧ Row32 wr hb 8 (addTo s st k) ∧ Row32 wr gv 8 st ∧ w.grownBy wr (some hb))
                (fun i _ => 8 - (intOf i).toNat)
              case atStart => exact ⟨0, Nat.zero_le _, rfl, hrs.congr (fun j _ => (addTo_zero s st j).symm), hV, hgr⟩
              case round =>
                clear hV hXW hrs hrk hbel hgr
                obtain ⟨k, hk, rfl, hX, hV, hgr⟩ := hrel
                by_cases hlt : k < 8
                · have x1 := (hX k hlt).1
                  have x2 := (hV k hlt).1
                  have z1 := (hX k hlt).2
                  rw [addTo_at] at x1
                  have Z := hide (And.intro hX (And.intro hV hgr))
                  have hk0 : (0 : Int) ≤ (k : Int) := by omega
                  have hk1 : (k : Int) < 8 := by omega
                  have p1 := uadd (s k) (st k)
                  clear hX hV hgr
                  go_wp2_with fail
                  refine wp_region_still_tail 10 (by kernel_rfl) (by kernel_rfl) ?_
                  simp only [List.take_succ_cons, List.take_zero, List.drop_succ_cons, List.drop_zero]
                  iterate 10 still_step
                  refine wpStill_nil ?_
                  go_wp2_with fail
                  have hst : Row32 _ _ 8 (addTo s st (k + 1)) := ((unhide Z).1.set k (add (s k) (st k))).congr fun j _ => addTo_step s st k j
                  refine ⟨?_, ?_⟩
                  · repeat (apply Exists.intro)
                    refine ⟨?_, rfl⟩
                    exact ⟨k + 1, by omega, by go_num, hst, (unhide Z).2.1.other (a := ⟨hb, k, none⟩) (by simp; omega) _, grown_set (grown_drew (unhide Z).2.2)⟩
                  · simp [intOf]; omega
                · obtain rfl : k = 8 := by omega
                  have Z := hide (And.intro (hX.congr (g := after (W B) s) fun j hj => by rw [unhide HN j, addTo_in s st hj, add_comm]) hgr)
                  clear hX hV hgr
                  go_wp2_with fail
                  go_end0
                  exact ⟨rfl, (unhide Z).1, (unhide Z).2⟩
end Go.Proofs.YtnajpeaieeaflaaDoor.Sha
