/- spec.l10Advance, walked. (Written by py/npd.py.) -/
import Derived.Test.YtljolldacpkeeaaNpC
namespace Go.Proofs.Ytljolldacpkeeaa
open Go.ChangeShapes Go.WideShapes Go.ChangeAt Go.RowKit Go.Deep
set_option linter.unusedVariables false
set_option linter.unusedSimpArgs false

/-- Those below n whose place is at k or behind it, without id. -/
def haveTo (id : Int) (mt : List Int) (k : Int) (n : Nat) : List Int := ((List.range n).map (fun i : Nat => (i : Int))).filter (fun i => decide (k ≤ mt.getD i.toNat 0) && decide (i ≠ id))
/-- The place up to which all is committed, of the first k. -/
def advTo (id tm cm : Int) (lg : List En) (mt mb : List Int) : Nat → Int
  | 0 => cm
  | k + 1 => if cm < (k : Int) + 1 ∧ (lg.getD k default).t = tm then (if mostB (fun x => decide (x ∈ id :: haveTo id mt ((k : Int) + 1) 7)) mb then (k : Int) + 1 else advTo id tm cm lg mt mb k) else cm
theorem haveTo_succ (id : Int) (mt : List Int) (k : Int) (n : Nat) : haveTo id mt k (n + 1) = haveTo id mt k n ++ (if k ≤ mt.getD n 0 ∧ (n : Int) ≠ id then [(n : Int)] else []) := by
  unfold haveTo
  rw [List.range_succ, List.map_append, List.filter_append]
  congr 1
  rw [List.map_cons, List.map_nil, List.filter_cons, List.filter_nil, Int.toNat_natCast]
  generalize mt.getD n 0 = z
  by_cases h1 : k ≤ z <;> by_cases h2 : (n : Int) = id <;> simp [h1, h2]
theorem haveTo_len (id : Int) (mt : List Int) (k : Int) (n : Nat) : (haveTo id mt k n).length ≤ n := by
  unfold haveTo
  exact Nat.le_trans (List.length_filter_le _ _) (by simp)
theorem own_one (w : World) (x : Int) (D : Nat) (hD : D ≤ w.heap.size) : OwnI D (w.alloc (.cells #[.int .i64 x] 3)) (.slice (some ⟨w.heap.size, 0, none⟩) [x].length 1) [x] :=
  ⟨rfl, .inr ⟨w.heap.size, 1, #[.int .i64 x], rfl, hD, heap_alloc_new w _, Nat.le_refl _, by unfold maxLen; omega, rfl, rfl⟩⟩
set_option maxRecDepth 100000 in
set_option maxHeartbeats 1500000 in
theorem l10Advance_any (id tm vo ro cm el wt : Int) (up : Bool) (lg : List En) (st vs nx mt : List Int) (la : Option Addr) (lc : Nat) (sa : Option Addr) (sc : Nat) (va : Option Addr) (vc : Nat) (na : Option Addr) (nc : Nat) (ma : Option Addr) (mc : Nat) (w : World) (hE : Ens w (.slice la lg.length lc) lg) (hS : Ints w (.slice sa st.length sc) st) (hM : Ints w (.slice ma mt.length mc) mt) (hz : ∀ i, (lg.getD i default).d.size ≤ 1048576) (hl : lg.length ≤ 60) (hg : CfgOK lg) (hx : mt.length = 7) (hm : (mbAt lg st lg.length).length ≤ 7) (hc : 0 ≤ cm) :
    Calls Try.prog 59 #[.agg #[.int .i64 id, .int .i64 tm, .int .i64 vo, .slice la lg.length lc, .slice sa st.length sc, .int .i64 ro, .slice va vs.length vc, .slice na nx.length nc, .slice ma mt.length mc, .int .i64 cm, .int .i64 el, .int .i64 wt, .bool up]] w fun e w' => e = .returned (.agg #[.int .i64 id, .int .i64 tm, .int .i64 vo, .slice la lg.length lc, .slice sa st.length sc, .int .i64 ro, .slice va vs.length vc, .slice na nx.length nc, .slice ma mt.length mc, .int .i64 (advTo id tm cm lg mt (mbAt lg st lg.length) lg.length), .int .i64 el, .int .i64 wt, .bool up]) ∧ Below w.heap.size w w' := by
  obtain ⟨i0, hi, hz0, hz1, hz2⟩ := info_parts info3
  have BB := ((Below.refl w.heap.size w).alloc (Nat.le_refl _) (.cells #[.int .i64 id, .int .i64 tm, .int .i64 vo, .slice la lg.length lc, .slice sa st.length sc, .int .i64 ro, .slice va vs.length vc, .slice na nx.length nc, .slice ma mt.length mc, .int .i64 cm, .int .i64 el, .int .i64 wt, .bool up] 29)).alloc (by simp) (.cells #[.int .i64 0, .int .i64 0, .int .i64 0, .slice none 0 0, .slice none 0 0, .int .i64 0, .slice none 0 0, .slice none 0 0, .slice none 0 0, .int .i64 0, .int .i64 0, .int .i64 0, .bool false] 29)
  have B0 := hide BB
  have X0 := hide ((Blk.new w #[.int .i64 id, .int .i64 tm, .int .i64 vo, .slice la lg.length lc, .slice sa st.length sc, .int .i64 ro, .slice va vs.length vc, .slice na nx.length nc, .slice ma mt.length mc, .int .i64 cm, .int .i64 el, .int .i64 wt, .bool up] 29 w.heap.size rfl).alloc (.cells #[.int .i64 0, .int .i64 0, .int .i64 0, .slice none 0 0, .slice none 0 0, .int .i64 0, .slice none 0 0, .slice none 0 0, .slice none 0 0, .int .i64 0, .int .i64 0, .int .i64 0, .bool false] 29))
  have R0 := hide (Blk.new (w.alloc (.cells #[.int .i64 id, .int .i64 tm, .int .i64 vo, .slice la lg.length lc, .slice sa st.length sc, .int .i64 ro, .slice va vs.length vc, .slice na nx.length nc, .slice ma mt.length mc, .int .i64 cm, .int .i64 el, .int .i64 wt, .bool up] 29)) #[.int .i64 0, .int .i64 0, .int .i64 0, .slice none 0 0, .slice none 0 0, .int .i64 0, .slice none 0 0, .slice none 0 0, .slice none 0 0, .int .i64 0, .int .i64 0, .int .i64 0, .bool false] 29 (w.heap.size + 1) (by simp))
  have HC := hide (l10Members_any id tm vo ro cm el wt up lg st vs nx mt la lc sa sc va vc na nc ma mc _ (hE.below BB) (hS.below BB) hz (by omega) hg)
  have HE := hide hE
  have HM := hide hM
  generalize hmb : mbAt lg st lg.length = mb at *
  obtain ⟨res, hres⟩ : ∃ res, res = advTo id tm cm lg mt mb lg.length := ⟨_, rfl⟩
  rw [← hres]
  have HRES := hide hres
  have HX := hide hx
  clear hE hS hz hg hM BB hmb hres hx
  go_enter Try.func59, Try.ntmps59
  have x0 := (unhide X0).cell 0 rfl
  have x1 := (unhide X0).cell 1 rfl
  have x2 := (unhide X0).cell 2 rfl
  have x3 := (unhide X0).cell 3 rfl
  have x4 := (unhide X0).cell 4 rfl
  have x5 := (unhide X0).cell 5 rfl
  have x6 := (unhide X0).cell 6 rfl
  have x7 := (unhide X0).cell 7 rfl
  have x8 := (unhide X0).cell 8 rfl
  have x9 := (unhide X0).cell 9 rfl
  have x10 := (unhide X0).cell 10 rfl
  have x11 := (unhide X0).cell 11 rfl
  have x12 := (unhide X0).cell 12 rfl
  go_wp2_with fail
  generalize (w.alloc (.cells #[.int .i64 id, .int .i64 tm, .int .i64 vo, .slice la lg.length lc, .slice sa st.length sc, .int .i64 ro, .slice va vs.length vc, .slice na nx.length nc, .slice ma mt.length mc, .int .i64 cm, .int .i64 el, .int .i64 wt, .bool up] 29)).alloc (.cells #[.int .i64 0, .int .i64 0, .int .i64 0, .slice none 0 0, .slice none 0 0, .int .i64 0, .slice none 0 0, .slice none 0 0, .slice none 0 0, .int .i64 0, .int .i64 0, .int .i64 0, .bool false] 29) = w0 at *
  refine (unhide HC).mono ?_
  rintro e w1 ⟨lv, rfl, hlv, hb1⟩
  have HLV := hide hlv
  have hs0 := (unhide X0).1
  have hs1 := hb1.size
  have X1 := hide ((unhide X0).below hb1)
  have B1 := hide ((unhide B0).trans (hb1.mono (unhide B0).size))
  have R1 := hide ((unhide R0).below hb1)
  have hsr := (unhide R0).1
  clear x0 x1 x2 x3 x4 x5 x6 x7 x8 x9 x10 x11 x12 HC hlv hb1 B0 X0 R0
  have x0 := (unhide X1).cell 0 rfl
  have x1 := (unhide X1).cell 1 rfl
  have x2 := (unhide X1).cell 2 rfl
  have x3 := (unhide X1).cell 3 rfl
  have x4 := (unhide X1).cell 4 rfl
  have x5 := (unhide X1).cell 5 rfl
  have x6 := (unhide X1).cell 6 rfl
  have x7 := (unhide X1).cell 7 rfl
  have x8 := (unhide X1).cell 8 rfl
  have x9 := (unhide X1).cell 9 rfl
  have x10 := (unhide X1).cell 10 rfl
  have x11 := (unhide X1).cell 11 rfl
  have x12 := (unhide X1).cell 12 rfl
  go_wp2_with fail
  have hw1r : w.heap.size + 1 < w1.heap.size := by omega
  clear x0 x1 x2 x3 x4 x5 x6 x7 x8 x9 x10 x11 x12
  go_loopw [4] (fun i wr => ∃ k : Nat, k ≤ lg.length ∧ i = .int .i64 (k : Int) ∧ Hid (res = advTo id tm cm lg mt mb k) ∧ Hid (Below w1.heap.size w1 wr)) (fun i _ => (intOf i).toNat)
  case atStart => exact ⟨lg.length, Nat.le_refl _, rfl, HRES, hide (Below.refl _ _)⟩
  case round =>
    obtain ⟨k, hk, rfl, HRk, HBk⟩ := hrel
    have hks := (unhide HBk).size
    have XK := (unhide X1).below (unhide HBk)
    have HBW := hide ((unhide B1).trans ((unhide HBk).mono (unhide B1).size))
    have x0 := XK.cell 0 rfl
    have x1 := XK.cell 1 rfl
    have x2 := XK.cell 2 rfl
    have x3 := XK.cell 3 rfl
    have x4 := XK.cell 4 rfl
    have x5 := XK.cell 5 rfl
    have x6 := XK.cell 6 rfl
    have x7 := XK.cell 7 rfl
    have x8 := XK.cell 8 rfl
    have x9 := XK.cell 9 rfl
    have x10 := XK.cell 10 rfl
    have x11 := XK.cell 11 rfl
    have x12 := XK.cell 12 rfl
    clear XK
    by_cases hgt : cm < (k : Int)
    · obtain ⟨q, rfl⟩ : ∃ q, k = q + 1 := ⟨k - 1, by omega⟩
      obtain ⟨b, off, rfl, hbn, s0, s1, s2⟩ := ((unhide HE).below (unhide HBW)).term q (by omega)
      clear s1 s2
      have h9 : cm < (q : Int) + 1 := by omega
      have q3 : IntKind.i64.wrap ((q : Int) + 1 - 1) = (q : Int) := by rw [show (q : Int) + 1 - 1 = (q : Int) by omega]; exact wrapSm _ (by omega) (by omega)
      have q4 : IntKind.i64.wrap (q : Int) = (q : Int) := wrapSm _ (by omega) (by omega)
      have q5 : (0 : Int) ≤ (q : Int) := by omega
      have q6 : (q : Int) < (lg.length : Int) := by omega
      have HU := hide (show advTo id tm cm lg mt mb (q + 1) = (if cm < (q : Int) + 1 ∧ (lg.getD q default).t = tm then (if mostB (fun x => decide (x ∈ id :: haveTo id mt ((q : Int) + 1) 7)) mb then (q : Int) + 1 else advTo id tm cm lg mt mb q) else cm) from rfl)
      generalize (lg.getD q default).t = t0 at *
      by_cases ht : t0 = tm
      · have ht' : tm = t0 := ht.symm
        subst ht'
        have HU1 := hide (show advTo id tm cm lg mt mb (q + 1) = (if mostB (fun x => decide (x ∈ id :: haveTo id mt ((q : Int) + 1) 7)) mb then (q : Int) + 1 else advTo id tm cm lg mt mb q) by rw [unhide HU, if_pos ⟨h9, rfl⟩])
        clear HU
        go_upto_region 3 with fail
        have HBq := hide (below_drewN (Below.refl wr.heap.size wr) 1)
        refine wp_region_noPanic ?_
        refine wp_region_held_drew (S := (fun wx => wx.cell? ⟨w.heap.size, 1, none⟩ = some (.int .i64 tm) ∧ wx.cell? ⟨w.heap.size, 3, none⟩ = some (.slice (some ⟨b, off, none⟩) lg.length lc) ∧ wx.cell? ⟨w.heap.size, 9, none⟩ = some (.int .i64 cm) ∧ wx.cell? ⟨b, off + q * 3, none⟩ = some (.int .i64 tm))) (by kernel_rfl) ?_ (fun hHeld => ?_)
        · exact ⟨x1, x3, x9, s0⟩
        refine wpAnyH_take (i := 0) (oi := _) (v := ?_) rfl (by kernel_rfl) (by kernel_rfl) (by kernel_rfl) (fun _ _ _ h => h) (Or.inl ⟨by rfl, ?_⟩) (by assumption) ?_
        rotate_left 1
        · (intro wq hSw; (try dsimp only at hSw); (try simp only [List.getElem_toArray, List.getElem_cons_succ, List.getElem_cons_zero]); go_simp; try with_reducible rfl)
        (try simp only [Act.put, List.getElem_toArray, List.getElem_cons_succ, List.getElem_cons_zero, List.setIfInBounds_toArray, List.set_cons_zero, List.set_cons_succ])
        refine wpAnyH_take (i := 1) (oi := _) (v := ?_) rfl (by kernel_rfl) (by kernel_rfl) (by kernel_rfl) (fun _ _ _ h => h) (Or.inl ⟨by rfl, ?_⟩) (by assumption) ?_
        rotate_left 1
        · (intro wq hSw; (try dsimp only at hSw); (try simp only [List.getElem_toArray, List.getElem_cons_succ, List.getElem_cons_zero]); go_simp; try with_reducible rfl)
        (try simp only [Act.put, List.getElem_toArray, List.getElem_cons_succ, List.getElem_cons_zero, List.setIfInBounds_toArray, List.set_cons_zero, List.set_cons_succ])
        refine wpAnyH_take (i := 2) (oi := _) (v := ?_) rfl (by kernel_rfl) (by kernel_rfl) (by kernel_rfl) (fun _ _ _ h => h) (Or.inl ⟨by rfl, ?_⟩) (by assumption) ?_
        rotate_left 1
        · (intro wq hSw; (try dsimp only at hSw); (try simp only [List.getElem_toArray, List.getElem_cons_succ, List.getElem_cons_zero]); go_simp; try with_reducible rfl)
        (try simp only [Act.put, List.getElem_toArray, List.getElem_cons_succ, List.getElem_cons_zero, List.setIfInBounds_toArray, List.set_cons_zero, List.set_cons_succ])
        refine wpAnyH_take (i := 3) (oi := _) (v := ?_) rfl (by kernel_rfl) (by kernel_rfl) (by kernel_rfl) (fun _ _ _ h => h) (Or.inl ⟨by rfl, ?_⟩) (by assumption) ?_
        rotate_left 1
        · (intro wq hSw; (try dsimp only at hSw); (try simp only [List.getElem_toArray, List.getElem_cons_succ, List.getElem_cons_zero]); go_simp; try with_reducible rfl)
        (try simp only [Act.put, List.getElem_toArray, List.getElem_cons_succ, List.getElem_cons_zero, List.setIfInBounds_toArray, List.set_cons_zero, List.set_cons_succ])
        refine wpAnyH_take (i := 4) (oi := _) (v := ?_) rfl (by kernel_rfl) (by kernel_rfl) (by kernel_rfl) (fun _ _ _ h => h) (Or.inl ⟨by rfl, ?_⟩) (by assumption) ?_
        rotate_left 1
        · (intro wq hSw; (try dsimp only at hSw); (try simp only [List.getElem_toArray, List.getElem_cons_succ, List.getElem_cons_zero]); go_simp; try with_reducible rfl)
        (try simp only [Act.put, List.getElem_toArray, List.getElem_cons_succ, List.getElem_cons_zero, List.setIfInBounds_toArray, List.set_cons_zero, List.set_cons_succ])
        refine wpAnyH_take (i := 5) (oi := _) (v := ?_) rfl (by kernel_rfl) (by kernel_rfl) (by kernel_rfl) (fun _ _ _ h => h) (Or.inl ⟨by rfl, ?_⟩) (by assumption) ?_
        rotate_left 1
        · (intro wq hSw; (try dsimp only at hSw); (try simp only [List.getElem_toArray, List.getElem_cons_succ, List.getElem_cons_zero]); go_simp; try with_reducible rfl)
        (try simp only [Act.put, List.getElem_toArray, List.getElem_cons_succ, List.getElem_cons_zero, List.setIfInBounds_toArray, List.set_cons_zero, List.set_cons_succ])
        refine wpAnyH_take (i := 6) (oi := _) (v := ?_) rfl (by kernel_rfl) (by kernel_rfl) (by kernel_rfl) (fun _ _ _ h => h) (Or.inl ⟨by rfl, ?_⟩) (by assumption) ?_
        rotate_left 1
        · (intro wq hSw; (try dsimp only at hSw); (try simp only [List.getElem_toArray, List.getElem_cons_succ, List.getElem_cons_zero]); go_simp; try with_reducible rfl)
        (try simp only [Act.put, List.getElem_toArray, List.getElem_cons_succ, List.getElem_cons_zero, List.setIfInBounds_toArray, List.set_cons_zero, List.set_cons_succ])
        refine wpAnyH_take (i := 7) (oi := _) (v := ?_) rfl (by kernel_rfl) (by kernel_rfl) (by kernel_rfl) (fun _ _ _ h => h) (Or.inl ⟨by rfl, ?_⟩) (by assumption) ?_
        rotate_left 1
        · (intro wq hSw; (try dsimp only at hSw); (try simp only [List.getElem_toArray, List.getElem_cons_succ, List.getElem_cons_zero]); go_simp; try with_reducible rfl)
        (try simp only [Act.put, List.getElem_toArray, List.getElem_cons_succ, List.getElem_cons_zero, List.setIfInBounds_toArray, List.set_cons_zero, List.set_cons_succ])
        refine wpAnyH_take (i := 8) (oi := _) (v := ?_) rfl (by kernel_rfl) (by kernel_rfl) (by kernel_rfl) (fun _ _ _ h => h) (Or.inl ⟨by rfl, ?_⟩) (by assumption) ?_
        rotate_left 1
        · (intro wq hSw; (try dsimp only at hSw); (try simp only [List.getElem_toArray, List.getElem_cons_succ, List.getElem_cons_zero]); go_simp; try with_reducible rfl)
        (try simp only [Act.put, List.getElem_toArray, List.getElem_cons_succ, List.getElem_cons_zero, List.setIfInBounds_toArray, List.set_cons_zero, List.set_cons_succ])
        refine wpAnyH_take (i := 9) (oi := _) (v := ?_) rfl (by kernel_rfl) (by kernel_rfl) (by kernel_rfl) (fun _ _ _ h => h) (Or.inl ⟨by rfl, ?_⟩) (by assumption) ?_
        rotate_left 1
        · (intro wq hSw; (try dsimp only at hSw); (try simp only [List.getElem_toArray, List.getElem_cons_succ, List.getElem_cons_zero]); go_simp; try with_reducible rfl)
        (try simp only [Act.put, List.getElem_toArray, List.getElem_cons_succ, List.getElem_cons_zero, List.setIfInBounds_toArray, List.set_cons_zero, List.set_cons_succ])
        refine wpAnyH_take (i := 10) (oi := _) (v := ?_) rfl (by kernel_rfl) (by kernel_rfl) (by kernel_rfl) (fun _ _ _ h => h) (Or.inl ⟨by rfl, ?_⟩) (by assumption) ?_
        rotate_left 1
        · (intro wq hSw; (try dsimp only at hSw); (try simp only [List.getElem_toArray, List.getElem_cons_succ, List.getElem_cons_zero]); go_simp; try with_reducible rfl)
        (try simp only [Act.put, List.getElem_toArray, List.getElem_cons_succ, List.getElem_cons_zero, List.setIfInBounds_toArray, List.set_cons_zero, List.set_cons_succ])
        refine wpAnyH_take (i := 11) (oi := _) (v := ?_) rfl (by kernel_rfl) (by kernel_rfl) (by kernel_rfl) (fun _ _ _ h => h) (Or.inl ⟨by rfl, ?_⟩) (by assumption) ?_
        rotate_left 1
        · (intro wq hSw; (try dsimp only at hSw); (try simp only [List.getElem_toArray, List.getElem_cons_succ, List.getElem_cons_zero]); go_simp; try with_reducible rfl)
        (try simp only [Act.put, List.getElem_toArray, List.getElem_cons_succ, List.getElem_cons_zero, List.setIfInBounds_toArray, List.set_cons_zero, List.set_cons_succ])
        refine wpAnyH_take (i := 12) (oi := _) (v := ?_) rfl (by kernel_rfl) (by kernel_rfl) (by kernel_rfl) (fun _ _ _ h => h) (Or.inl ⟨by rfl, ?_⟩) (by assumption) ?_
        rotate_left 1
        · (intro wq hSw; (try dsimp only at hSw); (try simp only [List.getElem_toArray, List.getElem_cons_succ, List.getElem_cons_zero]); go_simp; try with_reducible rfl)
        (try simp only [Act.put, List.getElem_toArray, List.getElem_cons_succ, List.getElem_cons_zero, List.setIfInBounds_toArray, List.set_cons_zero, List.set_cons_succ])
        refine wpAnyH_take (i := 13) (oi := _) (v := ?_) rfl (by kernel_rfl) (by kernel_rfl) (by kernel_rfl) (fun _ _ _ h => h) (Or.inl ⟨by rfl, ?_⟩) (by assumption) ?_
        rotate_left 1
        · (intro wq hSw; (try dsimp only at hSw); (try simp only [List.getElem_toArray, List.getElem_cons_succ, List.getElem_cons_zero]); go_simp; try with_reducible rfl)
        (try simp only [Act.put, List.getElem_toArray, List.getElem_cons_succ, List.getElem_cons_zero, List.setIfInBounds_toArray, List.set_cons_zero, List.set_cons_succ])
        refine wpAnyH_take (i := 14) (oi := _) (v := ?_) rfl (by kernel_rfl) (by kernel_rfl) (by kernel_rfl) (fun _ _ _ h => h) (Or.inl ⟨by rfl, ?_⟩) (by assumption) ?_
        rotate_left 1
        · (intro wq hSw; (try dsimp only at hSw); (try simp only [List.getElem_toArray, List.getElem_cons_succ, List.getElem_cons_zero]); go_simp; try with_reducible rfl)
        (try simp only [Act.put, List.getElem_toArray, List.getElem_cons_succ, List.getElem_cons_zero, List.setIfInBounds_toArray, List.set_cons_zero, List.set_cons_succ])
        refine wpAnyH_take (i := 15) (oi := _) (v := ?_) rfl (by kernel_rfl) (by kernel_rfl) (by kernel_rfl) (fun _ _ _ h => h) (Or.inl ⟨by rfl, ?_⟩) (by assumption) ?_
        rotate_left 1
        · (intro wq hSw; (try dsimp only at hSw); (try simp only [List.getElem_toArray, List.getElem_cons_succ, List.getElem_cons_zero]); go_simp; try with_reducible rfl)
        (try simp only [Act.put, List.getElem_toArray, List.getElem_cons_succ, List.getElem_cons_zero, List.setIfInBounds_toArray, List.set_cons_zero, List.set_cons_succ])
        change Hid (Below wr.heap.size wr wr.drew) at HBq
        have XQ := ((unhide X1).below (unhide HBk)).below (unhide HBq)
        have HRQ := hide (((unhide R1).below (unhide HBk)).below (unhide HBq))
        have HWQ := hide ((unhide HBW).trans ((unhide HBq).mono (unhide HBW).size))
        have HBQ := hide ((unhide HBk).trans ((unhide HBq).mono hks))
        clear x0 x1 x2 x3 x4 x5 x6 x7 x8 x9 x10 x11 x12 HBq
        generalize wr.drew = wq at *
        have x0 := XQ.cell 0 rfl
        have x1 := XQ.cell 1 rfl
        have x2 := XQ.cell 2 rfl
        have x3 := XQ.cell 3 rfl
        have x4 := XQ.cell 4 rfl
        have x5 := XQ.cell 5 rfl
        have x6 := XQ.cell 6 rfl
        have x7 := XQ.cell 7 rfl
        have x8 := XQ.cell 8 rfl
        have x9 := XQ.cell 9 rfl
        have x10 := XQ.cell 10 rfl
        have x11 := XQ.cell 11 rfl
        have x12 := XQ.cell 12 rfl
        clear XQ
        refine wpAnyH_done (by kernel_rfl) (NoPanic.normal ?_) _
        go_wp2_with fail
        have HXQ := hide (((unhide X1).below (unhide HBQ)))
        have hsz : w.heap.size + 1 < wq.heap.size := by have := (unhide HBQ).size; omega
        have HM2 := hide ((unhide HM).below (unhide HWQ))
        obtain ⟨bm, om, rfl, hbm, hcm⟩ : ∃ b off, ma = some ⟨b, off, none⟩ ∧ b < wq.heap.size ∧ ∀ i, i < mt.length → wq.cell? ⟨b, off + i, none⟩ = some (.int .i64 (mt.getD i 0)) := by
          obtain ⟨a', c', e', hm', hc'⟩ := unhide HM2
          simp only [Value.slice.injEq] at e'
          obtain ⟨rfl, _, rfl⟩ := e'
          have := unhide HX
          rcases hc' with h0 | h1
          · omega
          · exact h1
        have HCM := hide hcm
        have HO := hide (own_one wq id wq.heap.size (Nat.le_refl _))
        have HBA := hide ((Below.refl wq.heap.size wq).alloc (Nat.le_refl _) (.cells #[.int .i64 id] 3))
        clear hcm x0 x1 x2 x3 x4 x5 x6 x7 x8 x9 x10 x11 x12 hHeld s0 HM HM2 HE
        generalize wq.alloc (.cells #[.int .i64 id] 3) = wa at *
        go_loopw [5, 6] (fun l i ws => ∃ (j : Nat) (hv : List Int) (a8 : Option Addr) (c8 : Nat), j ≤ 7 ∧ i = .int .i64 (j : Int) ∧ l = .slice a8 hv.length c8 ∧ Hid (hv = id :: haveTo id mt ((q : Int) + 1) j) ∧ Hid (OwnI wq.heap.size ws (.slice a8 hv.length c8) hv) ∧ Hid (Below wq.heap.size wq ws)) (fun _ i _ => 7 - (intOf i).toNat)
        case atStart => exact ⟨0, [id], _, _, Nat.zero_le _, rfl, rfl, hide (by simp [haveTo]), HO, HBA⟩
        case round =>
          obtain ⟨j, hv, a8, c8, hj, rfl, rfl, HV, HO8, HB8⟩ := hrel
          have hvl : hv.length ≤ 8 := by rw [unhide HV, List.length_cons]; have := haveTo_len id mt ((q : Int) + 1) j; omega
          have hbs := (unhide HB8).size
          have XK := (unhide HXQ).below (unhide HB8)
          by_cases hlt : j < 7
          · have c8' := ((unhide HB8).cell (p := ⟨bm, om + j, none⟩) hbm).trans (unhide HCM j (by have := unhide HX; omega))
            have HVS := hide (haveTo_succ id mt ((q : Int) + 1) j)
            have g1 : (0 : Int) ≤ (j : Int) := by omega
            have g2 : (j : Int) < (mt.length : Int) := by have := unhide HX; omega
            have g3 : (j : Int) < 7 := by omega
            have g4 : IntKind.i64.wrap ((j : Int) + 1) = (j : Int) + 1 := wrapSm _ (by omega) (by omega)
            generalize mt.getD j 0 = z at *
            have x0 := XK.cell 0 rfl
            have x1 := XK.cell 1 rfl
            have x2 := XK.cell 2 rfl
            have x3 := XK.cell 3 rfl
            have x4 := XK.cell 4 rfl
            have x5 := XK.cell 5 rfl
            have x6 := XK.cell 6 rfl
            have x7 := XK.cell 7 rfl
            have x8 := XK.cell 8 rfl
            have x9 := XK.cell 9 rfl
            have x10 := XK.cell 10 rfl
            have x11 := XK.cell 11 rfl
            have x12 := XK.cell 12 rfl
            by_cases h1 : (q : Int) + 1 ≤ z
            · by_cases h2 : (j : Int) = id
              · have hvs : id :: haveTo id mt ((q : Int) + 1) (j + 1) = hv := by rw [unhide HVS, if_neg (fun h => h.2 h2), List.append_nil, unhide HV]
                have HVn := hide hvs.symm
                have h3 : decide ((j : Int) = id) = true := decide_eq_true h2
                have h4 : ((j : Int) == id) = true := by rw [h2]; simp
                clear hvs HVS HV h2
                go_wp2_with fail
                refine ⟨⟨j + 1, hv, a8, c8, by omega, by go_num, rfl, HVn, HO8, HB8⟩, ?_⟩
                simp [intOf]; omega
              · have hvs : id :: haveTo id mt ((q : Int) + 1) (j + 1) = hv ++ [(j : Int)] := by rw [unhide HVS, if_pos ⟨h1, h2⟩, ← List.cons_append, ← unhide HV]
                have HVn := hide hvs.symm
                clear hvs HVS HV
                go_wp2_with (at_builtin; refine wpList_append_lies _ rfl _ _ _ rfl wq.heap.size 3 i0 _ 1 8 Try.underlying23 hi hz0 hz1 hz2 rfl (by omega) (.slice a8 hv.length c8) hv.length _ rfl (World.ownsRow.alloc (unhide HO8) _) ⟨wr.heap.size, 0, none⟩ 1 1 [_] rfl rfl (World.news_of_block (cs := #[_]) (t := 3) (fr := (0, 0)) (heap_alloc_new wr _)) (by simp [Value.oneCell']) (by omega) (by unfold maxLen; omega) (by omega) (by simp; omega) _ rfl ?_; intro g5 cap5 w5 hown5 hgrow5 hat5 hlt5; have R5 := hide (And.intro hown5 (((unhide HB8).alloc (by omega) _).grown hgrow5 (by simp; omega) (fun r hr => (World.ownsRow.lt (unhide HO8) r hr).1))); clear hown5 hgrow5 hat5 hlt5)
                refine ⟨⟨j + 1, hv ++ [(j : Int)], some ⟨g5, 0, none⟩, cap5, by omega, by go_num, by simp, HVn, hide ?_, hide (unhide R5).2⟩, ?_⟩
                · unfold OwnI; rw [List.length_append, List.map_append]; exact (unhide R5).1
                · simp [intOf]; omega
            · have hvs : id :: haveTo id mt ((q : Int) + 1) (j + 1) = hv := by rw [unhide HVS, if_neg (fun h => h1 h.1), List.append_nil, unhide HV]
              have HVn := hide hvs.symm
              clear hvs HVS HV
              go_wp2_with fail
              refine ⟨⟨j + 1, hv, a8, c8, by omega, by go_num, rfl, HVn, HO8, HB8⟩, ?_⟩
              simp [intOf]; omega
          · obtain rfl : j = 7 := by omega
            have HMo := hide (l10Most_any (.slice a8 hv.length c8) lv hv mb wr (OwnI.ints (unhide HO8)) (((unhide HLV).below (unhide HBQ)).below (unhide HB8)) (by omega) (by omega))
            have HRS := hide (show res = if mostB (fun x => decide (x ∈ hv)) mb then (q : Int) + 1 else advTo id tm cm lg mt mb q by rw [unhide HRk, unhide HU1, unhide HV])
            clear HV HU1 HRk HRES HO8
            generalize mostB (fun x => decide (x ∈ hv)) mb = bo at *
            go_wp2_with fail
            refine (unhide HMo).mono ?_
            rintro e w' ⟨rfl, hw⟩
            subst w'
            clear HMo
            have HBS := hide ((unhide HBQ).trans ((unhide HB8).mono (unhide HBQ).size))
            cases bo
            · have HRq := hide (show res = advTo id tm cm lg mt mb q by rw [unhide HRS]; simp)
              go_wp2_with fail
              refine ⟨⟨q, by omega, by go_num, HRq, HBS⟩, ?_⟩
              simp [intOf] <;> omega
            · have hrc : res = (q : Int) + 1 := by rw [unhide HRS]; simp
              have HXS := hide (XK.set 9 (.int .i64 ((q : Int) + 1)) (by simp))
              have HRS2 := hide ((((unhide R1).below (unhide HBS))).other (C := w.heap.size) 9 (.int .i64 ((q : Int) + 1)) (by omega))
              have HWS := hide (((unhide HWQ).trans ((unhide HB8).mono (unhide HWQ).size)).trans (((Touch.refl (fun k => k = w.heap.size) wr).setCell ⟨w.heap.size, 9, none⟩ (.int .i64 ((q : Int) + 1)) (fun _ => rfl)).below (by have := (unhide HWQ).size; omega) (fun k hk e => by omega)))
              have F9 := XK.fro 9
              have x0 := XK.cell 0 rfl
              have x1 := XK.cell 1 rfl
              have x2 := XK.cell 2 rfl
              have x3 := XK.cell 3 rfl
              have x4 := XK.cell 4 rfl
              have x5 := XK.cell 5 rfl
              have x6 := XK.cell 6 rfl
              have x7 := XK.cell 7 rfl
              have x8 := XK.cell 8 rfl
              have x9 := XK.cell 9 rfl
              have x10 := XK.cell 10 rfl
              have x11 := XK.cell 11 rfl
              have x12 := XK.cell 12 rfl
              clear HRS XK
              have RX := unhide HRS2
              have r0 := RX.cell 0 rfl
              have r1 := RX.cell 1 rfl
              have r2 := RX.cell 2 rfl
              have r3 := RX.cell 3 rfl
              have r4 := RX.cell 4 rfl
              have r5 := RX.cell 5 rfl
              have r6 := RX.cell 6 rfl
              have r7 := RX.cell 7 rfl
              have r8 := RX.cell 8 rfl
              have r9 := RX.cell 9 rfl
              have r10 := RX.cell 10 rfl
              have r11 := RX.cell 11 rfl
              have r12 := RX.cell 12 rfl
              have f0 := RX.fro 0
              have f1 := RX.fro 1
              have f2 := RX.fro 2
              have f3 := RX.fro 3
              have f4 := RX.fro 4
              have f5 := RX.fro 5
              have f6 := RX.fro 6
              have f7 := RX.fro 7
              have f8 := RX.fro 8
              have f9 := RX.fro 9
              have f10 := RX.fro 10
              have f11 := RX.fro 11
              have f12 := RX.fro 12
              have HR9 := hide ((((((((((((((RX.set 0 (.int .i64 id) (by simp)).set 1 (.int .i64 tm) (by simp)).set 2 (.int .i64 vo) (by simp)).set 3 (.slice (some ⟨b, off, none⟩) lg.length lc) (by simp)).set 4 (.slice sa st.length sc) (by simp)).set 5 (.int .i64 ro) (by simp)).set 6 (.slice va vs.length vc) (by simp)).set 7 (.slice na nx.length nc) (by simp)).set 8 (.slice (some ⟨bm, om, none⟩) mt.length mc) (by simp)).set 9 (.int .i64 ((q : Int) + 1)) (by simp)).set 10 (.int .i64 el) (by simp)).set 11 (.int .i64 wt) (by simp)).set 12 (.bool up) (by simp)))
              have T9 := ((((((((((((((Touch.refl (fun q => q = w.heap.size + 1) (wr.setCell ⟨w.heap.size, 9, none⟩ (.int .i64 ((q : Int) + 1)))).setCell ⟨w.heap.size + 1, 0, none⟩ (.int .i64 id) (fun _ => rfl)).setCell ⟨w.heap.size + 1, 1, none⟩ (.int .i64 tm) (fun _ => rfl)).setCell ⟨w.heap.size + 1, 2, none⟩ (.int .i64 vo) (fun _ => rfl)).setCell ⟨w.heap.size + 1, 3, none⟩ (.slice (some ⟨b, off, none⟩) lg.length lc) (fun _ => rfl)).setCell ⟨w.heap.size + 1, 4, none⟩ (.slice sa st.length sc) (fun _ => rfl)).setCell ⟨w.heap.size + 1, 5, none⟩ (.int .i64 ro) (fun _ => rfl)).setCell ⟨w.heap.size + 1, 6, none⟩ (.slice va vs.length vc) (fun _ => rfl)).setCell ⟨w.heap.size + 1, 7, none⟩ (.slice na nx.length nc) (fun _ => rfl)).setCell ⟨w.heap.size + 1, 8, none⟩ (.slice (some ⟨bm, om, none⟩) mt.length mc) (fun _ => rfl)).setCell ⟨w.heap.size + 1, 9, none⟩ (.int .i64 ((q : Int) + 1)) (fun _ => rfl)).setCell ⟨w.heap.size + 1, 10, none⟩ (.int .i64 el) (fun _ => rfl)).setCell ⟨w.heap.size + 1, 11, none⟩ (.int .i64 wt) (fun _ => rfl)).setCell ⟨w.heap.size + 1, 12, none⟩ (.bool up) (fun _ => rfl))
              have KW := unhide HWS
              have K9 := hide (KW.trans (T9.below KW.size (fun k hk e => by omega)))
              clear RX T9 KW
              go_wp2_with fail
              have R9 := unhide HR9
              have z0 := R9.cell 0 rfl
              have z1 := R9.cell 1 rfl
              have z2 := R9.cell 2 rfl
              have z3 := R9.cell 3 rfl
              have z4 := R9.cell 4 rfl
              have z5 := R9.cell 5 rfl
              have z6 := R9.cell 6 rfl
              have z7 := R9.cell 7 rfl
              have z8 := R9.cell 8 rfl
              have z9 := R9.cell 9 rfl
              have z10 := R9.cell 10 rfl
              have z11 := R9.cell 11 rfl
              have z12 := R9.cell 12 rfl
              refine bodyPost_ret (v := .agg #[.int .i64 id, .int .i64 tm, .int .i64 vo, .slice (some ⟨b, off, none⟩) lg.length lc, .slice sa st.length sc, .int .i64 ro, .slice va vs.length vc, .slice na nx.length nc, .slice (some ⟨bm, om, none⟩) mt.length mc, .int .i64 ((q : Int) + 1), .int .i64 el, .int .i64 wt, .bool up]) (by simp [results, Try.results59, go_sem, z0, z1, z2, z3, z4, z5, z6, z7, z8, z9, z10, z11, z12]) rfl ?_
              exact ⟨by first | rfl | rw [hrc], unhide K9⟩
      · have hrc : res = cm := by rw [unhide HRk, unhide HU, if_neg (fun h => ht h.2)]
        clear HU HRk
        go_upto_region 3 with fail
        have HBq := hide (below_drewN (Below.refl wr.heap.size wr) 1)
        refine wp_region_noPanic ?_
        refine wp_region_held_drew (S := (fun wx => wx.cell? ⟨w.heap.size, 1, none⟩ = some (.int .i64 tm) ∧ wx.cell? ⟨w.heap.size, 3, none⟩ = some (.slice (some ⟨b, off, none⟩) lg.length lc) ∧ wx.cell? ⟨w.heap.size, 9, none⟩ = some (.int .i64 cm) ∧ wx.cell? ⟨b, off + q * 3, none⟩ = some (.int .i64 t0))) (by kernel_rfl) ?_ (fun hHeld => ?_)
        · exact ⟨x1, x3, x9, s0⟩
        refine wpAnyH_take (i := 0) (oi := _) (v := ?_) rfl (by kernel_rfl) (by kernel_rfl) (by kernel_rfl) (fun _ _ _ h => h) (Or.inl ⟨by rfl, ?_⟩) (by assumption) ?_
        rotate_left 1
        · (intro wq hSw; (try dsimp only at hSw); (try simp only [List.getElem_toArray, List.getElem_cons_succ, List.getElem_cons_zero]); go_simp; try with_reducible rfl)
        (try simp only [Act.put, List.getElem_toArray, List.getElem_cons_succ, List.getElem_cons_zero, List.setIfInBounds_toArray, List.set_cons_zero, List.set_cons_succ])
        refine wpAnyH_take (i := 1) (oi := _) (v := ?_) rfl (by kernel_rfl) (by kernel_rfl) (by kernel_rfl) (fun _ _ _ h => h) (Or.inl ⟨by rfl, ?_⟩) (by assumption) ?_
        rotate_left 1
        · (intro wq hSw; (try dsimp only at hSw); (try simp only [List.getElem_toArray, List.getElem_cons_succ, List.getElem_cons_zero]); go_simp; try with_reducible rfl)
        (try simp only [Act.put, List.getElem_toArray, List.getElem_cons_succ, List.getElem_cons_zero, List.setIfInBounds_toArray, List.set_cons_zero, List.set_cons_succ])
        refine wpAnyH_take (i := 2) (oi := _) (v := ?_) rfl (by kernel_rfl) (by kernel_rfl) (by kernel_rfl) (fun _ _ _ h => h) (Or.inl ⟨by rfl, ?_⟩) (by assumption) ?_
        rotate_left 1
        · (intro wq hSw; (try dsimp only at hSw); (try simp only [List.getElem_toArray, List.getElem_cons_succ, List.getElem_cons_zero]); go_simp; try with_reducible rfl)
        (try simp only [Act.put, List.getElem_toArray, List.getElem_cons_succ, List.getElem_cons_zero, List.setIfInBounds_toArray, List.set_cons_zero, List.set_cons_succ])
        refine wpAnyH_take (i := 3) (oi := _) (v := ?_) rfl (by kernel_rfl) (by kernel_rfl) (by kernel_rfl) (fun _ _ _ h => h) (Or.inl ⟨by rfl, ?_⟩) (by assumption) ?_
        rotate_left 1
        · (intro wq hSw; (try dsimp only at hSw); (try simp only [List.getElem_toArray, List.getElem_cons_succ, List.getElem_cons_zero]); go_simp; try with_reducible rfl)
        (try simp only [Act.put, List.getElem_toArray, List.getElem_cons_succ, List.getElem_cons_zero, List.setIfInBounds_toArray, List.set_cons_zero, List.set_cons_succ])
        refine wpAnyH_take (i := 4) (oi := _) (v := ?_) rfl (by kernel_rfl) (by kernel_rfl) (by kernel_rfl) (fun _ _ _ h => h) (Or.inl ⟨by rfl, ?_⟩) (by assumption) ?_
        rotate_left 1
        · (intro wq hSw; (try dsimp only at hSw); (try simp only [List.getElem_toArray, List.getElem_cons_succ, List.getElem_cons_zero]); go_simp; try with_reducible rfl)
        (try simp only [Act.put, List.getElem_toArray, List.getElem_cons_succ, List.getElem_cons_zero, List.setIfInBounds_toArray, List.set_cons_zero, List.set_cons_succ])
        refine wpAnyH_take (i := 5) (oi := _) (v := ?_) rfl (by kernel_rfl) (by kernel_rfl) (by kernel_rfl) (fun _ _ _ h => h) (Or.inl ⟨by rfl, ?_⟩) (by assumption) ?_
        rotate_left 1
        · (intro wq hSw; (try dsimp only at hSw); (try simp only [List.getElem_toArray, List.getElem_cons_succ, List.getElem_cons_zero]); go_simp; try with_reducible rfl)
        (try simp only [Act.put, List.getElem_toArray, List.getElem_cons_succ, List.getElem_cons_zero, List.setIfInBounds_toArray, List.set_cons_zero, List.set_cons_succ])
        refine wpAnyH_take (i := 6) (oi := _) (v := ?_) rfl (by kernel_rfl) (by kernel_rfl) (by kernel_rfl) (fun _ _ _ h => h) (Or.inl ⟨by rfl, ?_⟩) (by assumption) ?_
        rotate_left 1
        · (intro wq hSw; (try dsimp only at hSw); (try simp only [List.getElem_toArray, List.getElem_cons_succ, List.getElem_cons_zero]); go_simp; try with_reducible rfl)
        (try simp only [Act.put, List.getElem_toArray, List.getElem_cons_succ, List.getElem_cons_zero, List.setIfInBounds_toArray, List.set_cons_zero, List.set_cons_succ])
        refine wpAnyH_take (i := 7) (oi := _) (v := ?_) rfl (by kernel_rfl) (by kernel_rfl) (by kernel_rfl) (fun _ _ _ h => h) (Or.inl ⟨by rfl, ?_⟩) (by assumption) ?_
        rotate_left 1
        · (intro wq hSw; (try dsimp only at hSw); (try simp only [List.getElem_toArray, List.getElem_cons_succ, List.getElem_cons_zero]); go_simp; try with_reducible rfl)
        (try simp only [Act.put, List.getElem_toArray, List.getElem_cons_succ, List.getElem_cons_zero, List.setIfInBounds_toArray, List.set_cons_zero, List.set_cons_succ])
        refine wpAnyH_take (i := 8) (oi := _) (v := ?_) rfl (by kernel_rfl) (by kernel_rfl) (by kernel_rfl) (fun _ _ _ h => h) (Or.inl ⟨by rfl, ?_⟩) (by assumption) ?_
        rotate_left 1
        · (intro wq hSw; (try dsimp only at hSw); (try simp only [List.getElem_toArray, List.getElem_cons_succ, List.getElem_cons_zero]); go_simp; try with_reducible rfl)
        (try simp only [Act.put, List.getElem_toArray, List.getElem_cons_succ, List.getElem_cons_zero, List.setIfInBounds_toArray, List.set_cons_zero, List.set_cons_succ])
        refine wpAnyH_take (i := 9) (oi := _) (v := ?_) rfl (by kernel_rfl) (by kernel_rfl) (by kernel_rfl) (fun _ _ _ h => h) (Or.inl ⟨by rfl, ?_⟩) (by assumption) ?_
        rotate_left 1
        · (intro wq hSw; (try dsimp only at hSw); (try simp only [List.getElem_toArray, List.getElem_cons_succ, List.getElem_cons_zero]); go_simp; try with_reducible rfl)
        (try simp only [Act.put, List.getElem_toArray, List.getElem_cons_succ, List.getElem_cons_zero, List.setIfInBounds_toArray, List.set_cons_zero, List.set_cons_succ])
        refine wpAnyH_take (i := 10) (oi := _) (v := ?_) rfl (by kernel_rfl) (by kernel_rfl) (by kernel_rfl) (fun _ _ _ h => h) (Or.inl ⟨by rfl, ?_⟩) (by assumption) ?_
        rotate_left 1
        · (intro wq hSw; (try dsimp only at hSw); (try simp only [List.getElem_toArray, List.getElem_cons_succ, List.getElem_cons_zero]); go_simp; try with_reducible rfl)
        (try simp only [Act.put, List.getElem_toArray, List.getElem_cons_succ, List.getElem_cons_zero, List.setIfInBounds_toArray, List.set_cons_zero, List.set_cons_succ])
        refine wpAnyH_take (i := 11) (oi := _) (v := ?_) rfl (by kernel_rfl) (by kernel_rfl) (by kernel_rfl) (fun _ _ _ h => h) (Or.inl ⟨by rfl, ?_⟩) (by assumption) ?_
        rotate_left 1
        · (intro wq hSw; (try dsimp only at hSw); (try simp only [List.getElem_toArray, List.getElem_cons_succ, List.getElem_cons_zero]); go_simp; try with_reducible rfl)
        (try simp only [Act.put, List.getElem_toArray, List.getElem_cons_succ, List.getElem_cons_zero, List.setIfInBounds_toArray, List.set_cons_zero, List.set_cons_succ])
        refine wpAnyH_take (i := 12) (oi := _) (v := ?_) rfl (by kernel_rfl) (by kernel_rfl) (by kernel_rfl) (fun _ _ _ h => h) (Or.inl ⟨by rfl, ?_⟩) (by assumption) ?_
        rotate_left 1
        · (intro wq hSw; (try dsimp only at hSw); (try simp only [List.getElem_toArray, List.getElem_cons_succ, List.getElem_cons_zero]); go_simp; try with_reducible rfl)
        (try simp only [Act.put, List.getElem_toArray, List.getElem_cons_succ, List.getElem_cons_zero, List.setIfInBounds_toArray, List.set_cons_zero, List.set_cons_succ])
        refine wpAnyH_take (i := 13) (oi := _) (v := ?_) rfl (by kernel_rfl) (by kernel_rfl) (by kernel_rfl) (fun _ _ _ h => h) (Or.inl ⟨by rfl, ?_⟩) (by assumption) ?_
        rotate_left 1
        · (intro wq hSw; (try dsimp only at hSw); (try simp only [List.getElem_toArray, List.getElem_cons_succ, List.getElem_cons_zero]); go_simp; try with_reducible rfl)
        (try simp only [Act.put, List.getElem_toArray, List.getElem_cons_succ, List.getElem_cons_zero, List.setIfInBounds_toArray, List.set_cons_zero, List.set_cons_succ])
        refine wpAnyH_take (i := 14) (oi := _) (v := ?_) rfl (by kernel_rfl) (by kernel_rfl) (by kernel_rfl) (fun _ _ _ h => h) (Or.inl ⟨by rfl, ?_⟩) (by assumption) ?_
        rotate_left 1
        · (intro wq hSw; (try dsimp only at hSw); (try simp only [List.getElem_toArray, List.getElem_cons_succ, List.getElem_cons_zero]); go_simp; try with_reducible rfl)
        (try simp only [Act.put, List.getElem_toArray, List.getElem_cons_succ, List.getElem_cons_zero, List.setIfInBounds_toArray, List.set_cons_zero, List.set_cons_succ])
        refine wpAnyH_take (i := 15) (oi := _) (v := ?_) rfl (by kernel_rfl) (by kernel_rfl) (by kernel_rfl) (fun _ _ _ h => h) (Or.inl ⟨by rfl, ?_⟩) (by assumption) ?_
        rotate_left 1
        · (intro wq hSw; (try dsimp only at hSw); (try simp only [List.getElem_toArray, List.getElem_cons_succ, List.getElem_cons_zero]); go_simp; try with_reducible rfl)
        (try simp only [Act.put, List.getElem_toArray, List.getElem_cons_succ, List.getElem_cons_zero, List.setIfInBounds_toArray, List.set_cons_zero, List.set_cons_succ])
        change Hid (Below wr.heap.size wr wr.drew) at HBq
        have XQ := ((unhide X1).below (unhide HBk)).below (unhide HBq)
        have HRQ := hide (((unhide R1).below (unhide HBk)).below (unhide HBq))
        have HWQ := hide ((unhide HBW).trans ((unhide HBq).mono (unhide HBW).size))
        have HBQ := hide ((unhide HBk).trans ((unhide HBq).mono hks))
        clear x0 x1 x2 x3 x4 x5 x6 x7 x8 x9 x10 x11 x12 HBq
        generalize wr.drew = wq at *
        have x0 := XQ.cell 0 rfl
        have x1 := XQ.cell 1 rfl
        have x2 := XQ.cell 2 rfl
        have x3 := XQ.cell 3 rfl
        have x4 := XQ.cell 4 rfl
        have x5 := XQ.cell 5 rfl
        have x6 := XQ.cell 6 rfl
        have x7 := XQ.cell 7 rfl
        have x8 := XQ.cell 8 rfl
        have x9 := XQ.cell 9 rfl
        have x10 := XQ.cell 10 rfl
        have x11 := XQ.cell 11 rfl
        have x12 := XQ.cell 12 rfl
        clear XQ
        refine wpAnyH_done (by kernel_rfl) (NoPanic.normal ?_) _
        have RX := unhide HRQ
        have r0 := RX.cell 0 rfl
        have r1 := RX.cell 1 rfl
        have r2 := RX.cell 2 rfl
        have r3 := RX.cell 3 rfl
        have r4 := RX.cell 4 rfl
        have r5 := RX.cell 5 rfl
        have r6 := RX.cell 6 rfl
        have r7 := RX.cell 7 rfl
        have r8 := RX.cell 8 rfl
        have r9 := RX.cell 9 rfl
        have r10 := RX.cell 10 rfl
        have r11 := RX.cell 11 rfl
        have r12 := RX.cell 12 rfl
        have f0 := RX.fro 0
        have f1 := RX.fro 1
        have f2 := RX.fro 2
        have f3 := RX.fro 3
        have f4 := RX.fro 4
        have f5 := RX.fro 5
        have f6 := RX.fro 6
        have f7 := RX.fro 7
        have f8 := RX.fro 8
        have f9 := RX.fro 9
        have f10 := RX.fro 10
        have f11 := RX.fro 11
        have f12 := RX.fro 12
        have HR9 := hide ((((((((((((((RX.set 0 (.int .i64 id) (by simp)).set 1 (.int .i64 tm) (by simp)).set 2 (.int .i64 vo) (by simp)).set 3 (.slice (some ⟨b, off, none⟩) lg.length lc) (by simp)).set 4 (.slice sa st.length sc) (by simp)).set 5 (.int .i64 ro) (by simp)).set 6 (.slice va vs.length vc) (by simp)).set 7 (.slice na nx.length nc) (by simp)).set 8 (.slice ma mt.length mc) (by simp)).set 9 (.int .i64 cm) (by simp)).set 10 (.int .i64 el) (by simp)).set 11 (.int .i64 wt) (by simp)).set 12 (.bool up) (by simp)))
        have T9 := ((((((((((((((Touch.refl (fun q => q = w.heap.size + 1) wq).setCell ⟨w.heap.size + 1, 0, none⟩ (.int .i64 id) (fun _ => rfl)).setCell ⟨w.heap.size + 1, 1, none⟩ (.int .i64 tm) (fun _ => rfl)).setCell ⟨w.heap.size + 1, 2, none⟩ (.int .i64 vo) (fun _ => rfl)).setCell ⟨w.heap.size + 1, 3, none⟩ (.slice (some ⟨b, off, none⟩) lg.length lc) (fun _ => rfl)).setCell ⟨w.heap.size + 1, 4, none⟩ (.slice sa st.length sc) (fun _ => rfl)).setCell ⟨w.heap.size + 1, 5, none⟩ (.int .i64 ro) (fun _ => rfl)).setCell ⟨w.heap.size + 1, 6, none⟩ (.slice va vs.length vc) (fun _ => rfl)).setCell ⟨w.heap.size + 1, 7, none⟩ (.slice na nx.length nc) (fun _ => rfl)).setCell ⟨w.heap.size + 1, 8, none⟩ (.slice ma mt.length mc) (fun _ => rfl)).setCell ⟨w.heap.size + 1, 9, none⟩ (.int .i64 cm) (fun _ => rfl)).setCell ⟨w.heap.size + 1, 10, none⟩ (.int .i64 el) (fun _ => rfl)).setCell ⟨w.heap.size + 1, 11, none⟩ (.int .i64 wt) (fun _ => rfl)).setCell ⟨w.heap.size + 1, 12, none⟩ (.bool up) (fun _ => rfl))
        have KW := unhide HWQ
        have K9 := hide (KW.trans (T9.below KW.size (fun k hk e => by omega)))
        clear RX T9 KW
        go_wp2_with fail
        have R9 := unhide HR9
        have z0 := R9.cell 0 rfl
        have z1 := R9.cell 1 rfl
        have z2 := R9.cell 2 rfl
        have z3 := R9.cell 3 rfl
        have z4 := R9.cell 4 rfl
        have z5 := R9.cell 5 rfl
        have z6 := R9.cell 6 rfl
        have z7 := R9.cell 7 rfl
        have z8 := R9.cell 8 rfl
        have z9 := R9.cell 9 rfl
        have z10 := R9.cell 10 rfl
        have z11 := R9.cell 11 rfl
        have z12 := R9.cell 12 rfl
        refine bodyPost_ret (v := .agg #[.int .i64 id, .int .i64 tm, .int .i64 vo, .slice (some ⟨b, off, none⟩) lg.length lc, .slice sa st.length sc, .int .i64 ro, .slice va vs.length vc, .slice na nx.length nc, .slice ma mt.length mc, .int .i64 cm, .int .i64 el, .int .i64 wt, .bool up]) (by simp [results, Try.results59, go_sem, z0, z1, z2, z3, z4, z5, z6, z7, z8, z9, z10, z11, z12]) rfl ?_
        exact ⟨by first | rfl | rw [hrc], unhide K9⟩
    · have q1 : ¬ cm < (k : Int) := hgt
      have hrc : res = cm := by
        have h := unhide HRk
        cases k with
        | zero => exact h
        | succ n => rw [h]; unfold advTo; rw [if_neg (by push_cast at q1; omega)]
      go_upto_region 3 with fail
      have HBq := hide (below_drewN (Below.refl wr.heap.size wr) 1)
      refine wp_region_noPanic ?_
      refine wp_region_held_drew (S := (fun wx => wx.cell? ⟨w.heap.size, 1, none⟩ = some (.int .i64 tm) ∧ wx.cell? ⟨w.heap.size, 3, none⟩ = some (.slice la lg.length lc) ∧ wx.cell? ⟨w.heap.size, 9, none⟩ = some (.int .i64 cm))) (by kernel_rfl) ?_ (fun hHeld => ?_)
      · exact ⟨x1, x3, x9⟩
      refine wpAnyH_take (i := 0) (oi := _) (v := ?_) rfl (by kernel_rfl) (by kernel_rfl) (by kernel_rfl) (fun _ _ _ h => h) (Or.inl ⟨by rfl, ?_⟩) (by assumption) ?_
      rotate_left 1
      · (intro wq hSw; (try dsimp only at hSw); (try simp only [List.getElem_toArray, List.getElem_cons_succ, List.getElem_cons_zero]); go_simp; try with_reducible rfl)
      (try simp only [Act.put, List.getElem_toArray, List.getElem_cons_succ, List.getElem_cons_zero, List.setIfInBounds_toArray, List.set_cons_zero, List.set_cons_succ])
      refine wpAnyH_take (i := 1) (oi := _) (v := ?_) rfl (by kernel_rfl) (by kernel_rfl) (by kernel_rfl) (fun _ _ _ h => h) (Or.inl ⟨by rfl, ?_⟩) (by assumption) ?_
      rotate_left 1
      · (intro wq hSw; (try dsimp only at hSw); (try simp only [List.getElem_toArray, List.getElem_cons_succ, List.getElem_cons_zero]); go_simp; try with_reducible rfl)
      (try simp only [Act.put, List.getElem_toArray, List.getElem_cons_succ, List.getElem_cons_zero, List.setIfInBounds_toArray, List.set_cons_zero, List.set_cons_succ])
      refine wpAnyH_take (i := 2) (oi := _) (v := ?_) rfl (by kernel_rfl) (by kernel_rfl) (by kernel_rfl) (fun _ _ _ h => h) (Or.inl ⟨by rfl, ?_⟩) (by assumption) ?_
      rotate_left 1
      · (intro wq hSw; (try dsimp only at hSw); (try simp only [List.getElem_toArray, List.getElem_cons_succ, List.getElem_cons_zero]); go_simp; try with_reducible rfl)
      (try simp only [Act.put, List.getElem_toArray, List.getElem_cons_succ, List.getElem_cons_zero, List.setIfInBounds_toArray, List.set_cons_zero, List.set_cons_succ])
      refine wpAnyH_take (i := 3) (oi := _) (v := ?_) rfl (by kernel_rfl) (by kernel_rfl) (by kernel_rfl) (fun _ _ _ h => h) (Or.inl ⟨by rfl, ?_⟩) (by assumption) ?_
      rotate_left 1
      · (intro wq hSw; (try dsimp only at hSw); (try simp only [List.getElem_toArray, List.getElem_cons_succ, List.getElem_cons_zero]); go_simp; try with_reducible rfl)
      (try simp only [Act.put, List.getElem_toArray, List.getElem_cons_succ, List.getElem_cons_zero, List.setIfInBounds_toArray, List.set_cons_zero, List.set_cons_succ])
      refine wpAnyH_take (i := 4) (oi := _) (v := ?_) rfl (by kernel_rfl) (by kernel_rfl) (by kernel_rfl) (fun _ _ _ h => h) (Or.inl ⟨by rfl, ?_⟩) (by assumption) ?_
      rotate_left 1
      · (intro wq hSw; (try dsimp only at hSw); (try simp only [List.getElem_toArray, List.getElem_cons_succ, List.getElem_cons_zero]); go_simp; try with_reducible rfl)
      (try simp only [Act.put, List.getElem_toArray, List.getElem_cons_succ, List.getElem_cons_zero, List.setIfInBounds_toArray, List.set_cons_zero, List.set_cons_succ])
      refine wpAnyH_take (i := 5) (oi := _) (v := undef) rfl (by kernel_rfl) (by kernel_rfl) (by kernel_rfl) (fun _ _ _ h => h) (Or.inr ⟨by rfl, rfl⟩) (by assumption) ?_
      (try simp only [Act.put, List.getElem_toArray, List.getElem_cons_succ, List.getElem_cons_zero, List.setIfInBounds_toArray, List.set_cons_zero, List.set_cons_succ])
      refine wpAnyH_take (i := 6) (oi := _) (v := undef) rfl (by kernel_rfl) (by kernel_rfl) (by kernel_rfl) (fun _ _ _ h => h) (Or.inr ⟨by rfl, rfl⟩) (by assumption) ?_
      (try simp only [Act.put, List.getElem_toArray, List.getElem_cons_succ, List.getElem_cons_zero, List.setIfInBounds_toArray, List.set_cons_zero, List.set_cons_succ])
      refine wpAnyH_take (i := 7) (oi := _) (v := undef) rfl (by kernel_rfl) (by kernel_rfl) (by kernel_rfl) (fun _ _ _ h => h) (Or.inr ⟨by rfl, rfl⟩) (by assumption) ?_
      (try simp only [Act.put, List.getElem_toArray, List.getElem_cons_succ, List.getElem_cons_zero, List.setIfInBounds_toArray, List.set_cons_zero, List.set_cons_succ])
      refine wpAnyH_take (i := 8) (oi := _) (v := undef) rfl (by kernel_rfl) (by kernel_rfl) (by kernel_rfl) (fun _ _ _ h => h) (Or.inr ⟨by rfl, rfl⟩) (by assumption) ?_
      (try simp only [Act.put, List.getElem_toArray, List.getElem_cons_succ, List.getElem_cons_zero, List.setIfInBounds_toArray, List.set_cons_zero, List.set_cons_succ])
      refine wpAnyH_take (i := 9) (oi := _) (v := undef) rfl (by kernel_rfl) (by kernel_rfl) (by kernel_rfl) (fun _ _ _ h => h) (Or.inr ⟨by rfl, rfl⟩) (by assumption) ?_
      (try simp only [Act.put, List.getElem_toArray, List.getElem_cons_succ, List.getElem_cons_zero, List.setIfInBounds_toArray, List.set_cons_zero, List.set_cons_succ])
      refine wpAnyH_take (i := 10) (oi := _) (v := undef) rfl (by kernel_rfl) (by kernel_rfl) (by kernel_rfl) (fun _ _ _ h => h) (Or.inr ⟨by rfl, rfl⟩) (by assumption) ?_
      (try simp only [Act.put, List.getElem_toArray, List.getElem_cons_succ, List.getElem_cons_zero, List.setIfInBounds_toArray, List.set_cons_zero, List.set_cons_succ])
      refine wpAnyH_take (i := 11) (oi := _) (v := undef) rfl (by kernel_rfl) (by kernel_rfl) (by kernel_rfl) (fun _ _ _ h => h) (Or.inr ⟨by rfl, rfl⟩) (by assumption) ?_
      (try simp only [Act.put, List.getElem_toArray, List.getElem_cons_succ, List.getElem_cons_zero, List.setIfInBounds_toArray, List.set_cons_zero, List.set_cons_succ])
      refine wpAnyH_take (i := 12) (oi := _) (v := undef) rfl (by kernel_rfl) (by kernel_rfl) (by kernel_rfl) (fun _ _ _ h => h) (Or.inr ⟨by rfl, rfl⟩) (by assumption) ?_
      (try simp only [Act.put, List.getElem_toArray, List.getElem_cons_succ, List.getElem_cons_zero, List.setIfInBounds_toArray, List.set_cons_zero, List.set_cons_succ])
      refine wpAnyH_take (i := 13) (oi := _) (v := undef) rfl (by kernel_rfl) (by kernel_rfl) (by kernel_rfl) (fun _ _ _ h => h) (Or.inr ⟨by rfl, rfl⟩) (by assumption) ?_
      (try simp only [Act.put, List.getElem_toArray, List.getElem_cons_succ, List.getElem_cons_zero, List.setIfInBounds_toArray, List.set_cons_zero, List.set_cons_succ])
      refine wpAnyH_take (i := 14) (oi := _) (v := undef) rfl (by kernel_rfl) (by kernel_rfl) (by kernel_rfl) (fun _ _ _ h => h) (Or.inr ⟨by rfl, rfl⟩) (by assumption) ?_
      (try simp only [Act.put, List.getElem_toArray, List.getElem_cons_succ, List.getElem_cons_zero, List.setIfInBounds_toArray, List.set_cons_zero, List.set_cons_succ])
      refine wpAnyH_take (i := 15) (oi := _) (v := ?_) rfl (by kernel_rfl) (by kernel_rfl) (by kernel_rfl) (fun _ _ _ h => h) (Or.inl ⟨by rfl, ?_⟩) (by assumption) ?_
      rotate_left 1
      · (intro wq hSw; (try dsimp only at hSw); (try simp only [List.getElem_toArray, List.getElem_cons_succ, List.getElem_cons_zero]); go_simp; try with_reducible rfl)
      (try simp only [Act.put, List.getElem_toArray, List.getElem_cons_succ, List.getElem_cons_zero, List.setIfInBounds_toArray, List.set_cons_zero, List.set_cons_succ])
      change Hid (Below wr.heap.size wr wr.drew) at HBq
      have XQ := ((unhide X1).below (unhide HBk)).below (unhide HBq)
      have HRQ := hide (((unhide R1).below (unhide HBk)).below (unhide HBq))
      have HWQ := hide ((unhide HBW).trans ((unhide HBq).mono (unhide HBW).size))
      have HBQ := hide ((unhide HBk).trans ((unhide HBq).mono hks))
      clear x0 x1 x2 x3 x4 x5 x6 x7 x8 x9 x10 x11 x12 HBq
      generalize wr.drew = wq at *
      have x0 := XQ.cell 0 rfl
      have x1 := XQ.cell 1 rfl
      have x2 := XQ.cell 2 rfl
      have x3 := XQ.cell 3 rfl
      have x4 := XQ.cell 4 rfl
      have x5 := XQ.cell 5 rfl
      have x6 := XQ.cell 6 rfl
      have x7 := XQ.cell 7 rfl
      have x8 := XQ.cell 8 rfl
      have x9 := XQ.cell 9 rfl
      have x10 := XQ.cell 10 rfl
      have x11 := XQ.cell 11 rfl
      have x12 := XQ.cell 12 rfl
      clear XQ
      refine wpAnyH_done (by kernel_rfl) (NoPanic.normal ?_) _
      have RX := unhide HRQ
      have r0 := RX.cell 0 rfl
      have r1 := RX.cell 1 rfl
      have r2 := RX.cell 2 rfl
      have r3 := RX.cell 3 rfl
      have r4 := RX.cell 4 rfl
      have r5 := RX.cell 5 rfl
      have r6 := RX.cell 6 rfl
      have r7 := RX.cell 7 rfl
      have r8 := RX.cell 8 rfl
      have r9 := RX.cell 9 rfl
      have r10 := RX.cell 10 rfl
      have r11 := RX.cell 11 rfl
      have r12 := RX.cell 12 rfl
      have f0 := RX.fro 0
      have f1 := RX.fro 1
      have f2 := RX.fro 2
      have f3 := RX.fro 3
      have f4 := RX.fro 4
      have f5 := RX.fro 5
      have f6 := RX.fro 6
      have f7 := RX.fro 7
      have f8 := RX.fro 8
      have f9 := RX.fro 9
      have f10 := RX.fro 10
      have f11 := RX.fro 11
      have f12 := RX.fro 12
      have HR9 := hide ((((((((((((((RX.set 0 (.int .i64 id) (by simp)).set 1 (.int .i64 tm) (by simp)).set 2 (.int .i64 vo) (by simp)).set 3 (.slice la lg.length lc) (by simp)).set 4 (.slice sa st.length sc) (by simp)).set 5 (.int .i64 ro) (by simp)).set 6 (.slice va vs.length vc) (by simp)).set 7 (.slice na nx.length nc) (by simp)).set 8 (.slice ma mt.length mc) (by simp)).set 9 (.int .i64 cm) (by simp)).set 10 (.int .i64 el) (by simp)).set 11 (.int .i64 wt) (by simp)).set 12 (.bool up) (by simp)))
      have T9 := ((((((((((((((Touch.refl (fun q => q = w.heap.size + 1) wq).setCell ⟨w.heap.size + 1, 0, none⟩ (.int .i64 id) (fun _ => rfl)).setCell ⟨w.heap.size + 1, 1, none⟩ (.int .i64 tm) (fun _ => rfl)).setCell ⟨w.heap.size + 1, 2, none⟩ (.int .i64 vo) (fun _ => rfl)).setCell ⟨w.heap.size + 1, 3, none⟩ (.slice la lg.length lc) (fun _ => rfl)).setCell ⟨w.heap.size + 1, 4, none⟩ (.slice sa st.length sc) (fun _ => rfl)).setCell ⟨w.heap.size + 1, 5, none⟩ (.int .i64 ro) (fun _ => rfl)).setCell ⟨w.heap.size + 1, 6, none⟩ (.slice va vs.length vc) (fun _ => rfl)).setCell ⟨w.heap.size + 1, 7, none⟩ (.slice na nx.length nc) (fun _ => rfl)).setCell ⟨w.heap.size + 1, 8, none⟩ (.slice ma mt.length mc) (fun _ => rfl)).setCell ⟨w.heap.size + 1, 9, none⟩ (.int .i64 cm) (fun _ => rfl)).setCell ⟨w.heap.size + 1, 10, none⟩ (.int .i64 el) (fun _ => rfl)).setCell ⟨w.heap.size + 1, 11, none⟩ (.int .i64 wt) (fun _ => rfl)).setCell ⟨w.heap.size + 1, 12, none⟩ (.bool up) (fun _ => rfl))
      have KW := unhide HWQ
      have K9 := hide (KW.trans (T9.below KW.size (fun k hk e => by omega)))
      clear RX T9 KW
      go_wp2_with fail
      have R9 := unhide HR9
      have z0 := R9.cell 0 rfl
      have z1 := R9.cell 1 rfl
      have z2 := R9.cell 2 rfl
      have z3 := R9.cell 3 rfl
      have z4 := R9.cell 4 rfl
      have z5 := R9.cell 5 rfl
      have z6 := R9.cell 6 rfl
      have z7 := R9.cell 7 rfl
      have z8 := R9.cell 8 rfl
      have z9 := R9.cell 9 rfl
      have z10 := R9.cell 10 rfl
      have z11 := R9.cell 11 rfl
      have z12 := R9.cell 12 rfl
      refine bodyPost_ret (v := .agg #[.int .i64 id, .int .i64 tm, .int .i64 vo, .slice la lg.length lc, .slice sa st.length sc, .int .i64 ro, .slice va vs.length vc, .slice na nx.length nc, .slice ma mt.length mc, .int .i64 cm, .int .i64 el, .int .i64 wt, .bool up]) (by simp [results, Try.results59, go_sem, z0, z1, z2, z3, z4, z5, z6, z7, z8, z9, z10, z11, z12]) rfl ?_
      exact ⟨by first | rfl | rw [hrc], unhide K9⟩
end Go.Proofs.Ytljolldacpkeeaa
