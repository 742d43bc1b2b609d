/- spec.l10Append, walked. (Written by py/npb.py.) -/
import Derived.Test.YtljolldacpkeeaaNpA
import Derived.Test.YtljolldacpkeeaaMgE
import Derived.Test.YtljolldacpkeeaaHaa
import Derived.Deep.RegionHeld3
namespace Go.Proofs.Ytljolldacpkeeaa
open Go.ChangeShapes Go.WideShapes Go.ChangeAt Go.RowKit Go.Deep
set_option linter.unusedVariables false
set_option linter.unusedSimpArgs false

set_option maxRecDepth 100000 in
set_option maxHeartbeats 1500000 in
theorem l10Append_any (id tm vo ro cm el wt : Int) (up : Bool) (lg : List En) (st vs nx mt : List Int) (la : Option Addr) (lc : Nat) (sa : Option Addr) (sc : Nat) (va : Option Addr) (vc : Nat) (na : Option Addr) (nc : Nat) (ma : Option Addr) (mc : Nat) (dst p : Nat) (w : World) (hE : Ens w (.slice la lg.length lc) lg) (hN : Ints w (.slice na nx.length nc) nx) (hl : lg.length ≤ 60) (hx : nx.length = 7) (hd : dst < 7) (hp : nx.getD dst 0 = (p : Int) + 1) (hpl : p ≤ lg.length) :
    Calls Try.prog 62 #[.agg #[.int .i64 id, .int .i64 tm, .int .i64 vo, .slice la lg.length lc, .slice sa st.length sc, .int .i64 ro, .slice va vs.length vc, .slice na nx.length nc, .slice ma mt.length mc, .int .i64 cm, .int .i64 el, .int .i64 wt, .bool up], .int .i64 (dst : Int)] w fun e w' => ∃ a5 c5, e = .returned (.agg #[.int .i64 3, .int .i64 id, .int .i64 (dst : Int), .int .i64 tm, .int .i64 (p : Int), .int .i64 (termP lg p), .int .i64 cm, .slice a5 (lg.drop p).length c5, .bool false]) ∧ OwnE w.heap.size w' (.slice a5 (lg.drop p).length c5) (lg.drop p) ∧ Below w.heap.size w w' := by
  obtain ⟨nb, noff, rfl, hnb, hns0⟩ : ∃ b off, na = some ⟨b, off, none⟩ ∧ b < w.heap.size ∧ ∀ i, i < nx.length → World.cell? w ⟨b, off + i, none⟩ = some (.int .i64 (nx.getD i 0)) := by
    obtain ⟨na', nc', e', hm', hc'⟩ := hN
    simp only [Value.slice.injEq] at e'
    obtain ⟨rfl, _, rfl⟩ := e'
    rcases hc' with h0 | h1
    · omega
    · exact h1
  obtain ⟨i0, hi, hz0, hz1, hz2⟩ := info_parts infoEn
  have BB := ((Below.refl w.heap.size w).alloc (Nat.le_refl _) (.cells #[.int .i64 id, .int .i64 tm, .int .i64 vo, .slice la lg.length lc, .slice sa st.length sc, .int .i64 ro, .slice va vs.length vc, .slice (some ⟨nb, noff, none⟩) nx.length nc, .slice ma mt.length mc, .int .i64 cm, .int .i64 el, .int .i64 wt, .bool up] 29)).alloc (by simp) (.cells #[.int .i64 0, .int .i64 0, .int .i64 0, .int .i64 0, .int .i64 0, .int .i64 0, .int .i64 0, .slice none 0 0, .bool false] 59)
  have B0 := hide BB
  have X0 := hide ((Blk.new w #[.int .i64 id, .int .i64 tm, .int .i64 vo, .slice la lg.length lc, .slice sa st.length sc, .int .i64 ro, .slice va vs.length vc, .slice (some ⟨nb, noff, none⟩) nx.length nc, .slice ma mt.length mc, .int .i64 cm, .int .i64 el, .int .i64 wt, .bool up] 29 w.heap.size rfl).alloc (.cells #[.int .i64 0, .int .i64 0, .int .i64 0, .int .i64 0, .int .i64 0, .int .i64 0, .int .i64 0, .slice none 0 0, .bool false] 59))
  have R0 := hide (Blk.new (w.alloc (.cells #[.int .i64 id, .int .i64 tm, .int .i64 vo, .slice la lg.length lc, .slice sa st.length sc, .int .i64 ro, .slice va vs.length vc, .slice (some ⟨nb, noff, none⟩) nx.length nc, .slice ma mt.length mc, .int .i64 cm, .int .i64 el, .int .i64 wt, .bool up] 29)) #[.int .i64 0, .int .i64 0, .int .i64 0, .int .i64 0, .int .i64 0, .int .i64 0, .int .i64 0, .slice none 0 0, .bool false] 59 (w.heap.size + 1) (by simp))
  have HTe := hide (fun wx (hx : Below w.heap.size w wx) => l10Term_any id tm vo ro cm el wt up lg st vs nx mt la lc sa sc va vc (some ⟨nb, noff, none⟩) nc ma mc p wx (hE.below hx) hpl (by omega))
  have HDr := hide (fun wx (hx : Below w.heap.size w wx) => (Ens.dropped (hE.below hx) p hpl).rw)
  have n0 := (BB.cell (p := ⟨nb, noff + dst, none⟩) hnb).trans (hns0 dst (by omega))
  rw [hp] at n0
  obtain ⟨dn, hdn⟩ : ∃ dn, dn = (lg.drop p).length := ⟨_, rfl⟩
  have hlc : dn ≤ 60 := by rw [hdn, List.length_drop]; omega
  have hdl := hide (show lg.length - p = dn by rw [hdn, List.length_drop])
  rw [← hdn] at HDr
  have hdnH := hide hdn
  have q1 : IntKind.i64.wrap ((p : Int) + 1 - 1) = (p : Int) := by simp only [IntKind.wrap, IntKind.bits, IntKind.signed]; simp; omega
  have q2 : (0 : Int) ≤ (dst : Int) := by omega
  have q3 : (dst : Int) < (nx.length : Int) := by omega
  have q4 : (0 : Int) ≤ (p : Int) := by omega
  have q5 : (p : Int) ≤ (lg.length : Int) := by omega
  have HEC := hide (hdn ▸ ensC_len (lg.drop p) : (ensC (lg.drop p)).length = dn * 3)
  clear hdn
  clear hN hns0 hp BB hE hx hnb
  go_enter Try.func62, Try.ntmps62
  have x0 := (unhide X0).cell 0 rfl
  have x1 := (unhide X0).cell 1 rfl
  have x2 := (unhide X0).cell 2 rfl
  have x3 := (unhide X0).cell 3 rfl
  have x4 := (unhide X0).cell 4 rfl
  have x5 := (unhide X0).cell 5 rfl
  have x6 := (unhide X0).cell 6 rfl
  have x7 := (unhide X0).cell 7 rfl
  have x8 := (unhide X0).cell 8 rfl
  have x9 := (unhide X0).cell 9 rfl
  have x10 := (unhide X0).cell 10 rfl
  have x11 := (unhide X0).cell 11 rfl
  have x12 := (unhide X0).cell 12 rfl
  go_upto_region 2 with fail
  generalize (w.alloc (.cells #[.int .i64 id, .int .i64 tm, .int .i64 vo, .slice la lg.length lc, .slice sa st.length sc, .int .i64 ro, .slice va vs.length vc, .slice (some ⟨nb, noff, none⟩) nx.length nc, .slice ma mt.length mc, .int .i64 cm, .int .i64 el, .int .i64 wt, .bool up] 29)).alloc (.cells #[.int .i64 0, .int .i64 0, .int .i64 0, .int .i64 0, .int .i64 0, .int .i64 0, .int .i64 0, .slice none 0 0, .bool false] 59) = w0 at *
  have hwz : w.heap.size < w0.heap.size := (unhide X0).1
  have hrz : w.heap.size + 1 < w0.heap.size := (unhide R0).1
  obtain ⟨rb, hrb⟩ : ∃ rb, rb = w.heap.size + 1 := ⟨_, rfl⟩
  have hrb1 : w.heap.size < rb := by omega
  rw [← hrb] at R0 hrz ⊢
  clear hrb n0
  obtain ⟨az, haz⟩ : ∃ az, az = (if lc = p then la else Option.map (fun x => x.add (p * 3)) la) := ⟨_, rfl⟩
  rw [← haz] at HDr
  have hazH := hide haz
  clear haz
  have HB0 := hide (below_drewN (Below.refl w0.heap.size w0) 1)
  refine wp_region_noPanic ?_
  refine wp_region_held_drew (S := (fun wx => wx.cell? ⟨w.heap.size, 0, none⟩ = some (.int .i64 id) ∧ wx.cell? ⟨w.heap.size, 1, none⟩ = some (.int .i64 tm) ∧ wx.cell? ⟨w.heap.size, 2, none⟩ = some (.int .i64 vo) ∧ wx.cell? ⟨w.heap.size, 3, none⟩ = some (.slice la lg.length lc) ∧ wx.cell? ⟨w.heap.size, 4, none⟩ = some (.slice sa st.length sc) ∧ wx.cell? ⟨w.heap.size, 5, none⟩ = some (.int .i64 ro) ∧ wx.cell? ⟨w.heap.size, 6, none⟩ = some (.slice va vs.length vc) ∧ wx.cell? ⟨w.heap.size, 7, none⟩ = some (.slice (some ⟨nb, noff, none⟩) nx.length nc) ∧ wx.cell? ⟨w.heap.size, 8, none⟩ = some (.slice ma mt.length mc) ∧ wx.cell? ⟨w.heap.size, 9, none⟩ = some (.int .i64 cm) ∧ wx.cell? ⟨w.heap.size, 10, none⟩ = some (.int .i64 el) ∧ wx.cell? ⟨w.heap.size, 11, none⟩ = some (.int .i64 wt) ∧ wx.cell? ⟨w.heap.size, 12, none⟩ = some (.bool up))) (by kernel_rfl) ?_ (fun hHeld => ?_)
  · exact ⟨x0, x1, x2, x3, x4, x5, x6, x7, x8, x9, x10, x11, x12⟩
  refine wpAnyH_take (i := 0) (oi := _) (v := ?_) rfl (by kernel_rfl) (by kernel_rfl) (by kernel_rfl) (fun _ _ _ h => h) (Or.inl ⟨by rfl, ?_⟩) (by assumption) ?_
  rotate_left 1
  · (intro wq hSw; (try dsimp only at hSw); (try simp only [List.getElem_toArray, List.getElem_cons_succ, List.getElem_cons_zero]); go_simp; try with_reducible rfl)
  (try simp only [Act.put, List.getElem_toArray, List.getElem_cons_succ, List.getElem_cons_zero, List.setIfInBounds_toArray, List.set_cons_zero, List.set_cons_succ])
  refine wpAnyH_take (i := 1) (oi := _) (v := ?_) rfl (by kernel_rfl) (by kernel_rfl) (by kernel_rfl) (fun _ _ _ h => h) (Or.inl ⟨by rfl, ?_⟩) (by assumption) ?_
  rotate_left 1
  · (intro wq hSw; (try dsimp only at hSw); (try simp only [List.getElem_toArray, List.getElem_cons_succ, List.getElem_cons_zero]); go_simp; try with_reducible rfl)
  (try simp only [Act.put, List.getElem_toArray, List.getElem_cons_succ, List.getElem_cons_zero, List.setIfInBounds_toArray, List.set_cons_zero, List.set_cons_succ])
  refine wpAnyH_take (i := 2) (oi := _) (v := ?_) rfl (by kernel_rfl) (by kernel_rfl) (by kernel_rfl) (fun _ _ _ h => h) (Or.inl ⟨by rfl, ?_⟩) (by assumption) ?_
  rotate_left 1
  · (intro wq hSw; (try dsimp only at hSw); (try simp only [List.getElem_toArray, List.getElem_cons_succ, List.getElem_cons_zero]); go_simp; try with_reducible rfl)
  (try simp only [Act.put, List.getElem_toArray, List.getElem_cons_succ, List.getElem_cons_zero, List.setIfInBounds_toArray, List.set_cons_zero, List.set_cons_succ])
  refine wpAnyH_take (i := 3) (oi := _) (v := ?_) rfl (by kernel_rfl) (by kernel_rfl) (by kernel_rfl) (fun _ _ _ h => h) (Or.inl ⟨by rfl, ?_⟩) (by assumption) ?_
  rotate_left 1
  · (intro wq hSw; (try dsimp only at hSw); (try simp only [List.getElem_toArray, List.getElem_cons_succ, List.getElem_cons_zero]); go_simp; try with_reducible rfl)
  (try simp only [Act.put, List.getElem_toArray, List.getElem_cons_succ, List.getElem_cons_zero, List.setIfInBounds_toArray, List.set_cons_zero, List.set_cons_succ])
  refine wpAnyH_take (i := 4) (oi := _) (v := ?_) rfl (by kernel_rfl) (by kernel_rfl) (by kernel_rfl) (fun _ _ _ h => h) (Or.inl ⟨by rfl, ?_⟩) (by assumption) ?_
  rotate_left 1
  · (intro wq hSw; (try dsimp only at hSw); (try simp only [List.getElem_toArray, List.getElem_cons_succ, List.getElem_cons_zero]); go_simp; try with_reducible rfl)
  (try simp only [Act.put, List.getElem_toArray, List.getElem_cons_succ, List.getElem_cons_zero, List.setIfInBounds_toArray, List.set_cons_zero, List.set_cons_succ])
  refine wpAnyH_take (i := 5) (oi := _) (v := ?_) rfl (by kernel_rfl) (by kernel_rfl) (by kernel_rfl) (fun _ _ _ h => h) (Or.inl ⟨by rfl, ?_⟩) (by assumption) ?_
  rotate_left 1
  · (intro wq hSw; (try dsimp only at hSw); (try simp only [List.getElem_toArray, List.getElem_cons_succ, List.getElem_cons_zero]); go_simp; try with_reducible rfl)
  (try simp only [Act.put, List.getElem_toArray, List.getElem_cons_succ, List.getElem_cons_zero, List.setIfInBounds_toArray, List.set_cons_zero, List.set_cons_succ])
  refine wpAnyH_take (i := 6) (oi := _) (v := ?_) rfl (by kernel_rfl) (by kernel_rfl) (by kernel_rfl) (fun _ _ _ h => h) (Or.inl ⟨by rfl, ?_⟩) (by assumption) ?_
  rotate_left 1
  · (intro wq hSw; (try dsimp only at hSw); (try simp only [List.getElem_toArray, List.getElem_cons_succ, List.getElem_cons_zero]); go_simp; try with_reducible rfl)
  (try simp only [Act.put, List.getElem_toArray, List.getElem_cons_succ, List.getElem_cons_zero, List.setIfInBounds_toArray, List.set_cons_zero, List.set_cons_succ])
  refine wpAnyH_take (i := 7) (oi := _) (v := ?_) rfl (by kernel_rfl) (by kernel_rfl) (by kernel_rfl) (fun _ _ _ h => h) (Or.inl ⟨by rfl, ?_⟩) (by assumption) ?_
  rotate_left 1
  · (intro wq hSw; (try dsimp only at hSw); (try simp only [List.getElem_toArray, List.getElem_cons_succ, List.getElem_cons_zero]); go_simp; try with_reducible rfl)
  (try simp only [Act.put, List.getElem_toArray, List.getElem_cons_succ, List.getElem_cons_zero, List.setIfInBounds_toArray, List.set_cons_zero, List.set_cons_succ])
  refine wpAnyH_take (i := 9) (oi := _) (v := ?_) rfl (by kernel_rfl) (by kernel_rfl) (by kernel_rfl) (fun _ _ _ h => h) (Or.inl ⟨by rfl, ?_⟩) (by assumption) ?_
  rotate_left 1
  · (intro wq hSw; (try dsimp only at hSw); (try simp only [List.getElem_toArray, List.getElem_cons_succ, List.getElem_cons_zero]); go_simp; try with_reducible rfl)
  (try simp only [Act.put, List.getElem_toArray, List.getElem_cons_succ, List.getElem_cons_zero, List.setIfInBounds_toArray, List.set_cons_zero, List.set_cons_succ])
  refine wpAnyH_take (i := 10) (oi := _) (v := ?_) rfl (by kernel_rfl) (by kernel_rfl) (by kernel_rfl) (fun _ _ _ h => h) (Or.inl ⟨by rfl, ?_⟩) (by assumption) ?_
  rotate_left 1
  · (intro wq hSw; (try dsimp only at hSw); (try simp only [List.getElem_toArray, List.getElem_cons_succ, List.getElem_cons_zero]); go_simp; try with_reducible rfl)
  (try simp only [Act.put, List.getElem_toArray, List.getElem_cons_succ, List.getElem_cons_zero, List.setIfInBounds_toArray, List.set_cons_zero, List.set_cons_succ])
  refine wpAnyH_take (i := 12) (oi := _) (v := ?_) rfl (by kernel_rfl) (by kernel_rfl) (by kernel_rfl) (fun _ _ _ h => h) (Or.inl ⟨by rfl, ?_⟩) (by assumption) ?_
  rotate_left 1
  · (intro wq hSw; (try dsimp only at hSw); (try simp only [List.getElem_toArray, List.getElem_cons_succ, List.getElem_cons_zero]); go_simp; try with_reducible rfl)
  (try simp only [Act.put, List.getElem_toArray, List.getElem_cons_succ, List.getElem_cons_zero, List.setIfInBounds_toArray, List.set_cons_zero, List.set_cons_succ])
  refine wpAnyH_take (i := 13) (oi := _) (v := ?_) rfl (by kernel_rfl) (by kernel_rfl) (by kernel_rfl) (fun _ _ _ h => h) (Or.inl ⟨by rfl, ?_⟩) (by assumption) ?_
  rotate_left 1
  · (intro wq hSw; (try dsimp only at hSw); (try simp only [List.getElem_toArray, List.getElem_cons_succ, List.getElem_cons_zero]); go_simp; try with_reducible rfl)
  (try simp only [Act.put, List.getElem_toArray, List.getElem_cons_succ, List.getElem_cons_zero, List.setIfInBounds_toArray, List.set_cons_zero, List.set_cons_succ])
  refine wpAnyH_take (i := 14) (oi := _) (v := ?_) rfl (by kernel_rfl) (by kernel_rfl) (by kernel_rfl) (fun _ _ _ h => h) (Or.inl ⟨by rfl, ?_⟩) (by assumption) ?_
  rotate_left 1
  · (intro wq hSw; (try dsimp only at hSw); (try simp only [List.getElem_toArray, List.getElem_cons_succ, List.getElem_cons_zero]); go_simp; try with_reducible rfl)
  (try simp only [Act.put, List.getElem_toArray, List.getElem_cons_succ, List.getElem_cons_zero, List.setIfInBounds_toArray, List.set_cons_zero, List.set_cons_succ])
  refine wpAnyH_take (i := 15) (oi := _) (v := ?_) rfl (by kernel_rfl) (by kernel_rfl) (by kernel_rfl) (fun _ _ _ h => h) (Or.inl ⟨by rfl, ?_⟩) (by assumption) ?_
  rotate_left 1
  · (intro wq hSw; (try dsimp only at hSw); (try simp only [List.getElem_toArray, List.getElem_cons_succ, List.getElem_cons_zero]); go_simp; try with_reducible rfl)
  (try simp only [Act.put, List.getElem_toArray, List.getElem_cons_succ, List.getElem_cons_zero, List.setIfInBounds_toArray, List.set_cons_zero, List.set_cons_succ])
  rw [← unhide hazH, unhide hdl]
  change Hid (Below w0.heap.size w0 w0.drew) at HB0
  clear hazH
  obtain ⟨wq, hwq⟩ : ∃ wq, wq = w0.drew := ⟨_, rfl⟩
  rw [← hwq] at HB0 hHeld ⊢
  clear hwq
  refine wpAnyH_ready (rs := [8, 11]) (by kernel_rfl) (by simp) ?_
  refine AllReadyH.cons (o := _) rfl (fun K hK => ?_) (AllReadyH.cons (o := _) rfl (fun K hK => ?_) AllReadyH.nil)
  · skip
    go_simp
    refine (unhide HTe wq ((unhide B0).trans ((unhide HB0).mono (unhide B0).size))).mono ?_
    rintro e wt1 ⟨rfl, hbt⟩
    have HBt := hide ((unhide HB0).trans (hbt.mono (unhide HB0).size))
    have hbX := unhide HBt
    go_wp2_with fail
    refine hK.out _ _ ?_ (fun hHeld => ?_)
    · exact ⟨(hbX.cell (p := ⟨w.heap.size, 0, none⟩) hwz).trans x0, (hbX.cell (p := ⟨w.heap.size, 1, none⟩) hwz).trans x1, (hbX.cell (p := ⟨w.heap.size, 2, none⟩) hwz).trans x2, (hbX.cell (p := ⟨w.heap.size, 3, none⟩) hwz).trans x3, (hbX.cell (p := ⟨w.heap.size, 4, none⟩) hwz).trans x4, (hbX.cell (p := ⟨w.heap.size, 5, none⟩) hwz).trans x5, (hbX.cell (p := ⟨w.heap.size, 6, none⟩) hwz).trans x6, (hbX.cell (p := ⟨w.heap.size, 7, none⟩) hwz).trans x7, (hbX.cell (p := ⟨w.heap.size, 8, none⟩) hwz).trans x8, (hbX.cell (p := ⟨w.heap.size, 9, none⟩) hwz).trans x9, (hbX.cell (p := ⟨w.heap.size, 10, none⟩) hwz).trans x10, (hbX.cell (p := ⟨w.heap.size, 11, none⟩) hwz).trans x11, (hbX.cell (p := ⟨w.heap.size, 12, none⟩) hwz).trans x12⟩
    clear hK K hbX hbt
    (try simp only [Act.put, List.getElem_toArray, List.getElem_cons_succ, List.getElem_cons_zero, List.setIfInBounds_toArray, List.set_cons_zero, List.set_cons_succ])
    refine wpAnyH_ready (rs := [11]) (by kernel_rfl) (by simp) ?_
    refine AllReadyH.cons (o := _) rfl (fun K hK => ?_) AllReadyH.nil
    go_simp
    have HBu := hide ((unhide HBt).alloc (unhide HBt).size (.cells #[] 63))
    have HOu := hide (show (wt1.alloc (.cells #[] 63)).ownsRow w0.heap.size 63 3 (.slice (some ⟨wt1.heap.size, 0, none⟩) 0 0) 0 [] from World.ownsRow_made wt1 #[] 0 (unhide HBt).size (by unfold maxLen; omega) rfl)
    have hbX := unhide HBu
    refine hK.out _ _ ?_ (fun hHeld => ?_)
    · exact ⟨(hbX.cell (p := ⟨w.heap.size, 0, none⟩) hwz).trans x0, (hbX.cell (p := ⟨w.heap.size, 1, none⟩) hwz).trans x1, (hbX.cell (p := ⟨w.heap.size, 2, none⟩) hwz).trans x2, (hbX.cell (p := ⟨w.heap.size, 3, none⟩) hwz).trans x3, (hbX.cell (p := ⟨w.heap.size, 4, none⟩) hwz).trans x4, (hbX.cell (p := ⟨w.heap.size, 5, none⟩) hwz).trans x5, (hbX.cell (p := ⟨w.heap.size, 6, none⟩) hwz).trans x6, (hbX.cell (p := ⟨w.heap.size, 7, none⟩) hwz).trans x7, (hbX.cell (p := ⟨w.heap.size, 8, none⟩) hwz).trans x8, (hbX.cell (p := ⟨w.heap.size, 9, none⟩) hwz).trans x9, (hbX.cell (p := ⟨w.heap.size, 10, none⟩) hwz).trans x10, (hbX.cell (p := ⟨w.heap.size, 11, none⟩) hwz).trans x11, (hbX.cell (p := ⟨w.heap.size, 12, none⟩) hwz).trans x12⟩
    clear hK K hbX
    (try simp only [Act.put, List.getElem_toArray, List.getElem_cons_succ, List.getElem_cons_zero, List.setIfInBounds_toArray, List.set_cons_zero, List.set_cons_succ])
    generalize wt1.alloc (.cells #[] 63) = wu at *
    generalize wt1.heap.size = bu at *
    refine wpAnyH_ready (rs := [16]) (by kernel_rfl) (by simp) ?_
    refine AllReadyH.cons (o := _) rfl (fun K hK => ?_) AllReadyH.nil
    have hBW := (unhide B0).trans ((unhide HBu).mono (unhide B0).size)
    refine step_append_row rfl _ _ _ rfl w0.heap.size 63 i0 _ 3 32 Try.underlying27 hi hz0 hz1 hz2 rfl (by omega) _ 0 [] rfl (unhide HOu) _ dn (ensC (lg.drop p)) rfl (unhide HDr _ hBW) (unhide HEC) (ensC_one _) (by unfold maxLen; omega) (by omega) (unhide HBu).size ?_
    intro a5 c5 w5 hown5 hgrow5 hat5
    simp only [Nat.zero_add, List.nil_append] at hown5 ⊢
    have hb5 := (unhide HBu).grown hgrow5 (unhide HBu).size (fun r hr => (World.ownsRow.lt (unhide HOu) r hr).1)
    refine hK.out _ _ ?_ (fun hHeld => ?_)
    · exact ⟨(hb5.cell (p := ⟨w.heap.size, 0, none⟩) hwz).trans x0, (hb5.cell (p := ⟨w.heap.size, 1, none⟩) hwz).trans x1, (hb5.cell (p := ⟨w.heap.size, 2, none⟩) hwz).trans x2, (hb5.cell (p := ⟨w.heap.size, 3, none⟩) hwz).trans x3, (hb5.cell (p := ⟨w.heap.size, 4, none⟩) hwz).trans x4, (hb5.cell (p := ⟨w.heap.size, 5, none⟩) hwz).trans x5, (hb5.cell (p := ⟨w.heap.size, 6, none⟩) hwz).trans x6, (hb5.cell (p := ⟨w.heap.size, 7, none⟩) hwz).trans x7, (hb5.cell (p := ⟨w.heap.size, 8, none⟩) hwz).trans x8, (hb5.cell (p := ⟨w.heap.size, 9, none⟩) hwz).trans x9, (hb5.cell (p := ⟨w.heap.size, 10, none⟩) hwz).trans x10, (hb5.cell (p := ⟨w.heap.size, 11, none⟩) hwz).trans x11, (hb5.cell (p := ⟨w.heap.size, 12, none⟩) hwz).trans x12⟩
    clear hK K
    (try simp only [Act.put, List.getElem_toArray, List.getElem_cons_succ, List.getElem_cons_zero, List.setIfInBounds_toArray, List.set_cons_zero, List.set_cons_succ])
    refine wpAnyH_take (i := 17) (oi := _) (v := ?_) rfl (by kernel_rfl) (by kernel_rfl) (by kernel_rfl) (fun _ _ _ h => h) (Or.inl ⟨by rfl, ?_⟩) (by assumption) ?_
    rotate_left 1
    · (intro wq hSw; (try dsimp only at hSw); (try simp only [List.getElem_toArray, List.getElem_cons_succ, List.getElem_cons_zero]); go_simp; try with_reducible rfl)
    (try simp only [Act.put, List.getElem_toArray, List.getElem_cons_succ, List.getElem_cons_zero, List.setIfInBounds_toArray, List.set_cons_zero, List.set_cons_succ])
    have RX := (unhide R0).below hb5
    have r0 := RX.cell 0 rfl
    have r1 := RX.cell 1 rfl
    have r2 := RX.cell 2 rfl
    have r3 := RX.cell 3 rfl
    have r4 := RX.cell 4 rfl
    have r5 := RX.cell 5 rfl
    have r6 := RX.cell 6 rfl
    have r7 := RX.cell 7 rfl
    have r8 := RX.cell 8 rfl
    have f0 := RX.fro 0
    have f1 := RX.fro 1
    have f2 := RX.fro 2
    have f3 := RX.fro 3
    have f4 := RX.fro 4
    have f5 := RX.fro 5
    have f6 := RX.fro 6
    have f7 := RX.fro 7
    have f8 := RX.fro 8
    have HR9 := hide ((((((((((RX.set 0 (.int .i64 3) (by simp)).set 1 (.int .i64 id) (by simp)).set 2 (.int .i64 (dst : Int)) (by simp)).set 3 (.int .i64 tm) (by simp)).set 4 (.int .i64 (p : Int)) (by simp)).set 5 (.int .i64 (termP lg p)) (by simp)).set 6 (.int .i64 cm) (by simp)).set 7 (.slice a5 dn c5) (by simp)).set 8 (.bool false) (by simp)))
    have T9 := ((((((((((Touch.refl (fun q => q = rb) w5).setCell ⟨rb, 0, none⟩ (.int .i64 3) (fun _ => rfl)).setCell ⟨rb, 1, none⟩ (.int .i64 id) (fun _ => rfl)).setCell ⟨rb, 2, none⟩ (.int .i64 (dst : Int)) (fun _ => rfl)).setCell ⟨rb, 3, none⟩ (.int .i64 tm) (fun _ => rfl)).setCell ⟨rb, 4, none⟩ (.int .i64 (p : Int)) (fun _ => rfl)).setCell ⟨rb, 5, none⟩ (.int .i64 (termP lg p)) (fun _ => rfl)).setCell ⟨rb, 6, none⟩ (.int .i64 cm) (fun _ => rfl)).setCell ⟨rb, 7, none⟩ (.slice a5 dn c5) (fun _ => rfl)).setCell ⟨rb, 8, none⟩ (.bool false) (fun _ => rfl))
    have FN := hide (World.ownsRow.mono (own_kept hown5 T9 (fun k hk e => by have := World.ownsRow.lt hown5 k hk; omega)) (show w.heap.size ≤ w0.heap.size by omega))
    have K5 := (unhide B0).trans (hb5.mono (unhide B0).size)
    have K9 := hide (K5.trans (T9.below K5.size (fun k hk e => by omega)))
    have hk9c := fun (i : Nat) (v : Value) (h : w5.cell? ⟨w.heap.size, i, none⟩ = some v) => (T9.cell (p := ⟨w.heap.size, i, none⟩) (Nat.lt_of_lt_of_le hwz hb5.size) (by show ¬ w.heap.size = rb; omega)).trans h
    clear RX T9 K5 hown5 hgrow5 hat5
    refine wpAnyH_ready (rs := [18]) (by kernel_rfl) (by simp) ?_
    refine AllReadyH.cons (o := _) rfl (fun K hK => ?_) AllReadyH.nil
    go_simp
    refine hK.out _ _ ?_ (fun hHeld => ?_)
    · exact ⟨hk9c 0 _ ((hb5.cell (p := ⟨w.heap.size, 0, none⟩) hwz).trans x0), hk9c 1 _ ((hb5.cell (p := ⟨w.heap.size, 1, none⟩) hwz).trans x1), hk9c 2 _ ((hb5.cell (p := ⟨w.heap.size, 2, none⟩) hwz).trans x2), hk9c 3 _ ((hb5.cell (p := ⟨w.heap.size, 3, none⟩) hwz).trans x3), hk9c 4 _ ((hb5.cell (p := ⟨w.heap.size, 4, none⟩) hwz).trans x4), hk9c 5 _ ((hb5.cell (p := ⟨w.heap.size, 5, none⟩) hwz).trans x5), hk9c 6 _ ((hb5.cell (p := ⟨w.heap.size, 6, none⟩) hwz).trans x6), hk9c 7 _ ((hb5.cell (p := ⟨w.heap.size, 7, none⟩) hwz).trans x7), hk9c 8 _ ((hb5.cell (p := ⟨w.heap.size, 8, none⟩) hwz).trans x8), hk9c 9 _ ((hb5.cell (p := ⟨w.heap.size, 9, none⟩) hwz).trans x9), hk9c 10 _ ((hb5.cell (p := ⟨w.heap.size, 10, none⟩) hwz).trans x10), hk9c 11 _ ((hb5.cell (p := ⟨w.heap.size, 11, none⟩) hwz).trans x11), hk9c 12 _ ((hb5.cell (p := ⟨w.heap.size, 12, none⟩) hwz).trans x12)⟩
    clear hK K
    (try simp only [Act.put, List.getElem_toArray, List.getElem_cons_succ, List.getElem_cons_zero, List.setIfInBounds_toArray, List.set_cons_zero, List.set_cons_succ])
    refine wpAnyH_done (by kernel_rfl) (NoPanic.normal ?_) _
    go_wp2_with fail
    have R9 := unhide HR9
    have z0 := R9.cell 0 rfl
    have z1 := R9.cell 1 rfl
    have z2 := R9.cell 2 rfl
    have z3 := R9.cell 3 rfl
    have z4 := R9.cell 4 rfl
    have z5 := R9.cell 5 rfl
    have z6 := R9.cell 6 rfl
    have z7 := R9.cell 7 rfl
    have z8 := R9.cell 8 rfl
    refine bodyPost_ret (v := .agg #[.int .i64 3, .int .i64 id, .int .i64 (dst : Int), .int .i64 tm, .int .i64 (p : Int), .int .i64 (termP lg p), .int .i64 cm, .slice a5 dn c5, .bool false]) (by simp [results, Try.results62, go_sem, z0, z1, z2, z3, z4, z5, z6, z7, z8]) rfl ?_
    refine ⟨a5, c5, by rw [unhide hdnH], ?_, unhide K9⟩
    have h := unhide FN
    unfold OwnE
    rw [← unhide hdnH]
    exact h
  · skip
    go_simp
    have HBu := hide ((unhide HB0).alloc (unhide HB0).size (.cells #[] 63))
    have HOu := hide (show (wq.alloc (.cells #[] 63)).ownsRow w0.heap.size 63 3 (.slice (some ⟨wq.heap.size, 0, none⟩) 0 0) 0 [] from World.ownsRow_made wq #[] 0 (unhide HB0).size (by unfold maxLen; omega) rfl)
    have hbX := unhide HBu
    refine hK.out _ _ ?_ (fun hHeld => ?_)
    · exact ⟨(hbX.cell (p := ⟨w.heap.size, 0, none⟩) hwz).trans x0, (hbX.cell (p := ⟨w.heap.size, 1, none⟩) hwz).trans x1, (hbX.cell (p := ⟨w.heap.size, 2, none⟩) hwz).trans x2, (hbX.cell (p := ⟨w.heap.size, 3, none⟩) hwz).trans x3, (hbX.cell (p := ⟨w.heap.size, 4, none⟩) hwz).trans x4, (hbX.cell (p := ⟨w.heap.size, 5, none⟩) hwz).trans x5, (hbX.cell (p := ⟨w.heap.size, 6, none⟩) hwz).trans x6, (hbX.cell (p := ⟨w.heap.size, 7, none⟩) hwz).trans x7, (hbX.cell (p := ⟨w.heap.size, 8, none⟩) hwz).trans x8, (hbX.cell (p := ⟨w.heap.size, 9, none⟩) hwz).trans x9, (hbX.cell (p := ⟨w.heap.size, 10, none⟩) hwz).trans x10, (hbX.cell (p := ⟨w.heap.size, 11, none⟩) hwz).trans x11, (hbX.cell (p := ⟨w.heap.size, 12, none⟩) hwz).trans x12⟩
    clear hK K hbX
    (try simp only [Act.put, List.getElem_toArray, List.getElem_cons_succ, List.getElem_cons_zero, List.setIfInBounds_toArray, List.set_cons_zero, List.set_cons_succ])
    generalize wq.alloc (.cells #[] 63) = wu at *
    generalize wq.heap.size = bu at *
    refine wpAnyH_ready (rs := [8]) (by kernel_rfl) (by simp) ?_
    refine AllReadyH.cons (o := _) rfl (fun K hK => ?_) AllReadyH.nil
    go_simp
    refine (unhide HTe wu ((unhide B0).trans ((unhide HBu).mono (unhide B0).size))).mono ?_
    rintro e wt1 ⟨rfl, hbt⟩
    have HBt := hide ((unhide HBu).trans (hbt.mono (unhide HBu).size))
    have HOt := hide (own_kept (T := fun _ => False) (unhide HOu) (Touch.ofBelow hbt) (fun _ _ e => e))
    have hbX := unhide HBt
    go_wp2_with fail
    refine hK.out _ _ ?_ (fun hHeld => ?_)
    · exact ⟨(hbX.cell (p := ⟨w.heap.size, 0, none⟩) hwz).trans x0, (hbX.cell (p := ⟨w.heap.size, 1, none⟩) hwz).trans x1, (hbX.cell (p := ⟨w.heap.size, 2, none⟩) hwz).trans x2, (hbX.cell (p := ⟨w.heap.size, 3, none⟩) hwz).trans x3, (hbX.cell (p := ⟨w.heap.size, 4, none⟩) hwz).trans x4, (hbX.cell (p := ⟨w.heap.size, 5, none⟩) hwz).trans x5, (hbX.cell (p := ⟨w.heap.size, 6, none⟩) hwz).trans x6, (hbX.cell (p := ⟨w.heap.size, 7, none⟩) hwz).trans x7, (hbX.cell (p := ⟨w.heap.size, 8, none⟩) hwz).trans x8, (hbX.cell (p := ⟨w.heap.size, 9, none⟩) hwz).trans x9, (hbX.cell (p := ⟨w.heap.size, 10, none⟩) hwz).trans x10, (hbX.cell (p := ⟨w.heap.size, 11, none⟩) hwz).trans x11, (hbX.cell (p := ⟨w.heap.size, 12, none⟩) hwz).trans x12⟩
    clear hK K hbX hbt
    (try simp only [Act.put, List.getElem_toArray, List.getElem_cons_succ, List.getElem_cons_zero, List.setIfInBounds_toArray, List.set_cons_zero, List.set_cons_succ])
    refine wpAnyH_ready (rs := [16]) (by kernel_rfl) (by simp) ?_
    refine AllReadyH.cons (o := _) rfl (fun K hK => ?_) AllReadyH.nil
    have hBW := (unhide B0).trans ((unhide HBt).mono (unhide B0).size)
    refine step_append_row rfl _ _ _ rfl w0.heap.size 63 i0 _ 3 32 Try.underlying27 hi hz0 hz1 hz2 rfl (by omega) _ 0 [] rfl (unhide HOt) _ dn (ensC (lg.drop p)) rfl (unhide HDr _ hBW) (unhide HEC) (ensC_one _) (by unfold maxLen; omega) (by omega) (unhide HBt).size ?_
    intro a5 c5 w5 hown5 hgrow5 hat5
    simp only [Nat.zero_add, List.nil_append] at hown5 ⊢
    have hb5 := (unhide HBt).grown hgrow5 (unhide HBt).size (fun r hr => (World.ownsRow.lt (unhide HOt) r hr).1)
    refine hK.out _ _ ?_ (fun hHeld => ?_)
    · exact ⟨(hb5.cell (p := ⟨w.heap.size, 0, none⟩) hwz).trans x0, (hb5.cell (p := ⟨w.heap.size, 1, none⟩) hwz).trans x1, (hb5.cell (p := ⟨w.heap.size, 2, none⟩) hwz).trans x2, (hb5.cell (p := ⟨w.heap.size, 3, none⟩) hwz).trans x3, (hb5.cell (p := ⟨w.heap.size, 4, none⟩) hwz).trans x4, (hb5.cell (p := ⟨w.heap.size, 5, none⟩) hwz).trans x5, (hb5.cell (p := ⟨w.heap.size, 6, none⟩) hwz).trans x6, (hb5.cell (p := ⟨w.heap.size, 7, none⟩) hwz).trans x7, (hb5.cell (p := ⟨w.heap.size, 8, none⟩) hwz).trans x8, (hb5.cell (p := ⟨w.heap.size, 9, none⟩) hwz).trans x9, (hb5.cell (p := ⟨w.heap.size, 10, none⟩) hwz).trans x10, (hb5.cell (p := ⟨w.heap.size, 11, none⟩) hwz).trans x11, (hb5.cell (p := ⟨w.heap.size, 12, none⟩) hwz).trans x12⟩
    clear hK K
    (try simp only [Act.put, List.getElem_toArray, List.getElem_cons_succ, List.getElem_cons_zero, List.setIfInBounds_toArray, List.set_cons_zero, List.set_cons_succ])
    refine wpAnyH_take (i := 17) (oi := _) (v := ?_) rfl (by kernel_rfl) (by kernel_rfl) (by kernel_rfl) (fun _ _ _ h => h) (Or.inl ⟨by rfl, ?_⟩) (by assumption) ?_
    rotate_left 1
    · (intro wq hSw; (try dsimp only at hSw); (try simp only [List.getElem_toArray, List.getElem_cons_succ, List.getElem_cons_zero]); go_simp; try with_reducible rfl)
    (try simp only [Act.put, List.getElem_toArray, List.getElem_cons_succ, List.getElem_cons_zero, List.setIfInBounds_toArray, List.set_cons_zero, List.set_cons_succ])
    have RX := (unhide R0).below hb5
    have r0 := RX.cell 0 rfl
    have r1 := RX.cell 1 rfl
    have r2 := RX.cell 2 rfl
    have r3 := RX.cell 3 rfl
    have r4 := RX.cell 4 rfl
    have r5 := RX.cell 5 rfl
    have r6 := RX.cell 6 rfl
    have r7 := RX.cell 7 rfl
    have r8 := RX.cell 8 rfl
    have f0 := RX.fro 0
    have f1 := RX.fro 1
    have f2 := RX.fro 2
    have f3 := RX.fro 3
    have f4 := RX.fro 4
    have f5 := RX.fro 5
    have f6 := RX.fro 6
    have f7 := RX.fro 7
    have f8 := RX.fro 8
    have HR9 := hide ((((((((((RX.set 0 (.int .i64 3) (by simp)).set 1 (.int .i64 id) (by simp)).set 2 (.int .i64 (dst : Int)) (by simp)).set 3 (.int .i64 tm) (by simp)).set 4 (.int .i64 (p : Int)) (by simp)).set 5 (.int .i64 (termP lg p)) (by simp)).set 6 (.int .i64 cm) (by simp)).set 7 (.slice a5 dn c5) (by simp)).set 8 (.bool false) (by simp)))
    have T9 := ((((((((((Touch.refl (fun q => q = rb) w5).setCell ⟨rb, 0, none⟩ (.int .i64 3) (fun _ => rfl)).setCell ⟨rb, 1, none⟩ (.int .i64 id) (fun _ => rfl)).setCell ⟨rb, 2, none⟩ (.int .i64 (dst : Int)) (fun _ => rfl)).setCell ⟨rb, 3, none⟩ (.int .i64 tm) (fun _ => rfl)).setCell ⟨rb, 4, none⟩ (.int .i64 (p : Int)) (fun _ => rfl)).setCell ⟨rb, 5, none⟩ (.int .i64 (termP lg p)) (fun _ => rfl)).setCell ⟨rb, 6, none⟩ (.int .i64 cm) (fun _ => rfl)).setCell ⟨rb, 7, none⟩ (.slice a5 dn c5) (fun _ => rfl)).setCell ⟨rb, 8, none⟩ (.bool false) (fun _ => rfl))
    have FN := hide (World.ownsRow.mono (own_kept hown5 T9 (fun k hk e => by have := World.ownsRow.lt hown5 k hk; omega)) (show w.heap.size ≤ w0.heap.size by omega))
    have K5 := (unhide B0).trans (hb5.mono (unhide B0).size)
    have K9 := hide (K5.trans (T9.below K5.size (fun k hk e => by omega)))
    have hk9c := fun (i : Nat) (v : Value) (h : w5.cell? ⟨w.heap.size, i, none⟩ = some v) => (T9.cell (p := ⟨w.heap.size, i, none⟩) (Nat.lt_of_lt_of_le hwz hb5.size) (by show ¬ w.heap.size = rb; omega)).trans h
    clear RX T9 K5 hown5 hgrow5 hat5
    refine wpAnyH_ready (rs := [18]) (by kernel_rfl) (by simp) ?_
    refine AllReadyH.cons (o := _) rfl (fun K hK => ?_) AllReadyH.nil
    go_simp
    refine hK.out _ _ ?_ (fun hHeld => ?_)
    · exact ⟨hk9c 0 _ ((hb5.cell (p := ⟨w.heap.size, 0, none⟩) hwz).trans x0), hk9c 1 _ ((hb5.cell (p := ⟨w.heap.size, 1, none⟩) hwz).trans x1), hk9c 2 _ ((hb5.cell (p := ⟨w.heap.size, 2, none⟩) hwz).trans x2), hk9c 3 _ ((hb5.cell (p := ⟨w.heap.size, 3, none⟩) hwz).trans x3), hk9c 4 _ ((hb5.cell (p := ⟨w.heap.size, 4, none⟩) hwz).trans x4), hk9c 5 _ ((hb5.cell (p := ⟨w.heap.size, 5, none⟩) hwz).trans x5), hk9c 6 _ ((hb5.cell (p := ⟨w.heap.size, 6, none⟩) hwz).trans x6), hk9c 7 _ ((hb5.cell (p := ⟨w.heap.size, 7, none⟩) hwz).trans x7), hk9c 8 _ ((hb5.cell (p := ⟨w.heap.size, 8, none⟩) hwz).trans x8), hk9c 9 _ ((hb5.cell (p := ⟨w.heap.size, 9, none⟩) hwz).trans x9), hk9c 10 _ ((hb5.cell (p := ⟨w.heap.size, 10, none⟩) hwz).trans x10), hk9c 11 _ ((hb5.cell (p := ⟨w.heap.size, 11, none⟩) hwz).trans x11), hk9c 12 _ ((hb5.cell (p := ⟨w.heap.size, 12, none⟩) hwz).trans x12)⟩
    clear hK K
    (try simp only [Act.put, List.getElem_toArray, List.getElem_cons_succ, List.getElem_cons_zero, List.setIfInBounds_toArray, List.set_cons_zero, List.set_cons_succ])
    refine wpAnyH_done (by kernel_rfl) (NoPanic.normal ?_) _
    go_wp2_with fail
    have R9 := unhide HR9
    have z0 := R9.cell 0 rfl
    have z1 := R9.cell 1 rfl
    have z2 := R9.cell 2 rfl
    have z3 := R9.cell 3 rfl
    have z4 := R9.cell 4 rfl
    have z5 := R9.cell 5 rfl
    have z6 := R9.cell 6 rfl
    have z7 := R9.cell 7 rfl
    have z8 := R9.cell 8 rfl
    refine bodyPost_ret (v := .agg #[.int .i64 3, .int .i64 id, .int .i64 (dst : Int), .int .i64 tm, .int .i64 (p : Int), .int .i64 (termP lg p), .int .i64 cm, .slice a5 dn c5, .bool false]) (by simp [results, Try.results62, go_sem, z0, z1, z2, z3, z4, z5, z6, z7, z8]) rfl ?_
    refine ⟨a5, c5, by rw [unhide hdnH], ?_, unhide K9⟩
    have h := unhide FN
    unfold OwnE
    rw [← unhide hdnH]
    exact h
end Go.Proofs.Ytljolldacpkeeaa
