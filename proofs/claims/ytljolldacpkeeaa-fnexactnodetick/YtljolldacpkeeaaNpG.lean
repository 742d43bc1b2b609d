/- (*actor).news, walked. (Written by py/npg.py.) -/
import Derived.Test.YtljolldacpkeeaaNpC
import Derived.Test.YtljolldacpkeeaaNodU
namespace Go.Proofs.Ytljolldacpkeeaa
open Go.ChangeShapes Go.WideShapes Go.ChangeAt Go.RowKit Go.Deep
set_option linter.unusedVariables false
set_option linter.unusedSimpArgs false

set_option maxRecDepth 100000 in
set_option maxHeartbeats 1500000 in
theorem news_any (b d p : Nat) (cm : Int) (la : Option Addr) (lc : Nat) (na : Option Addr) (nc : Nat) (lg : List En) (nx : List Int) (w : World) (hb : b < w.heap.size) (h3 : w.cell? ⟨b, 3, none⟩ = some (.slice la lg.length lc)) (h7 : w.cell? ⟨b, 7, none⟩ = some (.slice na nx.length nc)) (h9 : w.cell? ⟨b, 9, none⟩ = some (.int .i64 cm)) (hE : Ens w (.slice la lg.length lc) lg) (hN : Ints w (.slice na nx.length nc) nx) (hl : lg.length ≤ 60) (hx : nx.length = 7) (hd : d < 7) (hp : nx.getD d 0 = (p : Int) + 1) (hpl : p ≤ lg.length) :
    Calls Try.prog 69 #[.pointer (some ⟨b, 0, none⟩), .int .i64 (d : Int)] w fun e w' => ∃ a5 c5, e = .returned (.agg #[.int .i64 3, .int .i64 0, .int .i64 (d : Int), .int .i64 0, .int .i64 (p : Int), .int .i64 (termP lg p), .int .i64 cm, .slice a5 (lg.drop p).length c5, .bool false]) ∧ OwnE w.heap.size w' (.slice a5 (lg.drop p).length c5) (lg.drop p) ∧ Below w.heap.size w w' := by
  obtain ⟨nb, noff, rfl, hnb, hns0⟩ : ∃ b off, na = some ⟨b, off, none⟩ ∧ b < w.heap.size ∧ ∀ i, i < nx.length → World.cell? w ⟨b, off + i, none⟩ = some (.int .i64 (nx.getD i 0)) := by
    obtain ⟨na', nc', e', hm', hc'⟩ := hN
    simp only [Value.slice.injEq] at e'
    obtain ⟨rfl, _, rfl⟩ := e'
    rcases hc' with h0 | h1
    · omega
    · exact h1
  have BB := (Below.refl w.heap.size w).alloc (Nat.le_refl _) (.cells #[.int .i64 0, .int .i64 0, .int .i64 0, .int .i64 0, .int .i64 0, .int .i64 0, .int .i64 0, .slice none 0 0, .bool false] 59)
  have B0 := hide BB
  have R0 := hide (Blk.new w #[.int .i64 0, .int .i64 0, .int .i64 0, .int .i64 0, .int .i64 0, .int .i64 0, .int .i64 0, .slice none 0 0, .bool false] 59 w.heap.size rfl)
  have HTe := hide (fun wx (hx : Below w.heap.size w wx) => termAt_any b la lc lg p wx ((hx.cell (p := ⟨b, 3, none⟩) hb).trans h3) (hE.below hx) hpl (by omega))
  have HCl := hide (fun wx (hx : Below w.heap.size w wx) => cloneE_all _ _ (lg.drop p) wx (Ens.dropped (hE.below hx) p hpl) (by rw [List.length_drop]; omega))
  have n0 := (BB.cell (p := ⟨nb, noff + d, none⟩) hnb).trans (hns0 d (by omega))
  rw [hp] at n0
  have x3 := (BB.cell (p := ⟨b, 3, none⟩) hb).trans h3
  have x7 := (BB.cell (p := ⟨b, 7, none⟩) hb).trans h7
  have x9 := (BB.cell (p := ⟨b, 9, none⟩) hb).trans h9
  obtain ⟨dn, hdn⟩ : ∃ dn, dn = (lg.drop p).length := ⟨_, rfl⟩
  have hdl := hide (show lg.length - p = dn by rw [hdn, List.length_drop])
  rw [← hdn] at HCl
  have hdnH := hide hdn
  have q1 : IntKind.i64.wrap ((p : Int) + 1 - 1) = (p : Int) := by simp only [IntKind.wrap, IntKind.bits, IntKind.signed]; simp; omega
  have q2 : (0 : Int) ≤ (d : Int) := by omega
  have q3 : (d : Int) < (nx.length : Int) := by omega
  have q4 : (0 : Int) ≤ (p : Int) := by omega
  have q5 : (p : Int) ≤ (lg.length : Int) := by omega
  generalize htp : termP lg p = tp at *
  have HTP := hide htp
  clear htp hdn
  clear hN hns0 hp BB hE hx hnb h3 h7 h9
  have hb1 : b < (w.alloc (.cells #[.int .i64 0, .int .i64 0, .int .i64 0, .int .i64 0, .int .i64 0, .int .i64 0, .int .i64 0, .slice none 0 0, .bool false] 59)).heap.size := by simp; omega
  go_enter Try.func69, Try.ntmps69
  go_upto_region 2 with fail
  generalize w.alloc (.cells #[.int .i64 0, .int .i64 0, .int .i64 0, .int .i64 0, .int .i64 0, .int .i64 0, .int .i64 0, .slice none 0 0, .bool false] 59) = w0 at *
  have hrz : w.heap.size < w0.heap.size := (unhide R0).1
  clear n0 x7
  obtain ⟨az, haz⟩ : ∃ az, az = (if lc = p then la else Option.map (fun x => x.add (p * 3)) la) := ⟨_, rfl⟩
  rw [← haz] at HCl
  have hazH := hide haz
  clear haz
  have HB0 := hide (below_drewN (Below.refl w0.heap.size w0) 1)
  have hb0 := hb1
  have y3 := x3
  have y9 := x9
  refine wp_region_noPanic ?_
  refine wp_region_held_drew (S := (fun wx => wx.cell? ⟨b, 3, none⟩ = some (.slice la lg.length lc) ∧ wx.cell? ⟨b, 9, none⟩ = some (.int .i64 cm))) (by kernel_rfl) ?_ (fun hHeld => ?_)
  · exact ⟨x3, x9⟩
  refine wpAnyH_take (i := 0) (oi := _) (v := ?_) rfl (by kernel_rfl) (by kernel_rfl) (by kernel_rfl) (fun _ _ _ h => h) (Or.inl ⟨by rfl, ?_⟩) (by assumption) ?_
  rotate_left 1
  · (intro wq hSw; (try dsimp only at hSw); (try simp only [List.getElem_toArray, List.getElem_cons_succ, List.getElem_cons_zero]); go_simp; try with_reducible rfl)
  (try simp only [Act.put, List.getElem_toArray, List.getElem_cons_succ, List.getElem_cons_zero, List.setIfInBounds_toArray, List.set_cons_zero, List.set_cons_succ])
  refine wpAnyH_take (i := 1) (oi := _) (v := ?_) rfl (by kernel_rfl) (by kernel_rfl) (by kernel_rfl) (fun _ _ _ h => h) (Or.inl ⟨by rfl, ?_⟩) (by assumption) ?_
  rotate_left 1
  · (intro wq hSw; (try dsimp only at hSw); (try simp only [List.getElem_toArray, List.getElem_cons_succ, List.getElem_cons_zero]); go_simp; try with_reducible rfl)
  (try simp only [Act.put, List.getElem_toArray, List.getElem_cons_succ, List.getElem_cons_zero, List.setIfInBounds_toArray, List.set_cons_zero, List.set_cons_succ])
  refine wpAnyH_take (i := 2) (oi := _) (v := ?_) rfl (by kernel_rfl) (by kernel_rfl) (by kernel_rfl) (fun _ _ _ h => h) (Or.inl ⟨by rfl, ?_⟩) (by assumption) ?_
  rotate_left 1
  · (intro wq hSw; (try dsimp only at hSw); (try simp only [List.getElem_toArray, List.getElem_cons_succ, List.getElem_cons_zero]); go_simp; try with_reducible rfl)
  (try simp only [Act.put, List.getElem_toArray, List.getElem_cons_succ, List.getElem_cons_zero, List.setIfInBounds_toArray, List.set_cons_zero, List.set_cons_succ])
  refine wpAnyH_take (i := 3) (oi := _) (v := ?_) rfl (by kernel_rfl) (by kernel_rfl) (by kernel_rfl) (fun _ _ _ h => h) (Or.inl ⟨by rfl, ?_⟩) (by assumption) ?_
  rotate_left 1
  · (intro wq hSw; (try dsimp only at hSw); (try simp only [List.getElem_toArray, List.getElem_cons_succ, List.getElem_cons_zero]); go_simp; try with_reducible rfl)
  (try simp only [Act.put, List.getElem_toArray, List.getElem_cons_succ, List.getElem_cons_zero, List.setIfInBounds_toArray, List.set_cons_zero, List.set_cons_succ])
  refine wpAnyH_take (i := 5) (oi := _) (v := ?_) rfl (by kernel_rfl) (by kernel_rfl) (by kernel_rfl) (fun _ _ _ h => h) (Or.inl ⟨by rfl, ?_⟩) (by assumption) ?_
  rotate_left 1
  · (intro wq hSw; (try dsimp only at hSw); (try simp only [List.getElem_toArray, List.getElem_cons_succ, List.getElem_cons_zero]); go_simp; try with_reducible rfl)
  (try simp only [Act.put, List.getElem_toArray, List.getElem_cons_succ, List.getElem_cons_zero, List.setIfInBounds_toArray, List.set_cons_zero, List.set_cons_succ])
  refine wpAnyH_take (i := 6) (oi := _) (v := ?_) rfl (by kernel_rfl) (by kernel_rfl) (by kernel_rfl) (fun _ _ _ h => h) (Or.inl ⟨by rfl, ?_⟩) (by assumption) ?_
  rotate_left 1
  · (intro wq hSw; (try dsimp only at hSw); (try simp only [List.getElem_toArray, List.getElem_cons_succ, List.getElem_cons_zero]); go_simp; try with_reducible rfl)
  (try simp only [Act.put, List.getElem_toArray, List.getElem_cons_succ, List.getElem_cons_zero, List.setIfInBounds_toArray, List.set_cons_zero, List.set_cons_succ])
  refine wpAnyH_take (i := 7) (oi := _) (v := ?_) rfl (by kernel_rfl) (by kernel_rfl) (by kernel_rfl) (fun _ _ _ h => h) (Or.inl ⟨by rfl, ?_⟩) (by assumption) ?_
  rotate_left 1
  · (intro wq hSw; (try dsimp only at hSw); (try simp only [List.getElem_toArray, List.getElem_cons_succ, List.getElem_cons_zero]); go_simp; try with_reducible rfl)
  (try simp only [Act.put, List.getElem_toArray, List.getElem_cons_succ, List.getElem_cons_zero, List.setIfInBounds_toArray, List.set_cons_zero, List.set_cons_succ])
  refine wpAnyH_take (i := 8) (oi := _) (v := ?_) rfl (by kernel_rfl) (by kernel_rfl) (by kernel_rfl) (fun _ _ _ h => h) (Or.inl ⟨by rfl, ?_⟩) (by assumption) ?_
  rotate_left 1
  · (intro wq hSw; (try dsimp only at hSw); (try simp only [List.getElem_toArray, List.getElem_cons_succ, List.getElem_cons_zero]); go_simp; try with_reducible rfl)
  (try simp only [Act.put, List.getElem_toArray, List.getElem_cons_succ, List.getElem_cons_zero, List.setIfInBounds_toArray, List.set_cons_zero, List.set_cons_succ])
  refine wpAnyH_take (i := 9) (oi := _) (v := ?_) rfl (by kernel_rfl) (by kernel_rfl) (by kernel_rfl) (fun _ _ _ h => h) (Or.inl ⟨by rfl, ?_⟩) (by assumption) ?_
  rotate_left 1
  · (intro wq hSw; (try dsimp only at hSw); (try simp only [List.getElem_toArray, List.getElem_cons_succ, List.getElem_cons_zero]); go_simp; try with_reducible rfl)
  (try simp only [Act.put, List.getElem_toArray, List.getElem_cons_succ, List.getElem_cons_zero, List.setIfInBounds_toArray, List.set_cons_zero, List.set_cons_succ])
  refine wpAnyH_take (i := 10) (oi := _) (v := ?_) rfl (by kernel_rfl) (by kernel_rfl) (by kernel_rfl) (fun _ _ _ h => h) (Or.inl ⟨by rfl, ?_⟩) (by assumption) ?_
  rotate_left 1
  · (intro wq hSw; (try dsimp only at hSw); (try simp only [List.getElem_toArray, List.getElem_cons_succ, List.getElem_cons_zero]); go_simp; try with_reducible rfl)
  (try simp only [Act.put, List.getElem_toArray, List.getElem_cons_succ, List.getElem_cons_zero, List.setIfInBounds_toArray, List.set_cons_zero, List.set_cons_succ])
  refine wpAnyH_take (i := 11) (oi := _) (v := ?_) rfl (by kernel_rfl) (by kernel_rfl) (by kernel_rfl) (fun _ _ _ h => h) (Or.inl ⟨by rfl, ?_⟩) (by assumption) ?_
  rotate_left 1
  · (intro wq hSw; (try dsimp only at hSw); (try simp only [List.getElem_toArray, List.getElem_cons_succ, List.getElem_cons_zero]); go_simp; try with_reducible rfl)
  (try simp only [Act.put, List.getElem_toArray, List.getElem_cons_succ, List.getElem_cons_zero, List.setIfInBounds_toArray, List.set_cons_zero, List.set_cons_succ])
  refine wpAnyH_take (i := 12) (oi := _) (v := ?_) rfl (by kernel_rfl) (by kernel_rfl) (by kernel_rfl) (fun _ _ _ h => h) (Or.inl ⟨by rfl, ?_⟩) (by assumption) ?_
  rotate_left 1
  · (intro wq hSw; (try dsimp only at hSw); (try simp only [List.getElem_toArray, List.getElem_cons_succ, List.getElem_cons_zero]); go_simp; try with_reducible rfl)
  (try simp only [Act.put, List.getElem_toArray, List.getElem_cons_succ, List.getElem_cons_zero, List.setIfInBounds_toArray, List.set_cons_zero, List.set_cons_succ])
  refine wpAnyH_take (i := 13) (oi := _) (v := ?_) rfl (by kernel_rfl) (by kernel_rfl) (by kernel_rfl) (fun _ _ _ h => h) (Or.inl ⟨by rfl, ?_⟩) (by assumption) ?_
  rotate_left 1
  · (intro wq hSw; (try dsimp only at hSw); (try simp only [List.getElem_toArray, List.getElem_cons_succ, List.getElem_cons_zero]); go_simp; try with_reducible rfl)
  (try simp only [Act.put, List.getElem_toArray, List.getElem_cons_succ, List.getElem_cons_zero, List.setIfInBounds_toArray, List.set_cons_zero, List.set_cons_succ])
  refine wpAnyH_take (i := 14) (oi := _) (v := ?_) rfl (by kernel_rfl) (by kernel_rfl) (by kernel_rfl) (fun _ _ _ h => h) (Or.inl ⟨by rfl, ?_⟩) (by assumption) ?_
  rotate_left 1
  · (intro wq hSw; (try dsimp only at hSw); (try simp only [List.getElem_toArray, List.getElem_cons_succ, List.getElem_cons_zero]); go_simp; try with_reducible rfl)
  (try simp only [Act.put, List.getElem_toArray, List.getElem_cons_succ, List.getElem_cons_zero, List.setIfInBounds_toArray, List.set_cons_zero, List.set_cons_succ])
  refine wpAnyH_take (i := 15) (oi := _) (v := ?_) rfl (by kernel_rfl) (by kernel_rfl) (by kernel_rfl) (fun _ _ _ h => h) (Or.inl ⟨by rfl, ?_⟩) (by assumption) ?_
  rotate_left 1
  · (intro wq hSw; (try dsimp only at hSw); (try simp only [List.getElem_toArray, List.getElem_cons_succ, List.getElem_cons_zero]); go_simp; try with_reducible rfl)
  (try simp only [Act.put, List.getElem_toArray, List.getElem_cons_succ, List.getElem_cons_zero, List.setIfInBounds_toArray, List.set_cons_zero, List.set_cons_succ])
  refine wpAnyH_take (i := 16) (oi := _) (v := ?_) rfl (by kernel_rfl) (by kernel_rfl) (by kernel_rfl) (fun _ _ _ h => h) (Or.inl ⟨by rfl, ?_⟩) (by assumption) ?_
  rotate_left 1
  · (intro wq hSw; (try dsimp only at hSw); (try simp only [List.getElem_toArray, List.getElem_cons_succ, List.getElem_cons_zero]); go_simp; try with_reducible rfl)
  (try simp only [Act.put, List.getElem_toArray, List.getElem_cons_succ, List.getElem_cons_zero, List.setIfInBounds_toArray, List.set_cons_zero, List.set_cons_succ])
  rw [← unhide hazH, unhide hdl]
  change Hid (Below w0.heap.size w0 w0.drew) at HB0
  clear hazH
  obtain ⟨wq, hwq⟩ : ∃ wq, wq = w0.drew := ⟨_, rfl⟩
  rw [← hwq] at HB0 hHeld ⊢
  clear hwq
  refine wpAnyH_ready (rs := [4]) (by kernel_rfl) (by simp) ?_
  refine AllReadyH.cons (o := _) rfl (fun K hK => ?_) AllReadyH.nil
  go_simp
  refine (unhide HTe wq ((unhide B0).trans ((unhide HB0).mono (unhide B0).size))).mono ?_
  rintro e w' ⟨rfl, hw'⟩
  have hw2 := hw'.symm
  clear hw'
  subst hw2
  have hbX := unhide HB0
  go_wp2_with fail
  refine hK.out _ _ ?_ (fun hHeld => ?_)
  · exact ⟨(hbX.cell (p := ⟨b, 3, none⟩) hb0).trans y3, (hbX.cell (p := ⟨b, 9, none⟩) hb0).trans y9⟩
  clear hK K
  (try simp only [Act.put, List.getElem_toArray, List.getElem_cons_succ, List.getElem_cons_zero, List.setIfInBounds_toArray, List.set_cons_zero, List.set_cons_succ])
  refine wpAnyH_ready (rs := [17]) (by kernel_rfl) (by simp) ?_
  refine AllReadyH.cons (o := _) rfl (fun K hK => ?_) AllReadyH.nil
  go_simp
  refine (unhide HCl _ ((unhide B0).trans ((unhide HB0).mono (unhide B0).size))).mono ?_
  rintro e w5 ⟨a5, c5, rfl, hO5, hb5⟩
  have hbX := (unhide HB0).trans (hb5.mono (unhide HB0).size)
  have HB5 := hide hbX
  have HO5 := hide hO5
  have h50 := (unhide HB0).size
  go_wp2_with fail
  refine hK.out _ _ ?_ (fun hHeld => ?_)
  · exact ⟨(hbX.cell (p := ⟨b, 3, none⟩) hb0).trans y3, (hbX.cell (p := ⟨b, 9, none⟩) hb0).trans y9⟩
  clear hK K
  (try simp only [Act.put, List.getElem_toArray, List.getElem_cons_succ, List.getElem_cons_zero, List.setIfInBounds_toArray, List.set_cons_zero, List.set_cons_succ])
  refine wpAnyH_take (i := 18) (oi := _) (v := ?_) rfl (by kernel_rfl) (by kernel_rfl) (by kernel_rfl) (fun _ _ _ h => h) (Or.inl ⟨by rfl, ?_⟩) (by assumption) ?_
  rotate_left 1
  · (intro wq hSw; (try dsimp only at hSw); (try simp only [List.getElem_toArray, List.getElem_cons_succ, List.getElem_cons_zero]); go_simp; try with_reducible rfl)
  (try simp only [Act.put, List.getElem_toArray, List.getElem_cons_succ, List.getElem_cons_zero, List.setIfInBounds_toArray, List.set_cons_zero, List.set_cons_succ])
  have RX := (unhide R0).below (unhide HB5)
  have r0 := RX.cell 0 rfl
  have r1 := RX.cell 1 rfl
  have r2 := RX.cell 2 rfl
  have r3 := RX.cell 3 rfl
  have r4 := RX.cell 4 rfl
  have r5 := RX.cell 5 rfl
  have r6 := RX.cell 6 rfl
  have r7 := RX.cell 7 rfl
  have r8 := RX.cell 8 rfl
  have f0 := RX.fro 0
  have f1 := RX.fro 1
  have f2 := RX.fro 2
  have f3 := RX.fro 3
  have f4 := RX.fro 4
  have f5 := RX.fro 5
  have f6 := RX.fro 6
  have f7 := RX.fro 7
  have f8 := RX.fro 8
  have HR9 := hide ((((((((((RX.set 0 (.int .i64 3) (by simp)).set 1 (.int .i64 0) (by simp)).set 2 (.int .i64 (d : Int)) (by simp)).set 3 (.int .i64 0) (by simp)).set 4 (.int .i64 (p : Int)) (by simp)).set 5 (.int .i64 tp) (by simp)).set 6 (.int .i64 cm) (by simp)).set 7 (.slice a5 dn c5) (by simp)).set 8 (.bool false) (by simp)))
  have T9 := ((((((((((Touch.refl (fun q => q = w.heap.size) w5).setCell ⟨w.heap.size, 0, none⟩ (.int .i64 3) (fun _ => rfl)).setCell ⟨w.heap.size, 1, none⟩ (.int .i64 0) (fun _ => rfl)).setCell ⟨w.heap.size, 2, none⟩ (.int .i64 (d : Int)) (fun _ => rfl)).setCell ⟨w.heap.size, 3, none⟩ (.int .i64 0) (fun _ => rfl)).setCell ⟨w.heap.size, 4, none⟩ (.int .i64 (p : Int)) (fun _ => rfl)).setCell ⟨w.heap.size, 5, none⟩ (.int .i64 tp) (fun _ => rfl)).setCell ⟨w.heap.size, 6, none⟩ (.int .i64 cm) (fun _ => rfl)).setCell ⟨w.heap.size, 7, none⟩ (.slice a5 dn c5) (fun _ => rfl)).setCell ⟨w.heap.size, 8, none⟩ (.bool false) (fun _ => rfl))
  have FN := hide (OwnE.kept hO5 T9 (fun k hk e => by have := World.ownsRow.lt hO5 k hk; omega))
  have K5 := (unhide B0).trans ((unhide HB5).mono (unhide B0).size)
  have K9 := hide (K5.trans (T9.below K5.size (fun k hk e => by omega)))
  have hk9c := fun (i : Nat) (v : Value) (h : w5.cell? ⟨b, i, none⟩ = some v) => (T9.cell (p := ⟨b, i, none⟩) (Nat.lt_of_lt_of_le hb0 (unhide HB5).size) (by show ¬ b = w.heap.size; omega)).trans h
  clear RX T9 K5 hO5 hb5
  refine wpAnyH_ready (rs := [19]) (by kernel_rfl) (by simp) ?_
  refine AllReadyH.cons (o := _) rfl (fun K hK => ?_) AllReadyH.nil
  go_simp
  refine hK.out _ _ ?_ (fun hHeld => ?_)
  · exact ⟨hk9c 3 _ (((unhide HB5).cell (p := ⟨b, 3, none⟩) hb0).trans y3), hk9c 9 _ (((unhide HB5).cell (p := ⟨b, 9, none⟩) hb0).trans y9)⟩
  clear hK K
  (try simp only [Act.put, List.getElem_toArray, List.getElem_cons_succ, List.getElem_cons_zero, List.setIfInBounds_toArray, List.set_cons_zero, List.set_cons_succ])
  refine wpAnyH_done (by kernel_rfl) (NoPanic.normal ?_) _
  go_wp2_with fail
  have R9 := unhide HR9
  have z0 := R9.cell 0 rfl
  have z1 := R9.cell 1 rfl
  have z2 := R9.cell 2 rfl
  have z3 := R9.cell 3 rfl
  have z4 := R9.cell 4 rfl
  have z5 := R9.cell 5 rfl
  have z6 := R9.cell 6 rfl
  have z7 := R9.cell 7 rfl
  have z8 := R9.cell 8 rfl
  refine bodyPost_ret (v := .agg #[.int .i64 3, .int .i64 0, .int .i64 (d : Int), .int .i64 0, .int .i64 (p : Int), .int .i64 tp, .int .i64 cm, .slice a5 dn c5, .bool false]) (by simp [results, Try.results69, go_sem, z0, z1, z2, z3, z4, z5, z6, z7, z8]) rfl ?_
  refine ⟨a5, c5, by rw [unhide hdnH], ?_, unhide K9⟩
  have h := unhide FN
  unfold OwnE at h ⊢
  exact World.ownsRow.mono (by rw [← unhide hdnH]; rw [← unhide hdnH] at h; exact h) (show w.heap.size ≤ wq.heap.size by omega)
end Go.Proofs.Ytljolldacpkeeaa
