/- (*actor).role, (*actor).propose, walked. (Written by py/npk.py.) -/
import Derived.Test.YtljolldacpkeeaaNpJ
import Derived.Test.YtljolldacpkeeaaTa
namespace Go.Proofs.Ytljolldacpkeeaa
open Go.ChangeShapes Go.WideShapes Go.ChangeAt Go.RowKit Go.Deep
set_option linter.unusedVariables false
set_option linter.unusedSimpArgs false

/-- What an actor is at the time. -/
def roleV (b : Nat) (ro : Int) : Value := if ro = 1 then .iface 84 (.agg #[.pointer (some ⟨b, 0, none⟩)]) else if ro = 2 then .iface 82 (.agg #[.pointer (some ⟨b, 0, none⟩)]) else .iface 83 (.agg #[.pointer (some ⟨b, 0, none⟩)])
set_option maxRecDepth 100000 in
theorem role_any (b : Nat) (ro : Int) (w : World) (h5 : w.cell? ⟨b, 5, none⟩ = some (.int .i64 ro)) :
    Calls Try.prog 53 #[.pointer (some ⟨b, 0, none⟩)] w fun e w' => e = .returned (roleV b ro) ∧ w' = w := by
  by_cases h1 : ro = 1
  · subst h1
    go_enter Try.func53, Try.ntmps53
    go_wp2_with fail
    go_ret
    exact ⟨rfl, rfl⟩
  · by_cases h2 : ro = 2
    · subst h2
      go_enter Try.func53, Try.ntmps53
      go_wp2_with fail
      go_ret
      exact ⟨rfl, rfl⟩
    · have E : Hid (roleV b ro = .iface 83 (.agg #[.pointer (some ⟨b, 0, none⟩)])) := hide (by unfold roleV; rw [if_neg h1, if_neg h2])
      have b1 : (ro == 1) = false := by rw [beq_eq_false_iff_ne]; exact h1
      have b2 : (ro == 2) = false := by rw [beq_eq_false_iff_ne]; exact h2
      go_enter Try.func53, Try.ntmps53
      go_wp2_with fail
      go_ret
      exact ⟨by rw [unhide E]; rfl, rfl⟩
set_option maxRecDepth 100000 in
set_option maxHeartbeats 1000000 in
theorem addFull_any (b : Nat) (la : Option Addr) (lc n : Nat) (t k : Int) (d : ByteArray) (w : World) (hb : b < w.heap.size) (h3 : w.cell? ⟨b, 3, none⟩ = some (.slice la n lc)) (hn : 60 ≤ n) :
    Calls Try.prog 60 #[.agg #[.pointer (some ⟨b, 0, none⟩)], .agg #[.int .i64 t, .int .i64 k, .string d]] w fun e w' => e = .returned (.int .i64 7) ∧ Below w.heap.size w w' := by
  have BB := ((Below.refl w.heap.size w).alloc (Nat.le_refl _) (.cells #[.pointer (some ⟨b, 0, none⟩)] 82)).alloc (by simp) (.cells #[.int .i64 t, .int .i64 k, .string d] 63)
  have B0 := hide BB
  have L0 := hide ((Blk.new w #[.pointer (some ⟨b, 0, none⟩)] 82 w.heap.size rfl).alloc (.cells #[.int .i64 t, .int .i64 k, .string d] 63))
  have HEn := hide (end_any b la n lc _ ((BB.cell (p := ⟨b, 3, none⟩) hb).trans h3))
  have l0 := (unhide L0).cell 0 rfl
  have q1 : (60 : Int) ≤ (n : Int) := by omega
  clear BB h3
  go_enter Try.func60, Try.ntmps60
  go_wp2_with fail
  generalize (w.alloc (.cells #[.pointer (some ⟨b, 0, none⟩)] 82)).alloc (.cells #[.int .i64 t, .int .i64 k, .string d] 63) = w1 at *
  refine (unhide HEn).mono ?_
  rintro e w' ⟨rfl, hw'⟩
  have hw2 := hw'.symm
  clear hw'
  subst hw2
  go_wp2_with fail
  go_ret
  exact ⟨rfl, unhide B0⟩
theorem AddR.from {B b : Nat} {id tm vo ro cm el wt : Int} {up : Bool} {lg : List En} {st vs nx mt : List Int} {la : Option Addr} {lc : Nat} {sa : Option Addr} {sc : Nat} {va : Option Addr} {vc : Nat} {na : Option Addr} {nc : Nat} {ma : Option Addr} {mc : Nat} {t k : Int} {d : ByteArray} {w w2 w' : World} (h : AddR B b id tm vo ro cm el wt up lg st vs nx mt la lc sa sc va vc na nc ma mc t k d w2 w') (hb : Below w.heap.size w w2) : AddR B b id tm vo ro cm el wt up lg st vs nx mt la lc sa sc va vc na nc ma mc t k d w w' := by
  obtain ⟨la', lc', v, l, D, h1, h2, h3, h4, h5, h6, h7, h8⟩ := h
  have hs := hb.size
  exact ⟨la', lc', v, l, D, h1, h2, h3, h4, h5, h6, by omega, (Touch.ofBelow hb).trans h8 (fun _ _ e => e)⟩
set_option maxRecDepth 100000 in
set_option maxHeartbeats 1000000 in
theorem propNo_any (b : Nat) (ro k : Int) (d : ByteArray) (w : World) (h5 : w.cell? ⟨b, 5, none⟩ = some (.int .i64 ro)) (hro : ro ≠ 2) :
    Calls Try.prog 38 #[.pointer (some ⟨b, 0, none⟩), .int .i64 k, .string d] w fun e w' => e = .returned (.int .i64 14) ∧ w' = w := by
  have HR := hide (role_any b ro w h5)
  by_cases h1 : ro = 1
  · have E : roleV b ro = .iface 84 (.agg #[.pointer (some ⟨b, 0, none⟩)]) := by unfold roleV; rw [if_pos h1]
    rw [E] at HR
    have t1 := fun wx => ta_other (P := Try.prog) 84 82 79 _ (.agg #[.pointer (some ⟨b, 0, none⟩)]) (.agg #[.pointer none]) wx Try.underlying82 (by decide) (by kernel_rfl)
    go_enter Try.func38, Try.ntmps38
    go_wp2_with fail
    refine (unhide HR).mono ?_
    rintro e w' ⟨rfl, hw'⟩
    subst hw'
    go_wp2_with fail
    go_ret
    exact ⟨rfl, rfl⟩
  · have E : roleV b ro = .iface 83 (.agg #[.pointer (some ⟨b, 0, none⟩)]) := by unfold roleV; rw [if_neg h1, if_neg hro]
    rw [E] at HR
    have t1 := fun wx => ta_other (P := Try.prog) 83 82 79 _ (.agg #[.pointer (some ⟨b, 0, none⟩)]) (.agg #[.pointer none]) wx Try.underlying82 (by decide) (by kernel_rfl)
    go_enter Try.func38, Try.ntmps38
    go_wp2_with fail
    refine (unhide HR).mono ?_
    rintro e w' ⟨rfl, hw'⟩
    subst hw'
    go_wp2_with fail
    go_ret
    exact ⟨rfl, rfl⟩
set_option maxRecDepth 100000 in
set_option maxHeartbeats 1000000 in
theorem propFull_any (b : Nat) (tm : Int) (la : Option Addr) (lc n : Nat) (k : Int) (d : ByteArray) (w : World) (hb : b < w.heap.size) (h1 : w.cell? ⟨b, 1, none⟩ = some (.int .i64 tm)) (h3 : w.cell? ⟨b, 3, none⟩ = some (.slice la n lc)) (h5 : w.cell? ⟨b, 5, none⟩ = some (.int .i64 2)) (hn : 60 ≤ n) :
    Calls Try.prog 38 #[.pointer (some ⟨b, 0, none⟩), .int .i64 k, .string d] w fun e w' => e = .returned (.int .i64 7) ∧ Below w.heap.size w w' := by
  have HA := hide (fun wx (hx : Below w.heap.size w wx) => addFull_any b la lc n tm k d wx (Nat.lt_of_lt_of_le hb hx.size) ((hx.cell (p := ⟨b, 3, none⟩) hb).trans h3) hn)
  have E : roleV b 2 = .iface 82 (.agg #[.pointer (some ⟨b, 0, none⟩)]) := rfl
  have HR := hide (role_any b 2 w h5)
  rw [E] at HR
  have t1 := fun wx => ta_same (P := Try.prog) 82 79 _ (.agg #[.pointer (some ⟨b, 0, none⟩)]) wx Try.underlying82
  have R0 := hide (Blk.new w #[.pointer (some ⟨b, 0, none⟩)] 82 w.heap.size rfl)
  have RZ := hide (Blk.new w #[.pointer none] 82 w.heap.size rfl)
  have B0 := hide ((Below.refl w.heap.size w).alloc (Nat.le_refl _) (.cells #[.pointer (some ⟨b, 0, none⟩)] 82))
  have r0 := (unhide RZ).cell 0 rfl
  have f0 := (unhide RZ).fro 0
  clear E
  go_enter Try.func38, Try.ntmps38
  go_wp2_with fail
  refine (unhide HR).mono ?_
  rintro e w' ⟨rfl, hw'⟩
  have hw2 := hw'.symm
  clear hw'
  subst hw2
  go_wp2_with fail
  clear r0 f0 RZ
  generalize w.alloc (.cells #[.pointer (some ⟨b, 0, none⟩)] 82) = w1 at *
  have r0 := (unhide R0).cell 0 rfl
  have x1 := ((unhide B0).cell (p := ⟨b, 1, none⟩) hb).trans h1
  have hrb : w.heap.size < w1.heap.size := (unhide R0).1
  have B1 := hide (below_drewN (unhide B0) 1)
  have R1 := hide ((unhide R0).drewN 1)
  change Hid (Below w.heap.size w w1.drew) at B1
  change Hid (Blk w1.drew w.heap.size _) at R1
  have hrb2 : w.heap.size < w1.drew.heap.size := hrb
  refine wp_region_noPanic ?_
  refine wp_region_held_drew (S := (fun wx => wx.cell? ⟨w.heap.size, 0, none⟩ = some (.pointer (some ⟨b, 0, none⟩)) ∧ wx.cell? ⟨b, 1, none⟩ = some (.int .i64 tm))) (by kernel_rfl) ?_ (fun hHeld => ?_)
  · exact ⟨r0, x1⟩
  refine wpAnyH_take (i := 0) (oi := _) (v := ?_) rfl (by kernel_rfl) (by kernel_rfl) (by kernel_rfl) (fun _ _ _ h => h) (Or.inl ⟨by rfl, ?_⟩) (by assumption) ?_
  rotate_left 1
  · (intro wq hSw; (try dsimp only at hSw); (try simp only [List.getElem_toArray, List.getElem_cons_succ, List.getElem_cons_zero]); go_simp; try with_reducible rfl)
  (try simp only [Act.put, List.getElem_toArray, List.getElem_cons_succ, List.getElem_cons_zero, List.setIfInBounds_toArray, List.set_cons_zero, List.set_cons_succ])
  refine wpAnyH_take (i := 1) (oi := _) (v := ?_) rfl (by kernel_rfl) (by kernel_rfl) (by kernel_rfl) (fun _ _ _ h => h) (Or.inl ⟨by rfl, ?_⟩) (by assumption) ?_
  rotate_left 1
  · (intro wq hSw; (try dsimp only at hSw); (try simp only [List.getElem_toArray, List.getElem_cons_succ, List.getElem_cons_zero]); go_simp; try with_reducible rfl)
  (try simp only [Act.put, List.getElem_toArray, List.getElem_cons_succ, List.getElem_cons_zero, List.setIfInBounds_toArray, List.set_cons_zero, List.set_cons_succ])
  refine wpAnyH_take (i := 2) (oi := _) (v := ?_) rfl (by kernel_rfl) (by kernel_rfl) (by kernel_rfl) (fun _ _ _ h => h) (Or.inl ⟨by rfl, ?_⟩) (by assumption) ?_
  rotate_left 1
  · (intro wq hSw; (try dsimp only at hSw); (try simp only [List.getElem_toArray, List.getElem_cons_succ, List.getElem_cons_zero]); go_simp; try with_reducible rfl)
  (try simp only [Act.put, List.getElem_toArray, List.getElem_cons_succ, List.getElem_cons_zero, List.setIfInBounds_toArray, List.set_cons_zero, List.set_cons_succ])
  refine wpAnyH_take (i := 3) (oi := _) (v := ?_) rfl (by kernel_rfl) (by kernel_rfl) (by kernel_rfl) (fun _ _ _ h => h) (Or.inl ⟨by rfl, ?_⟩) (by assumption) ?_
  rotate_left 1
  · (intro wq hSw; (try dsimp only at hSw); (try simp only [List.getElem_toArray, List.getElem_cons_succ, List.getElem_cons_zero]); go_simp; try with_reducible rfl)
  (try simp only [Act.put, List.getElem_toArray, List.getElem_cons_succ, List.getElem_cons_zero, List.setIfInBounds_toArray, List.set_cons_zero, List.set_cons_succ])
  refine wpAnyH_take (i := 4) (oi := _) (v := ?_) rfl (by kernel_rfl) (by kernel_rfl) (by kernel_rfl) (fun _ _ _ h => h) (Or.inl ⟨by rfl, ?_⟩) (by assumption) ?_
  rotate_left 1
  · (intro wq hSw; (try dsimp only at hSw); (try simp only [List.getElem_toArray, List.getElem_cons_succ, List.getElem_cons_zero]); go_simp; try with_reducible rfl)
  (try simp only [Act.put, List.getElem_toArray, List.getElem_cons_succ, List.getElem_cons_zero, List.setIfInBounds_toArray, List.set_cons_zero, List.set_cons_succ])
  refine wpAnyH_take (i := 5) (oi := _) (v := ?_) rfl (by kernel_rfl) (by kernel_rfl) (by kernel_rfl) (fun _ _ _ h => h) (Or.inl ⟨by rfl, ?_⟩) (by assumption) ?_
  rotate_left 1
  · (intro wq hSw; (try dsimp only at hSw); (try simp only [List.getElem_toArray, List.getElem_cons_succ, List.getElem_cons_zero]); go_simp; try with_reducible rfl)
  (try simp only [Act.put, List.getElem_toArray, List.getElem_cons_succ, List.getElem_cons_zero, List.setIfInBounds_toArray, List.set_cons_zero, List.set_cons_succ])
  refine wpAnyH_take (i := 6) (oi := _) (v := ?_) rfl (by kernel_rfl) (by kernel_rfl) (by kernel_rfl) (fun _ _ _ h => h) (Or.inl ⟨by rfl, ?_⟩) (by assumption) ?_
  rotate_left 1
  · (intro wq hSw; (try dsimp only at hSw); (try simp only [List.getElem_toArray, List.getElem_cons_succ, List.getElem_cons_zero]); go_simp; try with_reducible rfl)
  (try simp only [Act.put, List.getElem_toArray, List.getElem_cons_succ, List.getElem_cons_zero, List.setIfInBounds_toArray, List.set_cons_zero, List.set_cons_succ])
  refine wpAnyH_take (i := 7) (oi := _) (v := ?_) rfl (by kernel_rfl) (by kernel_rfl) (by kernel_rfl) (fun _ _ _ h => h) (Or.inl ⟨by rfl, ?_⟩) (by assumption) ?_
  rotate_left 1
  · (intro wq hSw; (try dsimp only at hSw); (try simp only [List.getElem_toArray, List.getElem_cons_succ, List.getElem_cons_zero]); go_simp; try with_reducible rfl)
  (try simp only [Act.put, List.getElem_toArray, List.getElem_cons_succ, List.getElem_cons_zero, List.setIfInBounds_toArray, List.set_cons_zero, List.set_cons_succ])
  refine wpAnyH_take (i := 8) (oi := _) (v := ?_) rfl (by kernel_rfl) (by kernel_rfl) (by kernel_rfl) (fun _ _ _ h => h) (Or.inl ⟨by rfl, ?_⟩) (by assumption) ?_
  rotate_left 1
  · (intro wq hSw; (try dsimp only at hSw); (try simp only [List.getElem_toArray, List.getElem_cons_succ, List.getElem_cons_zero]); go_simp; try with_reducible rfl)
  (try simp only [Act.put, List.getElem_toArray, List.getElem_cons_succ, List.getElem_cons_zero, List.setIfInBounds_toArray, List.set_cons_zero, List.set_cons_succ])
  clear r0 x1 R0 B0 hrb
  generalize w1.drew = w2 at *
  refine wpAnyH_ready (rs := [9]) (by kernel_rfl) (by simp) ?_
  refine AllReadyH.cons (o := _) rfl (fun K hK => ?_) AllReadyH.nil
  go_simp
  refine (unhide HA _ (unhide B1)).mono ?_
  rintro e w3 ⟨rfl, hb3⟩
  have HB3 := hide ((unhide B1).trans (hb3.mono (unhide B1).size))
  have hbX := hb3
  go_wp2_with fail
  refine hK.out _ _ ?_ (fun hHeld => ?_)
  · exact ⟨(hbX.cell (p := ⟨w.heap.size, 0, none⟩) (by omega)).trans ((unhide R1).cell 0 rfl), ((unhide HB3).cell (p := ⟨b, 1, none⟩) hb).trans h1⟩
  clear hK K
  (try simp only [Act.put, List.getElem_toArray, List.getElem_cons_succ, List.getElem_cons_zero, List.setIfInBounds_toArray, List.set_cons_zero, List.set_cons_succ])
  refine wpAnyH_take (i := 10) (oi := _) (v := ?_) rfl (by kernel_rfl) (by kernel_rfl) (by kernel_rfl) (fun _ _ _ h => h) (Or.inl ⟨by rfl, ?_⟩) (by assumption) ?_
  rotate_left 1
  · (intro wq hSw; (try dsimp only at hSw); (try simp only [List.getElem_toArray, List.getElem_cons_succ, List.getElem_cons_zero]); go_simp; try with_reducible rfl)
  (try simp only [Act.put, List.getElem_toArray, List.getElem_cons_succ, List.getElem_cons_zero, List.setIfInBounds_toArray, List.set_cons_zero, List.set_cons_succ])
  refine wpAnyH_done (by kernel_rfl) (NoPanic.normal ?_) _
  go_wp2_with fail
  go_ret
  exact ⟨rfl, unhide HB3⟩
set_option maxRecDepth 100000 in
set_option maxHeartbeats 1000000 in
theorem propAdd_any (B b : Nat) (id tm vo ro cm el wt : Int) (up : Bool) (lg : List En) (st vs nx mt : List Int) (la : Option Addr) (lc : Nat) (sa : Option Addr) (sc : Nat) (va : Option Addr) (vc : Nat) (na : Option Addr) (nc : Nat) (ma : Option Addr) (mc : Nat) (k : Int) (d : ByteArray) (w : World) (hX : Blk w b [.int .i64 id, .int .i64 tm, .int .i64 vo, .slice la lg.length lc, .slice sa st.length sc, .int .i64 ro, .slice va vs.length vc, .slice na nx.length nc, .slice ma mt.length mc, .int .i64 cm, .int .i64 el, .int .i64 wt, .bool up, .slice none 0 0]) (hro : ro = 2) (hO : NoO B w (.slice la lg.length lc) (.slice sa st.length sc) (.slice va vs.length vc) (.slice na nx.length nc) (.slice ma mt.length mc) lg st vs nx mt) (hap : ∀ v ∈ ([.slice la lg.length lc, .slice sa st.length sc, .slice va vs.length vc, .slice na nx.length nc, .slice ma mt.length mc] : List Value), v.ownBlock ≠ some b) (hB : B ≤ w.heap.size) (hz : ∀ i, (lg.getD i default).d.size ≤ maxLen) (hd : d.size ≤ maxLen) (hk2 : k ≠ 2) (hl : lg.length < 60) (hg : CfgOK lg) (hst : mFault st = 0) (hnx : nx.length = 7) (hmt : mt.length = 7) (hc : 0 ≤ cm) (hnn : ∀ i, i < 7 → 1 ≤ nx.getD i 0 ∧ nx.getD i 0 ≤ (lg.length : Int) + 1) :
    Calls Try.prog 38 #[.pointer (some ⟨b, 0, none⟩), .int .i64 k, .string d] w fun e w' => e = .returned (.int .i64 0) ∧ AddR B b id tm vo ro cm el wt up lg st vs nx mt la lc sa sc va vc na nc ma mc tm k d w w' := by
  have hb := hX.1
  have h1 := hX.cell 1 rfl
  have h5 : w.cell? ⟨b, 5, none⟩ = some (.int .i64 2) := by rw [← hro]; exact hX.cell 5 rfl
  have HA := hide (fun wx (hx : Below w.heap.size w wx) => add_any B b id tm vo ro cm el wt up lg st vs nx mt la lc sa sc va vc na nc ma mc tm k d wx (hX.below hx) (hO.below hx) hap (Nat.le_trans hB hx.size) hz hd hk2 hl hg hst hnx hmt hc hnn)
  have HBL := hide (fun q (e : (Value.slice la lg.length lc).ownBlock = some q) => (NoO.blk hO q ⟨_, by simp, e⟩).2)
  clear hX hO hap hB hz hd hk2 hl hg hst hnx hmt hc hnn
  have E : roleV b 2 = .iface 82 (.agg #[.pointer (some ⟨b, 0, none⟩)]) := rfl
  have HR := hide (role_any b 2 w h5)
  rw [E] at HR
  have t1 := fun wx => ta_same (P := Try.prog) 82 79 _ (.agg #[.pointer (some ⟨b, 0, none⟩)]) wx Try.underlying82
  have R0 := hide (Blk.new w #[.pointer (some ⟨b, 0, none⟩)] 82 w.heap.size rfl)
  have RZ := hide (Blk.new w #[.pointer none] 82 w.heap.size rfl)
  have B0 := hide ((Below.refl w.heap.size w).alloc (Nat.le_refl _) (.cells #[.pointer (some ⟨b, 0, none⟩)] 82))
  have r0 := (unhide RZ).cell 0 rfl
  have f0 := (unhide RZ).fro 0
  clear E
  go_enter Try.func38, Try.ntmps38
  go_wp2_with fail
  refine (unhide HR).mono ?_
  rintro e w' ⟨rfl, hw'⟩
  have hw2 := hw'.symm
  clear hw'
  subst hw2
  go_wp2_with fail
  clear r0 f0 RZ
  generalize w.alloc (.cells #[.pointer (some ⟨b, 0, none⟩)] 82) = w1 at *
  have r0 := (unhide R0).cell 0 rfl
  have x1 := ((unhide B0).cell (p := ⟨b, 1, none⟩) hb).trans h1
  have hrb : w.heap.size < w1.heap.size := (unhide R0).1
  have B1 := hide (below_drewN (unhide B0) 1)
  have R1 := hide ((unhide R0).drewN 1)
  change Hid (Below w.heap.size w w1.drew) at B1
  change Hid (Blk w1.drew w.heap.size _) at R1
  have hrb2 : w.heap.size < w1.drew.heap.size := hrb
  refine wp_region_noPanic ?_
  refine wp_region_held_drew (S := (fun wx => wx.cell? ⟨w.heap.size, 0, none⟩ = some (.pointer (some ⟨b, 0, none⟩)) ∧ wx.cell? ⟨b, 1, none⟩ = some (.int .i64 tm))) (by kernel_rfl) ?_ (fun hHeld => ?_)
  · exact ⟨r0, x1⟩
  refine wpAnyH_take (i := 0) (oi := _) (v := ?_) rfl (by kernel_rfl) (by kernel_rfl) (by kernel_rfl) (fun _ _ _ h => h) (Or.inl ⟨by rfl, ?_⟩) (by assumption) ?_
  rotate_left 1
  · (intro wq hSw; (try dsimp only at hSw); (try simp only [List.getElem_toArray, List.getElem_cons_succ, List.getElem_cons_zero]); go_simp; try with_reducible rfl)
  (try simp only [Act.put, List.getElem_toArray, List.getElem_cons_succ, List.getElem_cons_zero, List.setIfInBounds_toArray, List.set_cons_zero, List.set_cons_succ])
  refine wpAnyH_take (i := 1) (oi := _) (v := ?_) rfl (by kernel_rfl) (by kernel_rfl) (by kernel_rfl) (fun _ _ _ h => h) (Or.inl ⟨by rfl, ?_⟩) (by assumption) ?_
  rotate_left 1
  · (intro wq hSw; (try dsimp only at hSw); (try simp only [List.getElem_toArray, List.getElem_cons_succ, List.getElem_cons_zero]); go_simp; try with_reducible rfl)
  (try simp only [Act.put, List.getElem_toArray, List.getElem_cons_succ, List.getElem_cons_zero, List.setIfInBounds_toArray, List.set_cons_zero, List.set_cons_succ])
  refine wpAnyH_take (i := 2) (oi := _) (v := ?_) rfl (by kernel_rfl) (by kernel_rfl) (by kernel_rfl) (fun _ _ _ h => h) (Or.inl ⟨by rfl, ?_⟩) (by assumption) ?_
  rotate_left 1
  · (intro wq hSw; (try dsimp only at hSw); (try simp only [List.getElem_toArray, List.getElem_cons_succ, List.getElem_cons_zero]); go_simp; try with_reducible rfl)
  (try simp only [Act.put, List.getElem_toArray, List.getElem_cons_succ, List.getElem_cons_zero, List.setIfInBounds_toArray, List.set_cons_zero, List.set_cons_succ])
  refine wpAnyH_take (i := 3) (oi := _) (v := ?_) rfl (by kernel_rfl) (by kernel_rfl) (by kernel_rfl) (fun _ _ _ h => h) (Or.inl ⟨by rfl, ?_⟩) (by assumption) ?_
  rotate_left 1
  · (intro wq hSw; (try dsimp only at hSw); (try simp only [List.getElem_toArray, List.getElem_cons_succ, List.getElem_cons_zero]); go_simp; try with_reducible rfl)
  (try simp only [Act.put, List.getElem_toArray, List.getElem_cons_succ, List.getElem_cons_zero, List.setIfInBounds_toArray, List.set_cons_zero, List.set_cons_succ])
  refine wpAnyH_take (i := 4) (oi := _) (v := ?_) rfl (by kernel_rfl) (by kernel_rfl) (by kernel_rfl) (fun _ _ _ h => h) (Or.inl ⟨by rfl, ?_⟩) (by assumption) ?_
  rotate_left 1
  · (intro wq hSw; (try dsimp only at hSw); (try simp only [List.getElem_toArray, List.getElem_cons_succ, List.getElem_cons_zero]); go_simp; try with_reducible rfl)
  (try simp only [Act.put, List.getElem_toArray, List.getElem_cons_succ, List.getElem_cons_zero, List.setIfInBounds_toArray, List.set_cons_zero, List.set_cons_succ])
  refine wpAnyH_take (i := 5) (oi := _) (v := ?_) rfl (by kernel_rfl) (by kernel_rfl) (by kernel_rfl) (fun _ _ _ h => h) (Or.inl ⟨by rfl, ?_⟩) (by assumption) ?_
  rotate_left 1
  · (intro wq hSw; (try dsimp only at hSw); (try simp only [List.getElem_toArray, List.getElem_cons_succ, List.getElem_cons_zero]); go_simp; try with_reducible rfl)
  (try simp only [Act.put, List.getElem_toArray, List.getElem_cons_succ, List.getElem_cons_zero, List.setIfInBounds_toArray, List.set_cons_zero, List.set_cons_succ])
  refine wpAnyH_take (i := 6) (oi := _) (v := ?_) rfl (by kernel_rfl) (by kernel_rfl) (by kernel_rfl) (fun _ _ _ h => h) (Or.inl ⟨by rfl, ?_⟩) (by assumption) ?_
  rotate_left 1
  · (intro wq hSw; (try dsimp only at hSw); (try simp only [List.getElem_toArray, List.getElem_cons_succ, List.getElem_cons_zero]); go_simp; try with_reducible rfl)
  (try simp only [Act.put, List.getElem_toArray, List.getElem_cons_succ, List.getElem_cons_zero, List.setIfInBounds_toArray, List.set_cons_zero, List.set_cons_succ])
  refine wpAnyH_take (i := 7) (oi := _) (v := ?_) rfl (by kernel_rfl) (by kernel_rfl) (by kernel_rfl) (fun _ _ _ h => h) (Or.inl ⟨by rfl, ?_⟩) (by assumption) ?_
  rotate_left 1
  · (intro wq hSw; (try dsimp only at hSw); (try simp only [List.getElem_toArray, List.getElem_cons_succ, List.getElem_cons_zero]); go_simp; try with_reducible rfl)
  (try simp only [Act.put, List.getElem_toArray, List.getElem_cons_succ, List.getElem_cons_zero, List.setIfInBounds_toArray, List.set_cons_zero, List.set_cons_succ])
  refine wpAnyH_take (i := 8) (oi := _) (v := ?_) rfl (by kernel_rfl) (by kernel_rfl) (by kernel_rfl) (fun _ _ _ h => h) (Or.inl ⟨by rfl, ?_⟩) (by assumption) ?_
  rotate_left 1
  · (intro wq hSw; (try dsimp only at hSw); (try simp only [List.getElem_toArray, List.getElem_cons_succ, List.getElem_cons_zero]); go_simp; try with_reducible rfl)
  (try simp only [Act.put, List.getElem_toArray, List.getElem_cons_succ, List.getElem_cons_zero, List.setIfInBounds_toArray, List.set_cons_zero, List.set_cons_succ])
  clear r0 x1 R0 B0 hrb
  generalize w1.drew = w2 at *
  refine wpAnyH_ready (rs := [9]) (by kernel_rfl) (by simp) ?_
  refine AllReadyH.cons (o := _) rfl (fun K hK => ?_) AllReadyH.nil
  go_simp
  refine (unhide HA _ (unhide B1)).mono ?_
  rintro e w3 ⟨rfl, hA⟩
  have HR3 := hide (hA.from (unhide B1))
  obtain ⟨la', lc', v, l, D, g1, g2, g3, g4, g5, g6, g7, g8⟩ := hA
  have hk3 := g1.cell 1 rfl
  have hk0 := (g8.cell (p := ⟨w.heap.size, 0, none⟩) (by show w.heap.size < w2.heap.size; omega) (fun e => e.elim (fun e => absurd e (by show ¬ w.heap.size = b; omega)) (fun e => absurd (unhide HBL w.heap.size e) (Nat.lt_irrefl _)))).trans ((unhide R1).cell 0 rfl)
  clear g1 g2 g3 g4 g5 g6 g7 g8
  go_wp2_with fail
  refine hK.out _ _ ?_ (fun hHeld => ?_)
  · exact ⟨hk0, hk3⟩
  clear hK K
  (try simp only [Act.put, List.getElem_toArray, List.getElem_cons_succ, List.getElem_cons_zero, List.setIfInBounds_toArray, List.set_cons_zero, List.set_cons_succ])
  refine wpAnyH_take (i := 10) (oi := _) (v := ?_) rfl (by kernel_rfl) (by kernel_rfl) (by kernel_rfl) (fun _ _ _ h => h) (Or.inl ⟨by rfl, ?_⟩) (by assumption) ?_
  rotate_left 1
  · (intro wq hSw; (try dsimp only at hSw); (try simp only [List.getElem_toArray, List.getElem_cons_succ, List.getElem_cons_zero]); go_simp; try with_reducible rfl)
  (try simp only [Act.put, List.getElem_toArray, List.getElem_cons_succ, List.getElem_cons_zero, List.setIfInBounds_toArray, List.set_cons_zero, List.set_cons_succ])
  refine wpAnyH_done (by kernel_rfl) (NoPanic.normal ?_) _
  go_wp2_with fail
  go_ret
  exact ⟨rfl, unhide HR3⟩
end Go.Proofs.Ytljolldacpkeeaa
