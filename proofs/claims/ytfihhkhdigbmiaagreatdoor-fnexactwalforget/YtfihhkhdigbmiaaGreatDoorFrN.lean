/- impl.frameReader.next, walked. -/
import Derived.Test.YtfihhkhdigbmiaaGreatDoorFrP
import Derived.Test.YtfihhkhdigbmiaaGreatDoorRdF
import Derived.Test.YtfihhkhdigbmiaaGreatDoorStrO
import Derived.Deep.RegionHeld3
namespace Go.Proofs.YtfihhkhdigbmiaaGreatDoor
open Go.ChangeShapes Go.WideShapes Go.ChangeAt Go.RowKit fnExactCheck32
set_option linter.unusedVariables false

theorem info9 : (Tryz.prog.info? 9).map (fun i => (i.zero, i.size, i.bytes)) = some (some (.string ByteArray.empty), 1, 16) := by kernel_rfl
/-- The reader of frames in block B: what is left, the data read, how many bytes they were. -/
def FR (w : World) (B : Nat) (st : Option (List Int)) (dv : Value) (ds : List (List Int)) (p : Nat) : Prop :=
  Rd w B st ∧ w.cell? ⟨B, 2, none⟩ = some dv ∧ OwnS (B + 1) w dv (ds.map strOfNums) ∧ w.cell? ⟨B, 3, none⟩ = some (.int .i64 p)
theorem FR.touched {w w' : World} {B : Nat} {st st' : Option (List Int)} {dv : Value} {ds : List (List Int)} {p : Nat} (h : FR w B st dv ds p) (hR : Rd w' B st') (hT : Touch (fun k => k = B) w w') (hk : Kept2 w w' B) : FR w' B st' dv ds p :=
  ⟨hR, (hk 2 (by omega)).trans h.2.1, h.2.2.1.kept hT (fun k hk e => by have := (h.2.2.1.lt k hk).1; omega), (hk 3 (by omega)).trans h.2.2.2⟩
theorem FR.below {w w' : World} {B : Nat} {st : Option (List Int)} {dv : Value} {ds : List (List Int)} {p : Nat} (h : FR w B st dv ds p) (hb : Below w.heap.size w w') : FR w' B st dv ds p :=
  ⟨h.1.kept (T := fun _ => False) (Touch.ofBelow hb) (fun _ _ h => h), (hb.cell (p := ⟨B, 2, none⟩) h.1.lt).trans h.2.1, h.2.2.1.below hb, (hb.cell (p := ⟨B, 3, none⟩) h.1.lt).trans h.2.2.2⟩

theorem Rd.set2 {w : World} {B : Nat} {st : Option (List Int)} (h : Rd w B st) (j : Nat) (hj : 2 ≤ j) (v : Value) : Rd (w.setCell ⟨B, j, none⟩ v) B st := by
  have hne : ∀ i, i < 2 → (⟨B, j, none⟩ : Addr) ≠ ⟨B, i, none⟩ := fun i hi e => by have := congrArg Addr.off e; simp at this; omega
  have h0 := World.cell?_setCell_other w ⟨B, j, none⟩ ⟨B, 0, none⟩ v (hne 0 (by omega))
  have h1 := World.cell?_setCell_other w ⟨B, j, none⟩ ⟨B, 1, none⟩ v (hne 1 (by omega))
  cases st with
  | none => exact ⟨h0.trans h.1, h1.trans h.2.1, fun i => by rw [World.frozen?_setCell]; exact h.2.2.1 i, by simpa using h.2.2.2⟩
  | some rs =>
    obtain ⟨⟨u, hu, hv⟩, hs, hf, hb⟩ := h
    exact ⟨⟨u, h0.trans hu, hv.kept (Nat.le_of_lt hb) (set_touch w B j v) (fun k hk e => by omega)⟩, h1.trans hs, fun i => by rw [World.frozen?_setCell]; exact hf i, by simpa using hb⟩
theorem FR.pushed {w w1 : World} {B n gg capg p p' : Nat} {dv : Value} {rs : List Int} {ds : List (List Int)} {d : List Int} {o : Obj} (h : FR w B (some rs) dv ds p)
    (h1 : w1.ownsRow (B + 1) 9 1 (.slice (some ⟨gg, 0, none⟩) n capg) n ((ds.map strOfNums).map Value.string ++ [Value.string (strOfNums d)])) (hg : (w.alloc o).drew.grownBy w1 dv.ownBlock) :
    w1.cell? ⟨B, 2, none⟩ = some dv ∧ w1.frozen? ⟨B, 2, none⟩ = false ∧ (w1.setCell ⟨B, 2, none⟩ (.slice (some ⟨gg, 0, none⟩) n capg)).cell? ⟨B, 3, none⟩ = some (.int .i64 p) ∧ (w1.setCell ⟨B, 2, none⟩ (.slice (some ⟨gg, 0, none⟩) n capg)).frozen? ⟨B, 3, none⟩ = false ∧
    FR ((w1.setCell ⟨B, 2, none⟩ (.slice (some ⟨gg, 0, none⟩) n capg)).setCell ⟨B, 3, none⟩ (.int .i64 p')) B (some rs) (.slice (some ⟨gg, 0, none⟩) n capg) (ds ++ [d]) p' ∧ Below B w ((w1.setCell ⟨B, 2, none⟩ (.slice (some ⟨gg, 0, none⟩) n capg)).setCell ⟨B, 3, none⟩ (.int .i64 p')) := by
  obtain ⟨hR, c2, hO, c3⟩ := h
  have hBl := hR.lt
  have hne : some B ≠ dv.ownBlock := fun e => by have := (hO.lt B e.symm).1; omega
  have hT : Touch (fun k => dv.ownBlock = some k) w w1 := ((((Touch.refl _ w).alloc o).drew).grown hg (fun k hk _ => hk))
  have hn : n = (ds ++ [d]).length := by have := h1.1; simp at this; simp; omega
  have e2 : w1.cell? ⟨B, 2, none⟩ = some dv := (hT.cell (p := ⟨B, 2, none⟩) hBl (fun e => hne e.symm)).trans c2
  have e3 : w1.cell? ⟨B, 3, none⟩ = some (.int .i64 p) := (hT.cell (p := ⟨B, 3, none⟩) hBl (fun e => hne e.symm)).trans c3
  have hR1 : Rd w1 B (some rs) := hR.kept hT (fun k hk e => by have := (hO.lt k e).1; omega)
  have d3 : (w1.setCell ⟨B, 2, none⟩ (.slice (some ⟨gg, 0, none⟩) n capg)).cell? ⟨B, 3, none⟩ = some (.int .i64 p) := (World.cell?_setCell_other _ _ _ _ (by simp)).trans e3
  have f2 : w1.frozen? ⟨B, 2, none⟩ = false := hR1.2.2.1 2
  refine ⟨e2, f2, d3, by rw [World.frozen?_setCell]; exact hR1.2.2.1 3, ⟨(hR1.set2 2 (by omega) _).set2 3 (by omega) _, ?_, ?_, World.cell?_setCell_same _ _ _ d3⟩, ?_⟩
  · rw [World.cell?_setCell_other _ _ _ _ (by simp)]; exact World.cell?_setCell_same _ _ _ e2
  · unfold OwnS
    have := ownsRow_setCell_below (ownsRow_setCell_below h1 (a := ⟨B, 2, none⟩) (by show B < B + 1; omega) (.slice (some ⟨gg, 0, none⟩) n capg)) (a := ⟨B, 3, none⟩) (by show B < B + 1; omega) (.int .i64 p')
    rw [List.map_append, List.map_append, List.length_append, List.length_map]
    simp only [List.map_cons, List.map_nil, List.length_cons, List.length_nil]
    simp only [List.length_append, List.length_cons, List.length_nil] at hn
    rw [← hn]
    exact this
  · exact ((hT.below (B := B) (by omega) (fun k hk e => by have := (hO.lt k e).1; omega)).setCell (p := ⟨B, 2, none⟩) (Nat.le_refl _) _).setCell (p := ⟨B, 3, none⟩) (Nat.le_refl _) _

set_option maxRecDepth 100000 in
set_option maxHeartbeats 1600000 in
theorem next_any (B : Nat) (rs : List Int) (dv : Value) (ds : List (List Int)) (p : Nat) (w : World) (h : FR w B (some rs) dv ds p) (hl : rs.length ≤ 65536) (hds : ds.length ≤ 65536) (hp : p ≤ 65536) :
    Calls Tryz.prog 67 #[.pointer (some ⟨B, 0, none⟩)] w fun e w' => e = .returned (.int .i64 (frStep rs).1) ∧ ((frStep rs).1 = 0 → ∃ dv', FR w' B (some (rs.drop (6 + (frStep rs).2.length))) dv' (ds ++ [(frStep rs).2]) (p + 6 + (frStep rs).2.length)) ∧ ((frStep rs).1 ≠ 0 → ∃ st, FR w' B st dv ds p) ∧ Below B w w' := by
  obtain ⟨v, c0, a, cap, rfl, hc1, hc2, hsrc, hr⟩ := h.1.1
  have HF := hide h
  have HR := hide hr
  by_cases h6 : rs.length < 6
  · have E := hide (show frStep rs = (16, []) by unfold frStep; rw [if_pos h6])
    have q6 : (rs.length : Int) < 6 := by omega
    clear h hsrc hr hc1 hc2
    go_enter Tryz.func67, Tryz.ntmps67
    go_wp2_with fail
    go_ret
    rw [unhide E]
    exact ⟨rfl, fun h => by simp at h, fun _ => ⟨_, unhide HF⟩, Below.refl _ _⟩
  · have q6 : ¬ (rs.length : Int) < 6 := by omega
    clear h hsrc hr hc1 hc2
    go_enter Tryz.func67, Tryz.ntmps67
    go_wp2_with fail
    have HD := hide ((unhide HF).1.kept (T := fun _ => False) ((Touch.refl _ _).drew) (fun _ _ h => h))
    obtain ⟨x1, hx1⟩ : ∃ x1, x1 = (numP 2 (some rs)).1 := ⟨_, rfl⟩
    obtain ⟨st1, hst1⟩ : ∃ st1, st1 = (numP 2 (some rs)).2 := ⟨_, rfl⟩
    obtain ⟨x2, hx2⟩ : ∃ x2, x2 = (numP 4 st1).1 := ⟨_, rfl⟩
    obtain ⟨st2, hst2⟩ : ∃ st2, st2 = (numP 4 st1).2 := ⟨_, rfl⟩
    have N1 := hide (implNumber_kept 2 2 rfl B (some rs) _ (unhide HD) (by omega))
    have N2 := hide (fun (w1 : World) (h1 : Rd w1 B st1) => implNumber_kept 4 4 rfl B st1 w1 h1 (by omega))
    rw [← hx1, ← hst1] at N1
    rw [← hx2, ← hst2] at N2
    have HX := hide (And.intro hx1 (And.intro hst1 (And.intro hx2 hst2)))
    clear hx1 hst1 hx2 hst2 HD
    go_region_held3 (fun _ => True) (trivial) (first
      | (go_at_call 77; refine (unhide N2 _ hR1).mono ?_; rintro e w2 ⟨rfl, hR2, hT2, hz2, hk2⟩)
      | (go_at_call 77; refine (unhide N1).mono ?_; rintro e w1 ⟨rfl, hR1, hT1, hz1, hk1⟩))
    have hst1 : st1 = some (rs.drop 2) := by rw [(unhide HX).2.1]; show (takeP 2 (some rs)).2 = _; simp only [takeP]; rw [if_pos (by omega)]
    have hx1 : x1 = dec (rs.take 2) := by rw [(unhide HX).1]; show dec (takeP 2 (some rs)).1 = _; simp only [takeP]; rw [if_pos (by omega)]
    have hst2 : st2 = some (rs.drop 6) := by rw [(unhide HX).2.2.2, hst1]; show (takeP 4 (some (rs.drop 2))).2 = _; simp only [takeP]; rw [if_pos (by rw [List.length_drop]; omega), List.drop_drop]
    have hx2 : x2 = dec ((rs.drop 2).take 4) := by rw [(unhide HX).2.2.1, hst1]; show dec (takeP 4 (some (rs.drop 2))).1 = _; simp only [takeP]; rw [if_pos (by rw [List.length_drop]; omega)]
    have hrd := decN_lo (rs.take 2) (range_take 2 (unhide HR)) 2
    have hx1r : 0 ≤ x1 ∧ x1 < 65536 := by rw [hx1]; unfold dec; rw [show (rs.take 2).length = 2 by rw [List.length_take]; omega]; simpa using hrd
    have F0 : FR w.drew B (some rs) dv ds p := (unhide HF).below ⟨rfl, rfl, rfl, Nat.le_refl _, fun _ _ => rfl⟩
    have F2 := hide ((F0.touched hR1 hT1 hk1).touched hR2 hT2 hk2)
    have B2 := hide ((show Below B w w.drew from ⟨rfl, rfl, rfl, Nat.le_refl _, fun _ _ => rfl⟩).trans ((hT1.below (B := B) (by have := F0.1.lt; omega) (fun k hk e => by omega)).trans (hT2.below (B := B) (by have := hR1.lt; omega) (fun k hk e => by omega))))
    rw [hst2] at F2
    have hR6 : (rs.drop 6).length = rs.length - 6 := List.length_drop ..
    have HE : Hid (frStep rs = if inB x1 1 200 = false then (8, []) else if rs.length - 6 < x1.toNat then (16, []) else if sumF ((rs.drop 6).take x1.toNat) = x2 then (0, (rs.drop 6).take x1.toNat) else (8, [])) := hide (by
      unfold frStep; rw [if_neg h6, ← hx1, ← hx2])
    have HRr := hide (range_drop 6 (unhide HR))
    have HDr : Hid (∀ k, rs.drop (6 + k) = (rs.drop 6).drop k) := hide (fun k => by rw [List.drop_drop])
    clear hst1 hst2 hx1 hx2 hrd F0 hR1 hT1 hz1 hk1 hR2 hT2 hz2 hk2 N1 N2 HX HF HR
    rename_i hHeld
    clear hHeld
    generalize rs.drop 6 = r6 at *
    rcases Bool.eq_false_or_eq_true (inB x1 1 200) with hin | hin
    · obtain ⟨n, hn⟩ : ∃ n : Nat, x1 = (n : Int) := ⟨x1.toNat, by omega⟩
      subst hn
      obtain ⟨g0, g1⟩ := inB_iff.1 hin
      rw [hin, if_neg (by simp), Int.toNat_natCast] at HE
      go_wp2_with (go_at_call 38; refine (within_any _ _ _ _).mono ?_; rintro e w' ⟨rfl, hw'⟩; have hw2 := hw'.symm; clear hw'; subst hw2)
      refine (take_kept n B (some r6) w2 (unhide F2).1 (by omega)).mono ?_
      rintro e w3 ⟨v3, rfl, hv3, hR3, hT3, hz3, hk3⟩
      have F3 := hide ((unhide F2).touched hR3 hT3 hk3)
      have B3 := hide ((unhide B2).trans (hT3.below (B := B) (by have := (unhide F2).1.lt; omega) (fun k hk e => by omega)))
      have hBw3 : B < w3.heap.size := hR3.lt
      clear hT3 hk3 hR3 F2 B2 hz3
      by_cases hle : n ≤ r6.length
      · rw [if_neg (by omega)] at HE
        have hsp : takeP n (some r6) = (r6.take n, some (r6.drop n)) := by simp [takeP, hle]
        rw [hsp] at F3 hv3
        dsimp only at F3 hv3
        have hlt6 : (r6.take n).length = n := by rw [List.length_take]; omega
        have hsh := (unhide F3).1.2.1
        have c2 := (unhide F3).2.1
        have c3 := (unhide F3).2.2.2
        have hcv := conv_rd (P := Tryz.prog) 79 9 5 Tryz.underlying79 Tryz.underlying5 Tryz.underlying9 hv3
        obtain ⟨a3, cap3, hv3e, hq1, hq2, hq3, hq4⟩ := hv3
        have hR4 := hide hq4
        obtain ⟨cc, oo, ha3, hcc, hcell3⟩ : ∃ c off, a3 = some ⟨c, off, none⟩ ∧ c < B ∧ ∀ i, i < (r6.take n).length → w3.cell? ⟨c, off + i, none⟩ = some (.int .u8 ((r6.take n).getD i 0)) := by
          rcases hq3 with ⟨_, h0⟩ | h0
          · omega
          · exact h0
        subst ha3
        subst hv3e
        have HC3 := hide hcell3
        have hsum := hide (frameSum_any cc oo cap3 (r6.take n) w3 (by omega) hcell3 hq4 (by omega) (by omega))
        rw [hlt6] at hcv hsum ⊢
        clear hq3 hq4 hcell3 hsp
        generalize hdd : r6.take n = dd at *
        have HDD := hide hdd
        clear hdd
        go_wp2_with fail
        refine (unhide hsum).mono ?_
        rintro e w4 ⟨rfl, hb4⟩
        have F4 := hide ((unhide F3).below hb4)
        have B4 := hide ((unhide B3).trans (hb4.mono (by omega)))
        have hz4 := hb4.size
        have hcv4 := run_convert_bytes_arg (P := Tryz.prog) w4 79 5 Tryz.underlying79 Tryz.underlying5 cc oo n cap3 dd hlt6 (fun i hi => (hb4.cell (p := ⟨cc, oo + i, none⟩) (by simp; omega)).trans (unhide HC3 i (by omega))) 9 Tryz.underlying9
        have hcv5 := run_convert_bytes_arg (P := Tryz.prog) w4.drew 79 5 Tryz.underlying79 Tryz.underlying5 cc oo n cap3 dd hlt6 (fun i hi => (show w4.cell? ⟨cc, oo + i, none⟩ = _ from (hb4.cell (p := ⟨cc, oo + i, none⟩) (by simp; omega)).trans (unhide HC3 i (by omega)))) 9 Tryz.underlying9
        clear hb4 hsum F3 B3 hcv HC3 c2 c3
        generalize sumF dd = s4 at *
        by_cases hs : s4 = x2
        · subst hs
          rw [if_pos rfl] at HE
          have c2 := (unhide F4).2.1
          have c3 := (unhide F4).2.2.2
          have f2 := (unhide F4).1.2.2.1 2
          have f3 := (unhide F4).1.2.2.1 3
          have hO := hide (unhide F4).2.2.1
          have HF4 := hide (unhide F4)
          have hdl : ds.length + 1 ≤ maxLen := by unfold maxLen; omega
          have hOd := hide (World.ownsRow.drew ((unhide hO).alloc (.cells #[.string (strOfNums dd)] 9)))
          have c2a : (w4.alloc (.cells #[.string (strOfNums dd)] 9)).cell? ⟨B, 2, none⟩ = some dv := (((Touch.refl (fun _ => False) w4).alloc _).cell (p := ⟨B, 2, none⟩) (by simp; omega) (fun h => h)).trans c2
          obtain ⟨i0, hi, hz0, hz1, hz2⟩ := info_parts info9
          go_wp2_with fail
          go_region_law (refine step_append_lies _ (by rfl) _ _ _ (by rfl) (B + 1) 9 i0 _ 1 16 Tryz.underlying43 hi hz0 hz1 hz2 rfl (by omega) dv (ds.map strOfNums).length ((ds.map strOfNums).map Value.string) (by rfl) (unhide hOd) ⟨w4.heap.size, 0, none⟩ 1 1 [_] (by rfl) (by rfl) (World.news_of_block (cs := #[_]) (t := 9) (fr := (0, 0)) (heap_alloc_new w4 _)) (by simp [Value.oneCell']) (by omega) (by unfold maxLen; simp; omega) (by simp; omega) (by simp; omega) (w4.heap.size + 1) (by simp) ?_; intro gg capg w5 hown5 hgrow5 hat5 hlt5; have P5 := (unhide HF4).pushed (p' := p + (6 + n)) hown5 hgrow5; have hc5 := P5.1; have hf5 := P5.2.1)
          all_goals
            rw [List.length_map] at P5
            have c3b := P5.2.2.1
            have f3b := P5.2.2.2.1
            have R5 := hide P5.2.2.2.2
            clear P5 hc5 hf5 hown5 hgrow5 hat5 hlt5 hcv4 hcv5 hOd hO c2a c2 c3 f2 f3
            generalize w5.setCell ⟨B, 2, none⟩ (.slice (some ⟨gg, 0, none⟩) (ds.length + 1) capg) = w6 at *
            go_wp2_with fail
            go_ret
            have hq := unhide R5
            rw [show ((p + (6 + n) : Nat) : Int) = (p : Int) + (6 + (n : Int)) by omega] at hq
            rw [unhide HE]
            refine ⟨rfl, fun _ => ⟨.slice (some ⟨gg, 0, none⟩) (ds.length + 1) capg, ?_⟩, fun h => absurd rfl h, (unhide B4).trans hq.2⟩
            show FR (w6.setCell ⟨B, 3, none⟩ (.int .i64 ((p : Int) + (6 + (n : Int))))) B (some (rs.drop (6 + dd.length))) (.slice (some ⟨gg, 0, none⟩) (ds.length + 1) capg) (ds ++ [dd]) (p + 6 + dd.length)
            rw [hlt6, unhide HDr n, Nat.add_assoc]
            exact hq.1
        · rw [if_neg hs] at HE
          have hs2 : (s4 == x2) = false := by rw [beq_eq_false_iff_ne]; exact hs
          go_wp2_with fail
          go_ret
          rw [unhide HE]
          exact ⟨rfl, fun h => by simp at h, fun _ => ⟨_, unhide F4⟩, unhide B4⟩
      · rw [if_pos (by omega)] at HE
        have hsp : takeP n (some r6) = ([], none) := by simp [takeP, hle]
        rw [hsp] at F3 hv3
        have hsh := (unhide F3).1.2.1
        clear hv3
        go_wp2_with fail
        go_ret
        rw [unhide HE]
        exact ⟨rfl, fun h => by simp at h, fun _ => ⟨_, unhide F3⟩, unhide B3⟩
    · rw [hin, if_pos rfl] at HE
      go_wp2_with (go_at_call 38; refine (within_any _ _ _ _).mono ?_; rintro e w' ⟨rfl, hw'⟩; have hw2 := hw'.symm; clear hw'; subst hw2)
      go_ret
      rw [unhide HE]
      exact ⟨rfl, fun h => by simp at h, fun _ => ⟨_, unhide F2⟩, unhide B2⟩
end Go.Proofs.YtfihhkhdigbmiaaGreatDoor
