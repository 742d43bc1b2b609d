/- A table of files: made of a disk, and a disk made of it. (Written by py/mpd.py.) -/
import Derived.Test.YtfihhkhdigbmiaaGreatDoorMpC
import Derived.Test.YtfihhkhdigbmiaaGreatDoorTk
namespace Go.Proofs.YtfihhkhdigbmiaaGreatDoor
open Go.ChangeShapes Go.WideShapes Go.ChangeAt Go.RowKit Go.Maps Go.Sort
set_option linter.unusedVariables false
set_option linter.unusedSimpArgs false

theorem grownT {w w' : World} {b : Nat} (hg : w.grownBy w' (some b)) : Touch (fun q => q = b) w w' := (Touch.refl (fun q => q = b) w).grown hg (fun q hq _ => (Option.some.inj hq).symm)
theorem Blk.c2 {w : World} {b : Nat} {a0 a1 : Value} (h : Blk w b [a0, a1]) : (w.cell? ⟨b, 0, none⟩ = some a0 ∧ w.cell? ⟨b, 1, none⟩ = some a1) ∧ (w.frozen? ⟨b, 0, none⟩ = false ∧ w.frozen? ⟨b, 1, none⟩ = false) := ⟨⟨h.cell 0 rfl, h.cell 1 rfl⟩, h.fro 0, h.fro 1⟩
theorem Blk.c3 {w : World} {b : Nat} {a0 a1 a2 : Value} (h : Blk w b [a0, a1, a2]) : (w.cell? ⟨b, 0, none⟩ = some a0 ∧ w.cell? ⟨b, 1, none⟩ = some a1 ∧ w.cell? ⟨b, 2, none⟩ = some a2) ∧ (w.frozen? ⟨b, 0, none⟩ = false ∧ w.frozen? ⟨b, 1, none⟩ = false ∧ w.frozen? ⟨b, 2, none⟩ = false) := ⟨⟨h.cell 0 rfl, h.cell 1 rfl, h.cell 2 rfl⟩, h.fro 0, h.fro 1, h.fro 2⟩
set_option maxRecDepth 100000 in
set_option maxHeartbeats 4000000 in
/-- These files are all that there are. -/
theorem set_any (room : Int) (t b : Nat) (l0 l : List Fl) (v : Value) (w : World) (hT : Blk w t [.int .i64 room, .map (some b)]) (hM : FMap w b l0) (hL : Fls w v l) (hr : Ris l) (hl : l.length ≤ 8) (hz : ∀ i, (l.getD i default).n.size ≤ maxLen) (htb : ¬ t = b) (hvb : ∀ a n c, v = .slice a n c → ∀ q, a = some q → 0 < l.length → ¬ q.block = b) :
    Calls Tryz.prog 68 #[.pointer (some ⟨t, 0, none⟩), v] w fun e w' => e = .returned (.tuple #[]) ∧ FMap w' b l ∧ Touch (fun q => q = b) w w' := by
  obtain ⟨a, cap, rfl, hn, hm, hc⟩ := hL
  have hvb2 := hvb a l.length cap rfl
  clear hvb
  obtain ⟨w1, hrun, hM1, hg⟩ := hM.clear 0
  have t1 := hT.cell 1 rfl
  have TT := hide (grownT hg)
  have T1 := hide (hT.kept (grownT hg) htb)
  have M1 := hide hM1
  have HC := hide hc
  have HZ := hide hz
  have HR := hide hr
  clear hT hM hc hz hr hM1 hg
  unfold maxLen at hm
  go_enter Tryz.func68, Tryz.ntmps68
  go_wp2_with fail
  clear hrun t1
  go_loopw [12] (fun i wr => ∃ k : Nat, k ≤ l.length ∧ i = .int .i64 k ∧ FMap wr b (l.take k) ∧ Touch (fun q => q = b) w wr ∧ Blk wr t [.int .i64 room, .map (some b)]) (fun i _ => l.length - (intOf i).toNat)
  case atStart => exact ⟨0, Nat.zero_le _, rfl, unhide M1, unhide TT, unhide T1⟩
  case round =>
    obtain ⟨k, hk, rfl, hM2, hT2, hB2⟩ := hrel
    by_cases hlt : k < l.length
    · obtain ⟨bb2, off, rfl, hbl, hsrc⟩ : ∃ bq off, a = some ⟨bq, off, none⟩ ∧ bq < w.heap.size ∧ ∀ i, i < l.length → w.cell? ⟨bq, off + i * 3, none⟩ = some (.string (l.getD i default).n) ∧ w.cell? ⟨bq, off + i * 3 + 1, none⟩ = some (.string (l.getD i default).d) ∧ w.cell? ⟨bq, off + i * 3 + 2, none⟩ = some (.int .i64 (l.getD i default).s) := by
        rcases unhide HC with h0 | h1
        · omega
        · exact h1
      have hqb : ¬ bb2 = b := hvb2 _ rfl (by omega)
      obtain ⟨s0, s1, s2⟩ := hsrc k hlt
      have c0 := (hT2.cell (p := ⟨bb2, off + k * 3, none⟩) hbl hqb).trans s0
      have c1 := (hT2.cell (p := ⟨bb2, off + k * 3 + 1, none⟩) hbl hqb).trans s1
      have c2 := (hT2.cell (p := ⟨bb2, off + k * 3 + 2, none⟩) hbl hqb).trans s2
      have hcut : l = l.take k ++ l.getD k default :: l.drop (k + 1) := by
        rw [List.getD_eq_getElem?_getD, List.getElem?_eq_getElem hlt]
        simp
      have htk : l.take (k + 1) = l.take k ++ [l.getD k default] := by
        rw [List.take_add_one, List.getD_eq_getElem?_getD, List.getElem?_eq_getElem hlt]; rfl
      have hA : ∀ g ∈ l.take k, bb g (l.getD k default) = true := by
        have h1 := unhide HR
        rw [hcut] at h1
        exact (ris_mid h1).1
      have htl : (l.take k).length ≤ 8 := by rw [List.length_take]; omega
      have hk0 : (0 : Int) ≤ (k : Int) := by omega
      have hk1 : (k : Int) < (l.length : Int) := by omega
      have hnz := unhide HZ k
      have HTK := hide htk
      have HA := hide hA
      have hmb := hM2.lt
      have htb2 := hB2.1
      clear hsrc s0 s1 s2 hcut htk hA
      generalize l.getD k default = f at *
      generalize l.take k = lk at *
      obtain ⟨fn, fd, fs⟩ := f
      dsimp only at c0 c1 c2 hnz
      have T3 := hide (hT2.alloc (.cells #[.string fn, .string fd, .int .i64 fs] 68))
      have B3 := hide (hB2.alloc (.cells #[.string fn, .string fd, .int .i64 fs] 68))
      have M3 := hide (hM2.kept ((Below.refl wr.heap.size wr).alloc (Nat.le_refl _) (.cells #[.string fn, .string fd, .int .i64 fs] 68)))
      have X3 := hide (Blk.new wr #[.string fn, .string fd, .int .i64 fs] 68 wr.heap.size rfl)
      clear hT2 hB2 hM2
      go_upto_region 4 with fail
      clear c0 c1 c2
      generalize wr.alloc (.cells #[.string fn, .string fd, .int .i64 fs] 68) = w2 at *
      generalize wr.heap.size = fb at *
      have hfb : ¬ fb = b := by omega
      have hd : Below w2.heap.size w2 w2.drew := below_drewN (Below.refl w2.heap.size w2) 1
      have T4 := hide ((unhide T3).trans (Touch.ofBelow (T := fun q => q = b) hd) (fun _ _ h => h))
      have B4 := hide ((unhide B3).below hd)
      have M4 := hide ((unhide M3).kept hd)
      have X4 := hide ((unhide X3).below hd)
      clear hd T3 B3 M3 X3
      obtain ⟨⟨t0, t1⟩, _⟩ := Blk.c2 (unhide B4)
      obtain ⟨⟨x0, x1, x2⟩, _⟩ := Blk.c3 (unhide X4)
      have hM4 := unhide M4
      rw [← List.append_nil lk] at hM4
      obtain ⟨w5, hput, hM5, hg5⟩ := hM4.put (f := ⟨fn, fd, fs⟩) (unhide HA) (fun g hg => by cases hg) (by simp; omega) hnz
      have M5 := hide hM5
      have T5 := hide ((unhide T4).trans (grownT hg5) (fun _ _ h => h))
      have B5 := hide ((unhide B4).kept (grownT hg5) htb)
      have X5 := hide ((unhide X4).kept (grownT hg5) hfb)
      clear hM4 hM5 hg5 T4 M4 HA
      unfold flV at hput
      dsimp only at hput
      refine wp_region_held_drew (S := (fun wx => wx.cell? ⟨t, 1, none⟩ = some (.map (some b)) ∧ wx.cell? ⟨fb, 0, none⟩ = some (.string fn) ∧ wx.cell? ⟨fb, 1, none⟩ = some (.string fd) ∧ wx.cell? ⟨fb, 2, none⟩ = some (.int .i64 fs))) (by kernel_rfl) ?_ (fun hHeld => ?_)
      · exact ⟨t1, x0, x1, x2⟩
      generalize w2.drew = wd at *
      refine tkH 0 rfl ?_
      refine tkH 1 rfl ?_
      refine tkH 2 rfl ?_
      refine tkH 3 rfl ?_
      refine tkH 4 rfl ?_
      refine tkH 5 rfl ?_
      refine tkH 6 rfl ?_
      refine wpAnyH_ready (rs := [7]) (by kernel_rfl) (by simp) ?_
      refine AllReadyH.cons (o := _) rfl (fun K hK => ?_) AllReadyH.nil
      go_simp
      refine hK.out _ _ ?_ (fun hHeld => ?_)
      · exact ⟨(Blk.c2 (unhide B5)).1.2, (Blk.c3 (unhide X5)).1⟩
      clear hK K
      (try simp only [Act.put, List.getElem_toArray, List.getElem_cons_succ, List.getElem_cons_zero, List.setIfInBounds_toArray, List.set_cons_zero, List.set_cons_succ])
      refine wpAnyH_done (by kernel_rfl) ?_ _
      clear hput t0 t1 x0 x1 x2 hHeld
      go_wp2_with fail
      refine ⟨⟨k + 1, by omega, by go_num, ?_, unhide T5, unhide B5⟩, ?_⟩
      · rw [unhide HTK]; exact unhide M5
      · simp [intOf]; omega
    · obtain rfl : k = l.length := by omega
      rw [List.take_length] at hM2
      have R := hide (And.intro hM2 hT2)
      clear hM2 hT2 hB2
      go_wp2_with fail
      go_end0
      exact ⟨rfl, unhide R⟩
set_option maxRecDepth 100000 in
set_option maxHeartbeats 2000000 in
/-- A disk's table. -/
theorem tableOf_any (room : Int) (l : List Fl) (v : Value) (w : World) (hL : Fls w v l) (hr : Ris l) (hl : l.length ≤ 8) (hz : ∀ i, (l.getD i default).n.size ≤ maxLen) :
    Calls Tryz.prog 43 #[.agg #[.int .i64 room, v]] w fun e w' => ∃ t b, e = .returned (.pointer (some ⟨t, 0, none⟩)) ∧ Blk w' t [.int .i64 room, .map (some b)] ∧ FMap w' b l ∧ w.heap.size ≤ t ∧ w.heap.size ≤ b ∧ ¬ t = b ∧ Below w.heap.size w w' := by
  have hmm := @run_makeMap Tryz.prog
  obtain ⟨a, cap, rfl, hn, hm, hc⟩ := id hL
  have B0 := hide ((Below.refl w.heap.size w).alloc (Nat.le_refl _) (.cells #[.int .i64 room, .slice a l.length cap] 28))
  have X0 := Blk.new w #[.int .i64 room, .slice a l.length cap] 28 w.heap.size rfl
  have X1 := X0.alloc (.map #[] 0)
  have B2 := hide (((unhide B0).alloc (by simp) (.map #[] 0)).alloc (by simp; omega) (.cells #[.int .i64 room, .map (some (w.heap.size + 1))] 105))
  have X2 := hide (X1.alloc (.cells #[.int .i64 room, .map (some (w.heap.size + 1))] 105))
  have M2 := hide ((FMap.made (w.alloc (.cells #[.int .i64 room, .slice a l.length cap] 28))).kept ((Below.refl _ _).alloc (Nat.le_refl _) (.cells #[.int .i64 room, .map (some (w.heap.size + 1))] 105)))
  have T2 := hide (Blk.new ((w.alloc (.cells #[.int .i64 room, .slice a l.length cap] 28)).alloc (.map #[] 0)) #[.int .i64 room, .map (some (w.heap.size + 1))] 105 (w.heap.size + 1 + 1) (by simp))
  have hsz : (w.alloc (.cells #[.int .i64 room, .slice a l.length cap] 28)).heap.size = w.heap.size + 1 := by simp
  obtain ⟨⟨c0, c1⟩, _⟩ := Blk.c2 X0
  rw [hsz] at M2
  clear X0 X1
  have HL := hide hL
  have hbl : ∀ q, a = some q → q.block < w.heap.size ∨ l.length = 0 := by
    intro q hq
    rcases hc with h0 | ⟨b, off, ha, hlt, _⟩
    · exact .inr h0
    · rw [hq] at ha; cases ha; exact .inl hlt
  clear hc hL
  go_enter Tryz.func43, Tryz.ntmps43
  go_upto_region 2 with fail
  clear c0 c1 hmm hsz
  generalize ((w.alloc (.cells #[.int .i64 room, .slice a l.length cap] 28)).alloc (.map #[] 0)).alloc (.cells #[.int .i64 room, .map (some (w.heap.size + 1))] 105) = w2 at *
  obtain ⟨⟨c0, c1⟩, _⟩ := Blk.c2 (unhide X2)
  have HS := hide (set_any room (w.heap.size + 1 + 1) (w.heap.size + 1) [] l _ w2 (unhide T2) (unhide M2) ((unhide HL).below (unhide B2)) hr hl hz (by omega) (fun a' n' c' e q hq h0 => by
    have e2 : a = a' := by injection e
    subst e2
    rcases hbl q hq with h | h
    · omega
    · omega))
  have HT := hide (unhide T2)
  clear M2 HL hbl hr hz hl hm hn
  go_wp2_with fail
  refine (unhide HS).mono ?_
  rintro e w9 ⟨rfl, hM9, hT9⟩
  have R := hide (show Blk w9 (w.heap.size + 1 + 1) [.int .i64 room, .map (some (w.heap.size + 1))] ∧ FMap w9 (w.heap.size + 1) l ∧ Below w.heap.size w w9 from ⟨(unhide HT).kept hT9 (by omega), hM9, (unhide B2).trans (hT9.below (unhide B2).size (fun q hq e => by omega))⟩)
  clear hM9 hT9 HS HT T2 B2 X2 c0 c1
  go_wp2_with fail
  go_ret
  exact ⟨_, _, rfl, (unhide R).1, (unhide R).2.1, by omega, by omega, by omega, (unhide R).2.2⟩
set_option maxRecDepth 100000 in
set_option maxHeartbeats 2000000 in
/-- A table's disk. -/
theorem disk_any (room : Int) (t b : Nat) (l : List Fl) (w : World) (hT : Blk w t [.int .i64 room, .map (some b)]) (hM : FMap w b l) (hr : Ris l) (hl : l.length ≤ 8) (hz : ∀ i, (l.getD i default).n.size ≤ maxLen) :
    Calls Tryz.prog 46 #[.pointer (some ⟨t, 0, none⟩)] w fun e w' => ∃ a c, e = .returned (.agg #[.int .i64 room, .slice a l.length c]) ∧ OwnF w.heap.size w' (.slice a l.length c) l ∧ Below w.heap.size w w' := by
  have HL := hide (fun wx (hTx : Blk wx t [.int .i64 room, .map (some b)]) (hMx : FMap wx b l) => list_any room t b l wx hTx hMx hr hl hz)
  have B0 := hide ((Below.refl w.heap.size w).alloc (Nat.le_refl _) (.cells #[.int .i64 0, .slice none 0 0] 28))
  have D0 := hide (Blk.new w #[.int .i64 0, .slice none 0 0] 28 w.heap.size rfl)
  have T0 := hide (hT.alloc (.cells #[.int .i64 0, .slice none 0 0] 28))
  have M0 := hide (hM.kept (unhide B0))
  have htl := hT.1
  clear hT hM
  go_enter Tryz.func46, Tryz.ntmps46
  go_upto_region 1 with fail
  generalize w.alloc (.cells #[.int .i64 0, .slice none 0 0] 28) = w0 at *
  have hd : Below w0.heap.size w0 w0.drew := below_drewN (Below.refl w0.heap.size w0) 1
  have B1 := hide ((unhide B0).trans (hd.mono (unhide B0).size))
  have D1 := hide ((unhide D0).below hd)
  have T1 := hide ((unhide T0).below hd)
  have M1 := hide ((unhide M0).kept hd)
  clear hd B0 D0 T0 M0
  have t0 := (Blk.c2 (unhide T1)).1.1
  refine wp_region_held_drew (S := (fun wx => wx.cell? ⟨t, 0, none⟩ = some (.int .i64 room))) (by kernel_rfl) ?_ (fun hHeld => ?_)
  · exact t0
  generalize w0.drew = wd at *
  refine tkH 0 rfl ?_
  refine tkH 1 rfl ?_
  refine tkH 2 rfl ?_
  refine tkH 3 rfl ?_
  refine tkH 4 rfl ?_
  refine wpAnyH_ready (rs := [5]) (by kernel_rfl) (by simp) ?_
  refine AllReadyH.cons (o := _) rfl (fun K hK => ?_) AllReadyH.nil
  go_simp
  refine (unhide HL _ (unhide T1) (unhide M1)).mono ?_
  rintro e w2 ⟨v, rfl, ho, hb⟩
  obtain ⟨a, c, rfl, _⟩ := ho.fls
  have B2 := hide ((unhide B1).trans (hb.mono (unhide B1).size))
  have D2 := hide ((unhide D1).below hb)
  have T2 := hide ((unhide T1).below hb)
  have hwd := (unhide B1).size
  have hDw := (unhide D1).1
  have O2 := hide ho
  clear HL B1 D1 T1 M1 t0 hb ho
  go_wp2_with fail
  refine hK.out _ _ ?_ (fun hHeld => ?_)
  · exact (Blk.c2 (unhide T2)).1.1
  clear hK K
  (try simp only [Act.put, List.getElem_toArray, List.getElem_cons_succ, List.getElem_cons_zero, List.setIfInBounds_toArray, List.set_cons_zero, List.set_cons_succ])
  refine tkH 6 rfl ?_
  have hT := ((Touch.refl (fun x => x = w.heap.size) w2).setCell ⟨w.heap.size, 0, none⟩ (.int .i64 room) (fun _ => rfl)).setCell ⟨w.heap.size, 1, none⟩ (.slice a l.length c) (fun _ => rfl)
  have HY := hide (((unhide D2).set 0 (.int .i64 room) (by simp)).set 1 (.slice a l.length c) (by simp))
  have HK := hide ((unhide B2).trans (hT.below (unhide B2).size (fun x hx e => by omega)))
  have HO := hide ((unhide O2).kept hT (fun k hk e => by have := (World.ownsRow.lt (unhide O2) k hk).1; omega))
  have HTK := (unhide T2).kept hT (fun e => by omega)
  obtain ⟨⟨x0, x1⟩, g0, g1⟩ := Blk.c2 (unhide D2)
  clear B2 O2 D2 hT
  refine wpAnyH_ready (rs := [7]) (by kernel_rfl) (by simp) ?_
  refine AllReadyH.cons (o := _) rfl (fun K hK => ?_) AllReadyH.nil
  go_simp
  refine hK.out _ _ ?_ (fun hHeld => ?_)
  · exact (Blk.c2 HTK).1.1
  clear hK K
  (try simp only [Act.put, List.getElem_toArray, List.getElem_cons_succ, List.getElem_cons_zero, List.setIfInBounds_toArray, List.set_cons_zero, List.set_cons_succ])
  refine wpAnyH_done (by kernel_rfl) ?_ _
  clear x0 x1 g0 g1 hHeld HTK
  go_wp2_with fail
  obtain ⟨⟨z0, z1⟩, _⟩ := Blk.c2 (unhide HY)
  refine bodyPost_ret (v := .agg #[.int .i64 room, .slice a l.length c]) (by simp [results, Tryz.results46, go_sem, z0, z1]) rfl ?_
  exact ⟨a, c, rfl, World.ownsRow.mono (unhide HO) hwd, unhide HK⟩
end Go.Proofs.YtfihhkhdigbmiaaGreatDoor
