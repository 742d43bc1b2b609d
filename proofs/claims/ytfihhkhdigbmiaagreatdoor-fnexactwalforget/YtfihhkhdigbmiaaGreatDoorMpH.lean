/- A file put in its place, as the specification does it: l03Put. (Written by py/mph.py.) -/
import Derived.Test.YtfihhkhdigbmiaaGreatDoorMpG
import Derived.Laws.Cover1
namespace Go.Proofs.YtfihhkhdigbmiaaGreatDoor
open Go.ChangeShapes Go.WideShapes Go.ChangeAt Go.RowKit Go.Maps Go.Sort
set_option linter.unusedVariables false
set_option linter.unusedSimpArgs false

/-- What is carried on while the new list grows. -/
structure PutK (w : World) (room : Int) (v : Value) (fn fd : ByteArray) (fs : Int) (wr : World) (sv : Value) (l : List Fl) : Prop where
  b : Below w.heap.size w wr
  x : Blk wr w.heap.size [.int .i64 room, v]
  f : Blk wr (w.heap.size + 1) [.string fn, .string fd, .int .i64 fs]
  d : Blk wr (w.heap.size + 1 + 1) [.int .i64 0, .slice none 0 0]
  o : Blk wr (w.heap.size + 4) [.int .i64 room, sv]
  own : OwnF (w.heap.size + 3) wr sv l
  ne : ∀ q, sv.ownBlock = some q → q ≠ w.heap.size + 4
theorem PutK.below {w : World} {room : Int} {v : Value} {fn fd : ByteArray} {fs : Int} {wr wx : World} {sv : Value} {l : List Fl} (h : PutK w room v fn fd fs wr sv l) (hb : Below wr.heap.size wr wx) : PutK w room v fn fd fs wx sv l :=
  ⟨h.b.trans (hb.mono h.b.size), h.x.below hb, h.f.below hb, h.d.below hb, h.o.below hb, h.own.below hb, h.ne⟩
theorem PutK.push {w : World} {room : Int} {v : Value} {fn fd : ByteArray} {fs : Int} {wu w3 : World} {sv : Value} {l : List Fl} {gn gd : ByteArray} {gs : Int} {gg cg : Nat} (h : PutK w room v fn fd fs wu sv l)
    (hown : w3.ownsRow (w.heap.size + 3) 68 3 (.slice (some ⟨gg, 0, none⟩) (l.length + 1) cg) (l.length + 1) (flsC l ++ [.string gn, .string gd, .int .i64 gs])) (hgrow : wu.grownBy w3 sv.ownBlock) (hat : sv.ownBlock = some gg ∨ gg = wu.heap.size) :
    Blk w3 (w.heap.size + 4) [.int .i64 room, sv] ∧ PutK w room v fn fd fs (w3.setCell ⟨w.heap.size + 4, 1, none⟩ (.slice (some ⟨gg, 0, none⟩) (l.length + 1) cg)) (.slice (some ⟨gg, 0, none⟩) (l.length + 1) cg) (l ++ [⟨gn, gd, gs⟩]) := by
  have hlt := fun q (hq : sv.ownBlock = some q) => World.ownsRow.lt h.own q hq
  have t1 : Touch (fun q => sv.ownBlock = some q) wu w3 := (Touch.refl (fun q => sv.ownBlock = some q) wu).grown hgrow (fun q hq _ => hq)
  have o3 := h.o.kept t1 (fun e => h.ne _ e rfl)
  have t2 : Touch (fun q => sv.ownBlock = some q ∨ q = w.heap.size + 4) wu (w3.setCell ⟨w.heap.size + 4, 1, none⟩ (.slice (some ⟨gg, 0, none⟩) (l.length + 1) cg)) :=
    ((Touch.refl (fun q => sv.ownBlock = some q ∨ q = w.heap.size + 4) wu).trans t1 (fun _ _ h => .inl h)).setCell ⟨w.heap.size + 4, 1, none⟩ _ (fun _ => .inr rfl)
  have hne : gg ≠ w.heap.size + 4 := by
    rcases hat with e | e
    · exact h.ne gg e
    · have := h.o.1; omega
  have hxl := h.o.1
  have hbs := h.b.size
  refine ⟨o3, h.b.trans (t2.below hbs (fun q hq e => ?_)), h.x.kept t2 (fun e => ?_), h.f.kept t2 (fun e => ?_), h.d.kept t2 (fun e => ?_), o3.set 1 _ (by simp), ?_, fun q hq => ?_⟩
  · rcases e with e | e
    · have := (hlt q e).1; omega
    · omega
  · rcases e with e | e
    · have := (hlt _ e).1; omega
    · omega
  · rcases e with e | e
    · have := (hlt _ e).1; omega
    · omega
  · rcases e with e | e
    · have := (hlt _ e).1; omega
    · omega
  · unfold OwnF
    rw [flsC_snoc, List.length_append]
    exact own_kept (T := fun q => q = w.heap.size + 4) hown ((Touch.refl (fun q => q = w.heap.size + 4) w3).setCell ⟨w.heap.size + 4, 1, none⟩ _ (fun _ => rfl)) (fun q hq e => by
      have e2 : gg = q := by simpa [Value.ownBlock] using hq
      omega)
  · have e2 : gg = q := by simpa [Value.ownBlock] using hq
    omega
set_option maxRecDepth 100000 in
set_option maxHeartbeats 8000000 in
theorem l03Put_any (room : Int) (v : Value) (l : List Fl) (fn fd : ByteArray) (fs : Int) (w : World) (hL : Fls w v l) (hr : Ris l) (hl : l.length ≤ 8) :
    Calls Tryz.prog 61 #[.agg #[.int .i64 room, v], .agg #[.string fn, .string fd, .int .i64 fs]] w fun e w' => ∃ a c, e = .returned (.agg #[.int .i64 room, .slice a (putL ⟨fn, fd, fs⟩ l).length c]) ∧ OwnF w.heap.size w' (.slice a (putL ⟨fn, fd, fs⟩ l).length c) (putL ⟨fn, fd, fs⟩ l) ∧ Below w.heap.size w w' := by
  obtain ⟨i0, hi, hz0, hz1, hz2⟩ := info_parts infoF
  obtain ⟨a, cap, rfl, hn, hm, hc⟩ := hL
  have B0 := ((((Below.refl w.heap.size w).alloc (Nat.le_refl _) (.cells #[.int .i64 room, .slice a l.length cap] 28)).alloc (by simp) (.cells #[.string fn, .string fd, .int .i64 fs] 68)).alloc (by simp; omega) (.cells #[.int .i64 0, .slice none 0 0] 28))
  have X0 := ((Blk.new w #[.int .i64 room, .slice a l.length cap] 28 w.heap.size rfl).alloc (.cells #[.string fn, .string fd, .int .i64 fs] 68)).alloc (.cells #[.int .i64 0, .slice none 0 0] 28)
  have F0 := (Blk.new (w.alloc (.cells #[.int .i64 room, .slice a l.length cap] 28)) #[.string fn, .string fd, .int .i64 fs] 68 (w.heap.size + 1) (by simp)).alloc (.cells #[.int .i64 0, .slice none 0 0] 28)
  have D0 := Blk.new ((w.alloc (.cells #[.int .i64 room, .slice a l.length cap] 28)).alloc (.cells #[.string fn, .string fd, .int .i64 fs] 68)) #[.int .i64 0, .slice none 0 0] 28 (w.heap.size + 1 + 1) (by simp)
  have HS0 : (((w.alloc (.cells #[.int .i64 room, .slice a l.length cap] 28)).alloc (.cells #[.string fn, .string fd, .int .i64 fs] 68)).alloc (.cells #[.int .i64 0, .slice none 0 0] 28)).heap.size = w.heap.size + 3 := by simp
  obtain ⟨⟨x0, x1⟩, _⟩ := Blk.c2 X0
  have HC := hide hc
  have HR := hide hr
  unfold maxLen at hm
  clear hc hr
  go_enter Tryz.func61, Tryz.ntmps61
  go_upto_region 1 with fail
  generalize ((w.alloc (.cells #[.int .i64 room, .slice a l.length cap] 28)).alloc (.cells #[.string fn, .string fd, .int .i64 fs] 68)).alloc (.cells #[.int .i64 0, .slice none 0 0] 28) = w0 at *
  have hA1 := (Below.refl w0.heap.size w0).alloc (Nat.le_refl _) (.cells #[] 68)
  have HS1 : (w0.alloc (.cells #[] 68)).heap.size = w.heap.size + 4 := by rw [show (w0.alloc (.cells #[] 68)).heap.size = w0.heap.size + 1 by simp]; omega
  have O1 : (w0.alloc (.cells #[] 68)).ownsRow w0.heap.size 68 3 (.slice (some ⟨w0.heap.size, 0, none⟩) 0 0) 0 [] := World.ownsRow_made w0 #[] 0 (Nat.le_refl _) (by unfold maxLen; omega) rfl
  rw [HS0] at O1
  have hA2 := (Below.refl _ (w0.alloc (.cells #[] 68))).alloc (Nat.le_refl _) (.cells #[.int .i64 room, .slice (some ⟨w.heap.size + 3, 0, none⟩) 0 0] 28)
  have K2 : Hid (PutK w room (.slice a l.length cap) fn fd fs ((w0.alloc (.cells #[] 68)).alloc (.cells #[.int .i64 room, .slice (some ⟨w.heap.size + 3, 0, none⟩) 0 0] 28)) (.slice (some ⟨w.heap.size + 3, 0, none⟩) 0 0) []) := hide
    ⟨(B0.trans (hA1.mono B0.size)).trans (hA2.mono (by omega)), (X0.below hA1).below hA2, (F0.below hA1).below hA2, (D0.below hA1).below hA2,
     Blk.new (w0.alloc (.cells #[] 68)) #[.int .i64 room, .slice (some ⟨w.heap.size + 3, 0, none⟩) 0 0] 28 (w.heap.size + 4) HS1,
     World.ownsRow.mono (own_kept (T := fun _ => False) O1 (Touch.ofBelow hA2) (fun _ _ h => h)) (by omega), fun q hq => (by have e2 : w.heap.size + 3 = q := (by simpa [Value.ownBlock] using hq); omega)⟩
  go_upto_region 2 with fail
  clear x0 x1 B0 X0 F0 D0 hA1 hA2 O1
  (try rw [HS1])
  generalize (w0.alloc (.cells #[] 68)).alloc (.cells #[.int .i64 room, .slice (some ⟨w.heap.size + 3, 0, none⟩) 0 0] 28) = w1 at *
  go_upto_region 4 with fail
  go_loopw [6, 7] (fun pv i wr => ∃ (k : Nat) (sv : Value), k ≤ l.length ∧ i = .int .i64 k ∧ pv = .bool (plF ⟨fn, fd, fs⟩ (l.take k)) ∧ PutK w room (.slice a l.length cap) fn fd fs wr sv (poF ⟨fn, fd, fs⟩ (l.take k))) (fun _ i _ => l.length - (intOf i).toNat)
  case atStart => exact ⟨0, _, Nat.zero_le _, rfl, rfl, unhide K2⟩
  case round =>
    obtain ⟨k, sv, hk, rfl, rfl, hK⟩ := hrel
    have K3 := hide hK
    have x1 := hK.x.cell 1 rfl
    by_cases hlt : k < l.length
    · obtain ⟨bq, off, rfl, hbl, hsrc⟩ : ∃ bq off, a = some ⟨bq, off, none⟩ ∧ bq < w.heap.size ∧ ∀ i, i < l.length → w.cell? ⟨bq, off + i * 3, none⟩ = some (.string (l.getD i default).n) ∧ w.cell? ⟨bq, off + i * 3 + 1, none⟩ = some (.string (l.getD i default).d) ∧ w.cell? ⟨bq, off + i * 3 + 2, none⟩ = some (.int .i64 (l.getD i default).s) := by
        rcases unhide HC with h0 | h1
        · omega
        · exact h1
      obtain ⟨s0, s1, s2⟩ := hsrc k hlt
      have HG0 := hide (fun wx (hx : Below w.heap.size w wx) => (hx.cell (p := ⟨bq, off + k * 3, none⟩) hbl).trans s0)
      have HG1 := hide (fun wx (hx : Below w.heap.size w wx) => (hx.cell (p := ⟨bq, off + k * 3 + 1, none⟩) hbl).trans s1)
      have HG2 := hide (fun wx (hx : Below w.heap.size w wx) => (hx.cell (p := ⟨bq, off + k * 3 + 2, none⟩) hbl).trans s2)
      have htk : l.take (k + 1) = l.take k ++ [l.getD k default] := by
        rw [List.take_add_one, List.getD_eq_getElem?_getD, List.getElem?_eq_getElem hlt]; rfl
      have hrs : Ris (l.take k ++ [l.getD k default]) := by
        rw [← htk]
        exact List.Pairwise.sublist (List.take_sublist _ _) (unhide HR)
      have hpo8 : (poF ⟨fn, fd, fs⟩ (l.take k)).length ≤ 17 := by
        unfold poF
        have h1 := List.length_filter_le (fun g => bb g ⟨fn, fd, fs⟩) (l.take k)
        have h2 := List.length_filter_le (fun g => bb ⟨fn, fd, fs⟩ g) (l.take k)
        have h3 : (l.take k).length ≤ 8 := by rw [List.length_take]; omega
        rw [List.length_append]
        split
        · rw [List.length_cons]; omega
        · rw [List.length_nil]; omega
      have hk0 : (0 : Int) ≤ (k : Int) := by omega
      have hk1 : (k : Int) < (l.length : Int) := by omega
      have HTK := hide htk
      have HRS := hide hrs
      clear hsrc s0 s1 s2 htk hrs hK
      generalize l.getD k default = g at *
      obtain ⟨gn, gd, gs⟩ := g
      generalize l.take k = lk at *
      generalize hsv : sv = sv2 at *
      clear hsv
      dsimp only at HG0 HG1 HG2
      have c0 := unhide HG0 _ (unhide K3).b
      have q0 := (unhide K3).f.cell 0 rfl
      cases hp : plF ⟨fn, fd, fs⟩ lk with
      | true =>
        obtain ⟨e1, e2, e3⟩ := po_behind hp (unhide HRS)
        have E1 := hide e1
        have E2 := hide e2
        have heq : (gn.toList == fn.toList) = false := by
          rw [beq_eq_false_iff_ne, ByteArray.toList_eq, ByteArray.toList_eq]
          exact (bb_ne e3).symm
        have heq2 : (fn.toList == gn.toList) = false := by
          rw [beq_eq_false_iff_ne, ByteArray.toList_eq, ByteArray.toList_eq]
          exact bb_ne e3
        clear e1 e2 e3 hp HRS
        go_upto_region 6 with fail
        go_quiet (fail)
        go_upto_region 9 with fail
        have K4 := hide ((unhide K3).below (below_drewN (Below.refl wr.heap.size wr) nq))
        clear K3 x1 c0 q0
        generalize wr.drewN nq = w4 at *
        have x1 := (unhide K4).x.cell 1 rfl
        have c0 := unhide HG0 _ (unhide K4).b
        have q0 := (unhide K4).f.cell 0 rfl
        go_quiet (fail)
        go_upto_region 10 with fail
        have K6 := hide ((unhide K4).below (below_drewN (Below.refl w4.heap.size w4) nq))
        clear K4 x1 c0 q0
        generalize w4.drewN nq = w6 at *
        have x1 := (unhide K6).x.cell 1 rfl
        have c0 := unhide HG0 _ (unhide K6).b
        have q0 := (unhide K6).f.cell 0 rfl
        generalize poF ⟨fn, fd, fs⟩ lk = lo at *
        have hd : Below w6.heap.size w6 w6.drew := below_drewN (Below.refl w6.heap.size w6) 1
        have KD := hide ((unhide K6).below hd)
        clear K6 x1 c0 q0 hd
        have HS := hide (fun wx (h : PutK w room (.slice (some ⟨bq, off, none⟩) l.length cap) fn fd fs wx sv2 lo) => (show wx.cell? ⟨w.heap.size, 1, none⟩ = some (.slice (some ⟨bq, off, none⟩) l.length cap) ∧ wx.cell? ⟨bq, off + k * 3, none⟩ = some (.string gn) ∧ wx.cell? ⟨bq, off + k * 3 + 1, none⟩ = some (.string gd) ∧ wx.cell? ⟨bq, off + k * 3 + 2, none⟩ = some (.int .i64 gs) from ⟨h.x.cell 1 rfl, unhide HG0 _ h.b, unhide HG1 _ h.b, unhide HG2 _ h.b⟩))
        refine wp_region_noPanic ?_
        refine wp_region_held_drew (S := (fun wx => wx.cell? ⟨w.heap.size, 1, none⟩ = some (.slice (some ⟨bq, off, none⟩) l.length cap) ∧ wx.cell? ⟨bq, off + k * 3, none⟩ = some (.string gn) ∧ wx.cell? ⟨bq, off + k * 3 + 1, none⟩ = some (.string gd) ∧ wx.cell? ⟨bq, off + k * 3 + 2, none⟩ = some (.int .i64 gs))) (by kernel_rfl) ?_ (fun hHeld => ?_)
        · exact unhide HS _ (unhide KD)
        generalize w6.drew = wd at *
        obtain ⟨x1, c0, c1, c2⟩ := unhide HS _ (unhide KD)
        have o1 := (unhide KD).o.cell 1 rfl
        have KU := hide ((unhide KD).below ((Below.refl wd.heap.size wd).alloc (Nat.le_refl _) (.cells #[.string gn, .string gd, .int .i64 gs] 68)))
        have o1u := (unhide KU).o.cell 1 rfl
        have hsvu := (unhide KU).o.1
        refine tkH 0 rfl ?_
        refine tkH 2 rfl ?_
        refine tkH 3 rfl ?_
        refine tkH 4 rfl ?_
        refine tkH 5 rfl ?_
        refine tkH 6 rfl ?_
        refine wpAnyH_ready (rs := [1, 7]) (by kernel_rfl) (by simp) ?_
        refine AllReadyH.cons (o := _) rfl (fun K hK => ?_) (AllReadyH.cons (o := _) rfl (fun K hK => ?_) AllReadyH.nil)
        · go_simp
          refine hK.out _ _ ?_ (fun hHeld => ?_)
          · exact ⟨x1, c0, c1, c2⟩
          clear hK K
          (try simp only [Act.put, List.getElem_toArray, List.getElem_cons_succ, List.getElem_cons_zero, List.setIfInBounds_toArray, List.set_cons_zero, List.set_cons_succ])
          refine wpAnyH_ready (rs := [7]) (by kernel_rfl) (by simp) ?_
          refine AllReadyH.cons (o := _) rfl (fun K hK => ?_) AllReadyH.nil
          go_simp
          refine hK.out _ _ ?_ (fun hHeld => ?_)
          · exact unhide HS _ (unhide KU)
          clear hK K
          (try simp only [Act.put, List.getElem_toArray, List.getElem_cons_succ, List.getElem_cons_zero, List.setIfInBounds_toArray, List.set_cons_zero, List.set_cons_succ])
          clear c0 c1 c2 x1 o1
          refine wpAnyH_ready (rs := [8]) (by kernel_rfl) (by simp) ?_
          refine AllReadyH.cons (o := _) rfl (fun K hK => ?_) AllReadyH.nil
          refine step_append_lies _ rfl _ _ _ rfl (w.heap.size + 3) 68 i0 _ 3 40 Tryz.underlying26 hi hz0 hz1 hz2 rfl (by omega) sv2 lo.length _ rfl (unhide KU).own ⟨wd.heap.size, 0, none⟩ 1 1 [_, _, _] rfl rfl (World.news_of_block (cs := #[_, _, _]) (t := 68) (fr := (0, 0)) (heap_alloc_new wd _)) (by simp [Value.oneCell']) (by omega) (by unfold maxLen; omega) (by omega) (by omega) _ rfl ?_
          intro g5 cap5 w5 hown5 hgrow5 hat5 hlt5
          have P5 := (unhide KU).push hown5 hgrow5 hat5
          have k7 := P5.1.cell 1 rfl
          have f7 := P5.1.fro 1
          have K5 := hide P5.2
          have hS5 : w5.cell? ⟨w.heap.size, 1, none⟩ = some (.slice (some ⟨bq, off, none⟩) l.length cap) ∧ w5.cell? ⟨bq, off + k * 3, none⟩ = some (.string gn) ∧ w5.cell? ⟨bq, off + k * 3 + 1, none⟩ = some (.string gd) ∧ w5.cell? ⟨bq, off + k * 3 + 2, none⟩ = some (.int .i64 gs) := by
            have hB5 : Below w.heap.size w w5 := (unhide KU).b.grown hgrow5 (unhide KU).b.size (fun r hr => by have := (World.ownsRow.lt (unhide KU).own r hr).1; omega)
            have hX5 := (unhide KU).x.kept ((Touch.refl (fun q => sv2.ownBlock = some q) _).grown hgrow5 (fun q hq _ => hq)) (fun e => by have := (World.ownsRow.lt (unhide KU).own _ e).1; omega)
            exact ⟨hX5.cell 1 rfl, unhide HG0 _ hB5, unhide HG1 _ hB5, unhide HG2 _ hB5⟩
          clear P5 hown5 hgrow5 hat5 hlt5
          refine hK.out _ _ ?_ (fun hHeld => ?_)
          · exact hS5
          clear hK K
          (try simp only [Act.put, List.getElem_toArray, List.getElem_cons_succ, List.getElem_cons_zero, List.setIfInBounds_toArray, List.set_cons_zero, List.set_cons_succ])
          refine tkH 9 rfl ?_
          refine wpAnyH_ready (rs := [10]) (by kernel_rfl) (by simp) ?_
          refine AllReadyH.cons (o := _) rfl (fun K hK => ?_) AllReadyH.nil
          go_simp
          refine hK.out _ _ ?_ (fun hHeld => ?_)
          · exact (fun wx (h : PutK w room (.slice (some ⟨bq, off, none⟩) l.length cap) fn fd fs wx (.slice (some ⟨g5, 0, none⟩) (lo.length + 1) cap5) (lo ++ [⟨gn, gd, gs⟩])) => (show wx.cell? ⟨w.heap.size, 1, none⟩ = some (.slice (some ⟨bq, off, none⟩) l.length cap) ∧ wx.cell? ⟨bq, off + k * 3, none⟩ = some (.string gn) ∧ wx.cell? ⟨bq, off + k * 3 + 1, none⟩ = some (.string gd) ∧ wx.cell? ⟨bq, off + k * 3 + 2, none⟩ = some (.int .i64 gs) from ⟨h.x.cell 1 rfl, unhide HG0 _ h.b, unhide HG1 _ h.b, unhide HG2 _ h.b⟩)) _ (unhide K5)
          clear hK K
          (try simp only [Act.put, List.getElem_toArray, List.getElem_cons_succ, List.getElem_cons_zero, List.setIfInBounds_toArray, List.set_cons_zero, List.set_cons_succ])
          refine wpAnyH_done (by kernel_rfl) (NoPanic.normal ?_) _
          clear hHeld k7 f7 hS5 KU o1u
          go_wp2_with fail
          refine ⟨⟨k + 1, .slice (some ⟨g5, 0, none⟩) (lo.length + 1) cap5, by omega, by go_num, by rw [unhide HTK, unhide E2], ?_⟩, ?_⟩
          · rw [unhide HTK, unhide E1]; exact unhide K5
          · simp [intOf]; omega
        · go_simp
          refine hK.out _ _ ?_ (fun hHeld => ?_)
          · exact unhide HS _ (unhide KU)
          clear hK K
          (try simp only [Act.put, List.getElem_toArray, List.getElem_cons_succ, List.getElem_cons_zero, List.setIfInBounds_toArray, List.set_cons_zero, List.set_cons_succ])
          refine wpAnyH_ready (rs := [1]) (by kernel_rfl) (by simp) ?_
          refine AllReadyH.cons (o := _) rfl (fun K hK => ?_) AllReadyH.nil
          go_simp
          refine hK.out _ _ ?_ (fun hHeld => ?_)
          · exact unhide HS _ (unhide KU)
          clear hK K
          (try simp only [Act.put, List.getElem_toArray, List.getElem_cons_succ, List.getElem_cons_zero, List.setIfInBounds_toArray, List.set_cons_zero, List.set_cons_succ])
          clear c0 c1 c2 x1 o1
          refine wpAnyH_ready (rs := [8]) (by kernel_rfl) (by simp) ?_
          refine AllReadyH.cons (o := _) rfl (fun K hK => ?_) AllReadyH.nil
          refine step_append_lies _ rfl _ _ _ rfl (w.heap.size + 3) 68 i0 _ 3 40 Tryz.underlying26 hi hz0 hz1 hz2 rfl (by omega) sv2 lo.length _ rfl (unhide KU).own ⟨wd.heap.size, 0, none⟩ 1 1 [_, _, _] rfl rfl (World.news_of_block (cs := #[_, _, _]) (t := 68) (fr := (0, 0)) (heap_alloc_new wd _)) (by simp [Value.oneCell']) (by omega) (by unfold maxLen; omega) (by omega) (by omega) _ rfl ?_
          intro g5 cap5 w5 hown5 hgrow5 hat5 hlt5
          have P5 := (unhide KU).push hown5 hgrow5 hat5
          have k7 := P5.1.cell 1 rfl
          have f7 := P5.1.fro 1
          have K5 := hide P5.2
          have hS5 : w5.cell? ⟨w.heap.size, 1, none⟩ = some (.slice (some ⟨bq, off, none⟩) l.length cap) ∧ w5.cell? ⟨bq, off + k * 3, none⟩ = some (.string gn) ∧ w5.cell? ⟨bq, off + k * 3 + 1, none⟩ = some (.string gd) ∧ w5.cell? ⟨bq, off + k * 3 + 2, none⟩ = some (.int .i64 gs) := by
            have hB5 : Below w.heap.size w w5 := (unhide KU).b.grown hgrow5 (unhide KU).b.size (fun r hr => by have := (World.ownsRow.lt (unhide KU).own r hr).1; omega)
            have hX5 := (unhide KU).x.kept ((Touch.refl (fun q => sv2.ownBlock = some q) _).grown hgrow5 (fun q hq _ => hq)) (fun e => by have := (World.ownsRow.lt (unhide KU).own _ e).1; omega)
            exact ⟨hX5.cell 1 rfl, unhide HG0 _ hB5, unhide HG1 _ hB5, unhide HG2 _ hB5⟩
          clear P5 hown5 hgrow5 hat5 hlt5
          refine hK.out _ _ ?_ (fun hHeld => ?_)
          · exact hS5
          clear hK K
          (try simp only [Act.put, List.getElem_toArray, List.getElem_cons_succ, List.getElem_cons_zero, List.setIfInBounds_toArray, List.set_cons_zero, List.set_cons_succ])
          refine tkH 9 rfl ?_
          refine wpAnyH_ready (rs := [10]) (by kernel_rfl) (by simp) ?_
          refine AllReadyH.cons (o := _) rfl (fun K hK => ?_) AllReadyH.nil
          go_simp
          refine hK.out _ _ ?_ (fun hHeld => ?_)
          · exact (fun wx (h : PutK w room (.slice (some ⟨bq, off, none⟩) l.length cap) fn fd fs wx (.slice (some ⟨g5, 0, none⟩) (lo.length + 1) cap5) (lo ++ [⟨gn, gd, gs⟩])) => (show wx.cell? ⟨w.heap.size, 1, none⟩ = some (.slice (some ⟨bq, off, none⟩) l.length cap) ∧ wx.cell? ⟨bq, off + k * 3, none⟩ = some (.string gn) ∧ wx.cell? ⟨bq, off + k * 3 + 1, none⟩ = some (.string gd) ∧ wx.cell? ⟨bq, off + k * 3 + 2, none⟩ = some (.int .i64 gs) from ⟨h.x.cell 1 rfl, unhide HG0 _ h.b, unhide HG1 _ h.b, unhide HG2 _ h.b⟩)) _ (unhide K5)
          clear hK K
          (try simp only [Act.put, List.getElem_toArray, List.getElem_cons_succ, List.getElem_cons_zero, List.setIfInBounds_toArray, List.set_cons_zero, List.set_cons_succ])
          refine wpAnyH_done (by kernel_rfl) (NoPanic.normal ?_) _
          clear hHeld k7 f7 hS5 KU o1u
          go_wp2_with fail
          refine ⟨⟨k + 1, .slice (some ⟨g5, 0, none⟩) (lo.length + 1) cap5, by omega, by go_num, by rw [unhide HTK, unhide E2], ?_⟩, ?_⟩
          · rw [unhide HTK, unhide E1]; exact unhide K5
          · simp [intOf]; omega
      | false =>
        cases hb1 : bb ⟨gn, gd, gs⟩ ⟨fn, fd, fs⟩ with
        | true =>
          obtain ⟨e1, e2⟩ := po_before hp hb1
          have E1 := hide e1
          have E2 := hide e2
          have heq : (gn.toList == fn.toList) = false := by
            rw [beq_eq_false_iff_ne, ByteArray.toList_eq, ByteArray.toList_eq]
            exact bb_ne hb1
          have heq2 : (fn.toList == gn.toList) = false := by
            rw [beq_eq_false_iff_ne, ByteArray.toList_eq, ByteArray.toList_eq]
            exact Ne.symm (bb_ne hb1)
          have hless : Op.bytesLess gn.toList fn.toList = true := by
            rw [← bb_less, ByteArray.toList_eq]
            (try rw [ByteArray.toList_eq])
            exact hb1
          clear e1 e2 hp hb1 HRS
          go_upto_region 6 with fail
          go_quiet (fail)
          go_upto_region 9 with fail
          have K4 := hide ((unhide K3).below (below_drewN (Below.refl wr.heap.size wr) nq))
          clear K3 x1 c0 q0
          generalize wr.drewN nq = w4 at *
          have x1 := (unhide K4).x.cell 1 rfl
          have c0 := unhide HG0 _ (unhide K4).b
          have q0 := (unhide K4).f.cell 0 rfl
          go_quiet (fail)
          go_upto_region 10 with fail
          have K6 := hide ((unhide K4).below (below_drewN (Below.refl w4.heap.size w4) nq))
          clear K4 x1 c0 q0
          generalize w4.drewN nq = w6 at *
          have x1 := (unhide K6).x.cell 1 rfl
          have c0 := unhide HG0 _ (unhide K6).b
          have q0 := (unhide K6).f.cell 0 rfl
          generalize poF ⟨fn, fd, fs⟩ lk = lo at *
          have hd : Below w6.heap.size w6 w6.drew := below_drewN (Below.refl w6.heap.size w6) 1
          have KD := hide ((unhide K6).below hd)
          clear K6 x1 c0 q0 hd
          have HS := hide (fun wx (h : PutK w room (.slice (some ⟨bq, off, none⟩) l.length cap) fn fd fs wx sv2 lo) => (show wx.cell? ⟨w.heap.size, 1, none⟩ = some (.slice (some ⟨bq, off, none⟩) l.length cap) ∧ wx.cell? ⟨bq, off + k * 3, none⟩ = some (.string gn) ∧ wx.cell? ⟨bq, off + k * 3 + 1, none⟩ = some (.string gd) ∧ wx.cell? ⟨bq, off + k * 3 + 2, none⟩ = some (.int .i64 gs) from ⟨h.x.cell 1 rfl, unhide HG0 _ h.b, unhide HG1 _ h.b, unhide HG2 _ h.b⟩))
          refine wp_region_noPanic ?_
          refine wp_region_held_drew (S := (fun wx => wx.cell? ⟨w.heap.size, 1, none⟩ = some (.slice (some ⟨bq, off, none⟩) l.length cap) ∧ wx.cell? ⟨bq, off + k * 3, none⟩ = some (.string gn) ∧ wx.cell? ⟨bq, off + k * 3 + 1, none⟩ = some (.string gd) ∧ wx.cell? ⟨bq, off + k * 3 + 2, none⟩ = some (.int .i64 gs))) (by kernel_rfl) ?_ (fun hHeld => ?_)
          · exact unhide HS _ (unhide KD)
          generalize w6.drew = wd at *
          obtain ⟨x1, c0, c1, c2⟩ := unhide HS _ (unhide KD)
          have o1 := (unhide KD).o.cell 1 rfl
          have KU := hide ((unhide KD).below ((Below.refl wd.heap.size wd).alloc (Nat.le_refl _) (.cells #[.string gn, .string gd, .int .i64 gs] 68)))
          have o1u := (unhide KU).o.cell 1 rfl
          have hsvu := (unhide KU).o.1
          refine tkH 0 rfl ?_
          refine tkH 2 rfl ?_
          refine tkH 3 rfl ?_
          refine tkH 4 rfl ?_
          refine tkH 5 rfl ?_
          refine tkH 6 rfl ?_
          refine wpAnyH_ready (rs := [1, 7]) (by kernel_rfl) (by simp) ?_
          refine AllReadyH.cons (o := _) rfl (fun K hK => ?_) (AllReadyH.cons (o := _) rfl (fun K hK => ?_) AllReadyH.nil)
          · go_simp
            refine hK.out _ _ ?_ (fun hHeld => ?_)
            · exact ⟨x1, c0, c1, c2⟩
            clear hK K
            (try simp only [Act.put, List.getElem_toArray, List.getElem_cons_succ, List.getElem_cons_zero, List.setIfInBounds_toArray, List.set_cons_zero, List.set_cons_succ])
            refine wpAnyH_ready (rs := [7]) (by kernel_rfl) (by simp) ?_
            refine AllReadyH.cons (o := _) rfl (fun K hK => ?_) AllReadyH.nil
            go_simp
            refine hK.out _ _ ?_ (fun hHeld => ?_)
            · exact unhide HS _ (unhide KU)
            clear hK K
            (try simp only [Act.put, List.getElem_toArray, List.getElem_cons_succ, List.getElem_cons_zero, List.setIfInBounds_toArray, List.set_cons_zero, List.set_cons_succ])
            clear c0 c1 c2 x1 o1
            refine wpAnyH_ready (rs := [8]) (by kernel_rfl) (by simp) ?_
            refine AllReadyH.cons (o := _) rfl (fun K hK => ?_) AllReadyH.nil
            refine step_append_lies _ rfl _ _ _ rfl (w.heap.size + 3) 68 i0 _ 3 40 Tryz.underlying26 hi hz0 hz1 hz2 rfl (by omega) sv2 lo.length _ rfl (unhide KU).own ⟨wd.heap.size, 0, none⟩ 1 1 [_, _, _] rfl rfl (World.news_of_block (cs := #[_, _, _]) (t := 68) (fr := (0, 0)) (heap_alloc_new wd _)) (by simp [Value.oneCell']) (by omega) (by unfold maxLen; omega) (by omega) (by omega) _ rfl ?_
            intro g5 cap5 w5 hown5 hgrow5 hat5 hlt5
            have P5 := (unhide KU).push hown5 hgrow5 hat5
            have k7 := P5.1.cell 1 rfl
            have f7 := P5.1.fro 1
            have K5 := hide P5.2
            have hS5 : w5.cell? ⟨w.heap.size, 1, none⟩ = some (.slice (some ⟨bq, off, none⟩) l.length cap) ∧ w5.cell? ⟨bq, off + k * 3, none⟩ = some (.string gn) ∧ w5.cell? ⟨bq, off + k * 3 + 1, none⟩ = some (.string gd) ∧ w5.cell? ⟨bq, off + k * 3 + 2, none⟩ = some (.int .i64 gs) := by
              have hB5 : Below w.heap.size w w5 := (unhide KU).b.grown hgrow5 (unhide KU).b.size (fun r hr => by have := (World.ownsRow.lt (unhide KU).own r hr).1; omega)
              have hX5 := (unhide KU).x.kept ((Touch.refl (fun q => sv2.ownBlock = some q) _).grown hgrow5 (fun q hq _ => hq)) (fun e => by have := (World.ownsRow.lt (unhide KU).own _ e).1; omega)
              exact ⟨hX5.cell 1 rfl, unhide HG0 _ hB5, unhide HG1 _ hB5, unhide HG2 _ hB5⟩
            clear P5 hown5 hgrow5 hat5 hlt5
            refine hK.out _ _ ?_ (fun hHeld => ?_)
            · exact hS5
            clear hK K
            (try simp only [Act.put, List.getElem_toArray, List.getElem_cons_succ, List.getElem_cons_zero, List.setIfInBounds_toArray, List.set_cons_zero, List.set_cons_succ])
            refine tkH 9 rfl ?_
            refine wpAnyH_ready (rs := [10]) (by kernel_rfl) (by simp) ?_
            refine AllReadyH.cons (o := _) rfl (fun K hK => ?_) AllReadyH.nil
            go_simp
            refine hK.out _ _ ?_ (fun hHeld => ?_)
            · exact (fun wx (h : PutK w room (.slice (some ⟨bq, off, none⟩) l.length cap) fn fd fs wx (.slice (some ⟨g5, 0, none⟩) (lo.length + 1) cap5) (lo ++ [⟨gn, gd, gs⟩])) => (show wx.cell? ⟨w.heap.size, 1, none⟩ = some (.slice (some ⟨bq, off, none⟩) l.length cap) ∧ wx.cell? ⟨bq, off + k * 3, none⟩ = some (.string gn) ∧ wx.cell? ⟨bq, off + k * 3 + 1, none⟩ = some (.string gd) ∧ wx.cell? ⟨bq, off + k * 3 + 2, none⟩ = some (.int .i64 gs) from ⟨h.x.cell 1 rfl, unhide HG0 _ h.b, unhide HG1 _ h.b, unhide HG2 _ h.b⟩)) _ (unhide K5)
            clear hK K
            (try simp only [Act.put, List.getElem_toArray, List.getElem_cons_succ, List.getElem_cons_zero, List.setIfInBounds_toArray, List.set_cons_zero, List.set_cons_succ])
            refine wpAnyH_done (by kernel_rfl) (NoPanic.normal ?_) _
            clear hHeld k7 f7 hS5 KU o1u
            go_wp2_with fail
            refine ⟨⟨k + 1, .slice (some ⟨g5, 0, none⟩) (lo.length + 1) cap5, by omega, by go_num, by rw [unhide HTK, unhide E2], ?_⟩, ?_⟩
            · rw [unhide HTK, unhide E1]; exact unhide K5
            · simp [intOf]; omega
          · go_simp
            refine hK.out _ _ ?_ (fun hHeld => ?_)
            · exact unhide HS _ (unhide KU)
            clear hK K
            (try simp only [Act.put, List.getElem_toArray, List.getElem_cons_succ, List.getElem_cons_zero, List.setIfInBounds_toArray, List.set_cons_zero, List.set_cons_succ])
            refine wpAnyH_ready (rs := [1]) (by kernel_rfl) (by simp) ?_
            refine AllReadyH.cons (o := _) rfl (fun K hK => ?_) AllReadyH.nil
            go_simp
            refine hK.out _ _ ?_ (fun hHeld => ?_)
            · exact unhide HS _ (unhide KU)
            clear hK K
            (try simp only [Act.put, List.getElem_toArray, List.getElem_cons_succ, List.getElem_cons_zero, List.setIfInBounds_toArray, List.set_cons_zero, List.set_cons_succ])
            clear c0 c1 c2 x1 o1
            refine wpAnyH_ready (rs := [8]) (by kernel_rfl) (by simp) ?_
            refine AllReadyH.cons (o := _) rfl (fun K hK => ?_) AllReadyH.nil
            refine step_append_lies _ rfl _ _ _ rfl (w.heap.size + 3) 68 i0 _ 3 40 Tryz.underlying26 hi hz0 hz1 hz2 rfl (by omega) sv2 lo.length _ rfl (unhide KU).own ⟨wd.heap.size, 0, none⟩ 1 1 [_, _, _] rfl rfl (World.news_of_block (cs := #[_, _, _]) (t := 68) (fr := (0, 0)) (heap_alloc_new wd _)) (by simp [Value.oneCell']) (by omega) (by unfold maxLen; omega) (by omega) (by omega) _ rfl ?_
            intro g5 cap5 w5 hown5 hgrow5 hat5 hlt5
            have P5 := (unhide KU).push hown5 hgrow5 hat5
            have k7 := P5.1.cell 1 rfl
            have f7 := P5.1.fro 1
            have K5 := hide P5.2
            have hS5 : w5.cell? ⟨w.heap.size, 1, none⟩ = some (.slice (some ⟨bq, off, none⟩) l.length cap) ∧ w5.cell? ⟨bq, off + k * 3, none⟩ = some (.string gn) ∧ w5.cell? ⟨bq, off + k * 3 + 1, none⟩ = some (.string gd) ∧ w5.cell? ⟨bq, off + k * 3 + 2, none⟩ = some (.int .i64 gs) := by
              have hB5 : Below w.heap.size w w5 := (unhide KU).b.grown hgrow5 (unhide KU).b.size (fun r hr => by have := (World.ownsRow.lt (unhide KU).own r hr).1; omega)
              have hX5 := (unhide KU).x.kept ((Touch.refl (fun q => sv2.ownBlock = some q) _).grown hgrow5 (fun q hq _ => hq)) (fun e => by have := (World.ownsRow.lt (unhide KU).own _ e).1; omega)
              exact ⟨hX5.cell 1 rfl, unhide HG0 _ hB5, unhide HG1 _ hB5, unhide HG2 _ hB5⟩
            clear P5 hown5 hgrow5 hat5 hlt5
            refine hK.out _ _ ?_ (fun hHeld => ?_)
            · exact hS5
            clear hK K
            (try simp only [Act.put, List.getElem_toArray, List.getElem_cons_succ, List.getElem_cons_zero, List.setIfInBounds_toArray, List.set_cons_zero, List.set_cons_succ])
            refine tkH 9 rfl ?_
            refine wpAnyH_ready (rs := [10]) (by kernel_rfl) (by simp) ?_
            refine AllReadyH.cons (o := _) rfl (fun K hK => ?_) AllReadyH.nil
            go_simp
            refine hK.out _ _ ?_ (fun hHeld => ?_)
            · exact (fun wx (h : PutK w room (.slice (some ⟨bq, off, none⟩) l.length cap) fn fd fs wx (.slice (some ⟨g5, 0, none⟩) (lo.length + 1) cap5) (lo ++ [⟨gn, gd, gs⟩])) => (show wx.cell? ⟨w.heap.size, 1, none⟩ = some (.slice (some ⟨bq, off, none⟩) l.length cap) ∧ wx.cell? ⟨bq, off + k * 3, none⟩ = some (.string gn) ∧ wx.cell? ⟨bq, off + k * 3 + 1, none⟩ = some (.string gd) ∧ wx.cell? ⟨bq, off + k * 3 + 2, none⟩ = some (.int .i64 gs) from ⟨h.x.cell 1 rfl, unhide HG0 _ h.b, unhide HG1 _ h.b, unhide HG2 _ h.b⟩)) _ (unhide K5)
            clear hK K
            (try simp only [Act.put, List.getElem_toArray, List.getElem_cons_succ, List.getElem_cons_zero, List.setIfInBounds_toArray, List.set_cons_zero, List.set_cons_succ])
            refine wpAnyH_done (by kernel_rfl) (NoPanic.normal ?_) _
            clear hHeld k7 f7 hS5 KU o1u
            go_wp2_with fail
            refine ⟨⟨k + 1, .slice (some ⟨g5, 0, none⟩) (lo.length + 1) cap5, by omega, by go_num, by rw [unhide HTK, unhide E2], ?_⟩, ?_⟩
            · rw [unhide HTK, unhide E1]; exact unhide K5
            · simp [intOf]; omega
        | false =>
          by_cases hsame : nmL ⟨gn, gd, gs⟩ = nmL ⟨fn, fd, fs⟩
          · obtain ⟨e1, e2⟩ := po_same hp hsame
            have E1 := hide e1
            have E2 := hide e2
            have hgf : gn = fn := ba_inj hsame
            subst hgf
            have heq : (gn.toList == gn.toList) = true := beq_self_eq_true _
            have hless : Op.bytesLess gn.toList gn.toList = false := by
              rw [← bb_less, ByteArray.toList_eq]
              (try rw [ByteArray.toList_eq])
              exact hb1
            clear e1 e2 hp hb1 HRS hsame
            go_upto_region 6 with fail
            go_quiet (fail)
            go_upto_region 7 with fail
            have K4 := hide ((unhide K3).below (below_drewN (Below.refl wr.heap.size wr) nq))
            clear K3 x1 c0 q0
            generalize wr.drewN nq = w4 at *
            have x1 := (unhide K4).x.cell 1 rfl
            have c0 := unhide HG0 _ (unhide K4).b
            have q0 := (unhide K4).f.cell 0 rfl
            generalize poF ⟨gn, fd, fs⟩ lk = lo at *
            have KA := hide ((unhide K4).below ((Below.refl w4.heap.size w4).alloc (Nat.le_refl _) (.cells #[.string gn, .string fd, .int .i64 fs] 68)))
            have o1 := (unhide K4).o.cell 1 rfl
            have q1 := (unhide K4).f.cell 1 rfl
            have q2 := (unhide K4).f.cell 2 rfl
            clear K4
            go_wp2_with (at_builtin; refine wpList_append_lies _ rfl _ _ _ rfl (w.heap.size + 3) 68 i0 _ 3 40 Tryz.underlying26 hi hz0 hz1 hz2 rfl (by omega) sv2 lo.length _ rfl (unhide KA).own ⟨w4.heap.size, 0, none⟩ 1 1 [_, _, _] rfl rfl (World.news_of_block (cs := #[_, _, _]) (t := 68) (fr := (0, 0)) (heap_alloc_new w4 _)) (by simp [Value.oneCell']) (by omega) (by unfold maxLen; omega) (by omega) (by have := (unhide KA).o.1; omega) _ rfl ?_; intro g5 cap5 w5 hown5 hgrow5 hat5 hlt5; have P5 := (unhide KA).push hown5 hgrow5 hat5; have k7 := P5.1.cell 1 rfl; have f7 := P5.1.fro 1; have K5 := hide P5.2; clear P5 hown5 hgrow5 hat5 hlt5)
            clear KA o1 q0 q1 q2 x1 c0 k7 f7
            generalize w5.setCell ⟨w.heap.size + 4, 1, none⟩ (.slice (some ⟨g5, 0, none⟩) (lo.length + 1) cap5) = w6 at *
            have x1 := (unhide K5).x.cell 1 rfl
            have c0 := unhide HG0 _ (unhide K5).b
            have q0 := (unhide K5).f.cell 0 rfl
            go_quiet (fail)
            go_wp2_with fail
            refine ⟨⟨k + 1, .slice (some ⟨g5, 0, none⟩) (lo.length + 1) cap5, by omega, by go_num, by rw [unhide HTK, unhide E2], ?_⟩, ?_⟩
            · rw [unhide HTK, unhide E1]; exact (unhide K5).below (below_drewN (Below.refl w6.heap.size w6) _)
            · simp [intOf]; omega
          · have hb2 : bb ⟨fn, fd, fs⟩ ⟨gn, gd, gs⟩ = true := by
              rcases WideAt.bytes_total _ _ hsame with h | h
              · unfold bb at hb1; rw [h] at hb1; cases hb1
              · exact h
            obtain ⟨e1, e2⟩ := po_first hp hb2
            have E1 := hide e1
            have E2 := hide e2
            have heq : (gn.toList == fn.toList) = false := by
              rw [beq_eq_false_iff_ne, ByteArray.toList_eq, ByteArray.toList_eq]
              exact hsame
            have heq2 : (fn.toList == gn.toList) = false := by
              rw [beq_eq_false_iff_ne, ByteArray.toList_eq, ByteArray.toList_eq]
              exact Ne.symm (hsame)
            have hless : Op.bytesLess gn.toList fn.toList = false := by
              rw [← bb_less, ByteArray.toList_eq]
              (try rw [ByteArray.toList_eq])
              exact hb1
            clear e1 e2 hp hb1 hb2 HRS hsame
            go_upto_region 6 with fail
            go_quiet (fail)
            go_upto_region 7 with fail
            have K4 := hide ((unhide K3).below (below_drewN (Below.refl wr.heap.size wr) nq))
            clear K3 x1 c0 q0
            generalize wr.drewN nq = w4 at *
            have x1 := (unhide K4).x.cell 1 rfl
            have c0 := unhide HG0 _ (unhide K4).b
            have q0 := (unhide K4).f.cell 0 rfl
            generalize poF ⟨fn, fd, fs⟩ lk = lo at *
            have KA := hide ((unhide K4).below ((Below.refl w4.heap.size w4).alloc (Nat.le_refl _) (.cells #[.string fn, .string fd, .int .i64 fs] 68)))
            have o1 := (unhide K4).o.cell 1 rfl
            have q1 := (unhide K4).f.cell 1 rfl
            have q2 := (unhide K4).f.cell 2 rfl
            clear K4
            go_wp2_with (at_builtin; refine wpList_append_lies _ rfl _ _ _ rfl (w.heap.size + 3) 68 i0 _ 3 40 Tryz.underlying26 hi hz0 hz1 hz2 rfl (by omega) sv2 lo.length _ rfl (unhide KA).own ⟨w4.heap.size, 0, none⟩ 1 1 [_, _, _] rfl rfl (World.news_of_block (cs := #[_, _, _]) (t := 68) (fr := (0, 0)) (heap_alloc_new w4 _)) (by simp [Value.oneCell']) (by omega) (by unfold maxLen; omega) (by omega) (by have := (unhide KA).o.1; omega) _ rfl ?_; intro g5 cap5 w5 hown5 hgrow5 hat5 hlt5; have P5 := (unhide KA).push hown5 hgrow5 hat5; have k7 := P5.1.cell 1 rfl; have f7 := P5.1.fro 1; have K5 := hide P5.2; clear P5 hown5 hgrow5 hat5 hlt5)
            clear KA o1 q0 q1 q2 x1 c0 k7 f7
            generalize w5.setCell ⟨w.heap.size + 4, 1, none⟩ (.slice (some ⟨g5, 0, none⟩) (lo.length + 1) cap5) = w6 at *
            have x1 := (unhide K5).x.cell 1 rfl
            have c0 := unhide HG0 _ (unhide K5).b
            have q0 := (unhide K5).f.cell 0 rfl
            go_quiet (fail)
            go_upto_region 10 with fail
            have hpo9 : (lo ++ [Fl.mk fn fd fs]).length ≤ 18 := by rw [List.length_append]; simp; omega
            generalize Value.slice (some ⟨g5, 0, none⟩) (lo.length + 1) cap5 = sv3 at *
            generalize lo ++ [Fl.mk fn fd fs] = lo2 at *
            have K8 := hide ((unhide K5).below (below_drewN (Below.refl w6.heap.size w6) nq))
            clear K5 x1 c0 q0
            generalize w6.drewN nq = w8 at *
            have x1 := (unhide K8).x.cell 1 rfl
            have c0 := unhide HG0 _ (unhide K8).b
            have q0 := (unhide K8).f.cell 0 rfl
            have hd : Below w8.heap.size w8 w8.drew := below_drewN (Below.refl w8.heap.size w8) 1
            have KD := hide ((unhide K8).below hd)
            clear K8 x1 c0 q0 hd
            have HS := hide (fun wx (h : PutK w room (.slice (some ⟨bq, off, none⟩) l.length cap) fn fd fs wx sv3 lo2) => (show wx.cell? ⟨w.heap.size, 1, none⟩ = some (.slice (some ⟨bq, off, none⟩) l.length cap) ∧ wx.cell? ⟨bq, off + k * 3, none⟩ = some (.string gn) ∧ wx.cell? ⟨bq, off + k * 3 + 1, none⟩ = some (.string gd) ∧ wx.cell? ⟨bq, off + k * 3 + 2, none⟩ = some (.int .i64 gs) from ⟨h.x.cell 1 rfl, unhide HG0 _ h.b, unhide HG1 _ h.b, unhide HG2 _ h.b⟩))
            refine wp_region_noPanic ?_
            refine wp_region_held_drew (S := (fun wx => wx.cell? ⟨w.heap.size, 1, none⟩ = some (.slice (some ⟨bq, off, none⟩) l.length cap) ∧ wx.cell? ⟨bq, off + k * 3, none⟩ = some (.string gn) ∧ wx.cell? ⟨bq, off + k * 3 + 1, none⟩ = some (.string gd) ∧ wx.cell? ⟨bq, off + k * 3 + 2, none⟩ = some (.int .i64 gs))) (by kernel_rfl) ?_ (fun hHeld => ?_)
            · exact unhide HS _ (unhide KD)
            generalize w8.drew = wd at *
            obtain ⟨x1, c0, c1, c2⟩ := unhide HS _ (unhide KD)
            have o1 := (unhide KD).o.cell 1 rfl
            have KU := hide ((unhide KD).below ((Below.refl wd.heap.size wd).alloc (Nat.le_refl _) (.cells #[.string gn, .string gd, .int .i64 gs] 68)))
            have o1u := (unhide KU).o.cell 1 rfl
            have hsvu := (unhide KU).o.1
            refine tkH 0 rfl ?_
            refine tkH 2 rfl ?_
            refine tkH 3 rfl ?_
            refine tkH 4 rfl ?_
            refine tkH 5 rfl ?_
            refine tkH 6 rfl ?_
            refine wpAnyH_ready (rs := [1, 7]) (by kernel_rfl) (by simp) ?_
            refine AllReadyH.cons (o := _) rfl (fun K hK => ?_) (AllReadyH.cons (o := _) rfl (fun K hK => ?_) AllReadyH.nil)
            · go_simp
              refine hK.out _ _ ?_ (fun hHeld => ?_)
              · exact ⟨x1, c0, c1, c2⟩
              clear hK K
              (try simp only [Act.put, List.getElem_toArray, List.getElem_cons_succ, List.getElem_cons_zero, List.setIfInBounds_toArray, List.set_cons_zero, List.set_cons_succ])
              refine wpAnyH_ready (rs := [7]) (by kernel_rfl) (by simp) ?_
              refine AllReadyH.cons (o := _) rfl (fun K hK => ?_) AllReadyH.nil
              go_simp
              refine hK.out _ _ ?_ (fun hHeld => ?_)
              · exact unhide HS _ (unhide KU)
              clear hK K
              (try simp only [Act.put, List.getElem_toArray, List.getElem_cons_succ, List.getElem_cons_zero, List.setIfInBounds_toArray, List.set_cons_zero, List.set_cons_succ])
              clear c0 c1 c2 x1 o1
              refine wpAnyH_ready (rs := [8]) (by kernel_rfl) (by simp) ?_
              refine AllReadyH.cons (o := _) rfl (fun K hK => ?_) AllReadyH.nil
              refine step_append_lies _ rfl _ _ _ rfl (w.heap.size + 3) 68 i0 _ 3 40 Tryz.underlying26 hi hz0 hz1 hz2 rfl (by omega) sv3 lo2.length _ rfl (unhide KU).own ⟨wd.heap.size, 0, none⟩ 1 1 [_, _, _] rfl rfl (World.news_of_block (cs := #[_, _, _]) (t := 68) (fr := (0, 0)) (heap_alloc_new wd _)) (by simp [Value.oneCell']) (by omega) (by unfold maxLen; omega) (by omega) (by omega) _ rfl ?_
              intro g9 cap9 w9 hown5 hgrow9 hat5 hlt5
              have P5 := (unhide KU).push hown5 hgrow9 hat5
              have k7 := P5.1.cell 1 rfl
              have f7 := P5.1.fro 1
              have K9 := hide P5.2
              have hS5 : w9.cell? ⟨w.heap.size, 1, none⟩ = some (.slice (some ⟨bq, off, none⟩) l.length cap) ∧ w9.cell? ⟨bq, off + k * 3, none⟩ = some (.string gn) ∧ w9.cell? ⟨bq, off + k * 3 + 1, none⟩ = some (.string gd) ∧ w9.cell? ⟨bq, off + k * 3 + 2, none⟩ = some (.int .i64 gs) := by
                have hB5 : Below w.heap.size w w9 := (unhide KU).b.grown hgrow9 (unhide KU).b.size (fun r hr => by have := (World.ownsRow.lt (unhide KU).own r hr).1; omega)
                have hX5 := (unhide KU).x.kept ((Touch.refl (fun q => sv3.ownBlock = some q) _).grown hgrow9 (fun q hq _ => hq)) (fun e => by have := (World.ownsRow.lt (unhide KU).own _ e).1; omega)
                exact ⟨hX5.cell 1 rfl, unhide HG0 _ hB5, unhide HG1 _ hB5, unhide HG2 _ hB5⟩
              clear P5 hown5 hgrow9 hat5 hlt5
              refine hK.out _ _ ?_ (fun hHeld => ?_)
              · exact hS5
              clear hK K
              (try simp only [Act.put, List.getElem_toArray, List.getElem_cons_succ, List.getElem_cons_zero, List.setIfInBounds_toArray, List.set_cons_zero, List.set_cons_succ])
              refine tkH 9 rfl ?_
              refine wpAnyH_ready (rs := [10]) (by kernel_rfl) (by simp) ?_
              refine AllReadyH.cons (o := _) rfl (fun K hK => ?_) AllReadyH.nil
              go_simp
              refine hK.out _ _ ?_ (fun hHeld => ?_)
              · exact (fun wx (h : PutK w room (.slice (some ⟨bq, off, none⟩) l.length cap) fn fd fs wx (.slice (some ⟨g9, 0, none⟩) (lo2.length + 1) cap9) (lo2 ++ [⟨gn, gd, gs⟩])) => (show wx.cell? ⟨w.heap.size, 1, none⟩ = some (.slice (some ⟨bq, off, none⟩) l.length cap) ∧ wx.cell? ⟨bq, off + k * 3, none⟩ = some (.string gn) ∧ wx.cell? ⟨bq, off + k * 3 + 1, none⟩ = some (.string gd) ∧ wx.cell? ⟨bq, off + k * 3 + 2, none⟩ = some (.int .i64 gs) from ⟨h.x.cell 1 rfl, unhide HG0 _ h.b, unhide HG1 _ h.b, unhide HG2 _ h.b⟩)) _ (unhide K9)
              clear hK K
              (try simp only [Act.put, List.getElem_toArray, List.getElem_cons_succ, List.getElem_cons_zero, List.setIfInBounds_toArray, List.set_cons_zero, List.set_cons_succ])
              refine wpAnyH_done (by kernel_rfl) (NoPanic.normal ?_) _
              clear hHeld k7 f7 hS5 KU o1u
              go_wp2_with fail
              refine ⟨⟨k + 1, .slice (some ⟨g9, 0, none⟩) (lo2.length + 1) cap9, by omega, by go_num, by rw [unhide HTK, unhide E2], ?_⟩, ?_⟩
              · rw [unhide HTK, unhide E1]; exact unhide K9
              · simp [intOf]; omega
            · go_simp
              refine hK.out _ _ ?_ (fun hHeld => ?_)
              · exact unhide HS _ (unhide KU)
              clear hK K
              (try simp only [Act.put, List.getElem_toArray, List.getElem_cons_succ, List.getElem_cons_zero, List.setIfInBounds_toArray, List.set_cons_zero, List.set_cons_succ])
              refine wpAnyH_ready (rs := [1]) (by kernel_rfl) (by simp) ?_
              refine AllReadyH.cons (o := _) rfl (fun K hK => ?_) AllReadyH.nil
              go_simp
              refine hK.out _ _ ?_ (fun hHeld => ?_)
              · exact unhide HS _ (unhide KU)
              clear hK K
              (try simp only [Act.put, List.getElem_toArray, List.getElem_cons_succ, List.getElem_cons_zero, List.setIfInBounds_toArray, List.set_cons_zero, List.set_cons_succ])
              clear c0 c1 c2 x1 o1
              refine wpAnyH_ready (rs := [8]) (by kernel_rfl) (by simp) ?_
              refine AllReadyH.cons (o := _) rfl (fun K hK => ?_) AllReadyH.nil
              refine step_append_lies _ rfl _ _ _ rfl (w.heap.size + 3) 68 i0 _ 3 40 Tryz.underlying26 hi hz0 hz1 hz2 rfl (by omega) sv3 lo2.length _ rfl (unhide KU).own ⟨wd.heap.size, 0, none⟩ 1 1 [_, _, _] rfl rfl (World.news_of_block (cs := #[_, _, _]) (t := 68) (fr := (0, 0)) (heap_alloc_new wd _)) (by simp [Value.oneCell']) (by omega) (by unfold maxLen; omega) (by omega) (by omega) _ rfl ?_
              intro g9 cap9 w9 hown5 hgrow9 hat5 hlt5
              have P5 := (unhide KU).push hown5 hgrow9 hat5
              have k7 := P5.1.cell 1 rfl
              have f7 := P5.1.fro 1
              have K9 := hide P5.2
              have hS5 : w9.cell? ⟨w.heap.size, 1, none⟩ = some (.slice (some ⟨bq, off, none⟩) l.length cap) ∧ w9.cell? ⟨bq, off + k * 3, none⟩ = some (.string gn) ∧ w9.cell? ⟨bq, off + k * 3 + 1, none⟩ = some (.string gd) ∧ w9.cell? ⟨bq, off + k * 3 + 2, none⟩ = some (.int .i64 gs) := by
                have hB5 : Below w.heap.size w w9 := (unhide KU).b.grown hgrow9 (unhide KU).b.size (fun r hr => by have := (World.ownsRow.lt (unhide KU).own r hr).1; omega)
                have hX5 := (unhide KU).x.kept ((Touch.refl (fun q => sv3.ownBlock = some q) _).grown hgrow9 (fun q hq _ => hq)) (fun e => by have := (World.ownsRow.lt (unhide KU).own _ e).1; omega)
                exact ⟨hX5.cell 1 rfl, unhide HG0 _ hB5, unhide HG1 _ hB5, unhide HG2 _ hB5⟩
              clear P5 hown5 hgrow9 hat5 hlt5
              refine hK.out _ _ ?_ (fun hHeld => ?_)
              · exact hS5
              clear hK K
              (try simp only [Act.put, List.getElem_toArray, List.getElem_cons_succ, List.getElem_cons_zero, List.setIfInBounds_toArray, List.set_cons_zero, List.set_cons_succ])
              refine tkH 9 rfl ?_
              refine wpAnyH_ready (rs := [10]) (by kernel_rfl) (by simp) ?_
              refine AllReadyH.cons (o := _) rfl (fun K hK => ?_) AllReadyH.nil
              go_simp
              refine hK.out _ _ ?_ (fun hHeld => ?_)
              · exact (fun wx (h : PutK w room (.slice (some ⟨bq, off, none⟩) l.length cap) fn fd fs wx (.slice (some ⟨g9, 0, none⟩) (lo2.length + 1) cap9) (lo2 ++ [⟨gn, gd, gs⟩])) => (show wx.cell? ⟨w.heap.size, 1, none⟩ = some (.slice (some ⟨bq, off, none⟩) l.length cap) ∧ wx.cell? ⟨bq, off + k * 3, none⟩ = some (.string gn) ∧ wx.cell? ⟨bq, off + k * 3 + 1, none⟩ = some (.string gd) ∧ wx.cell? ⟨bq, off + k * 3 + 2, none⟩ = some (.int .i64 gs) from ⟨h.x.cell 1 rfl, unhide HG0 _ h.b, unhide HG1 _ h.b, unhide HG2 _ h.b⟩)) _ (unhide K9)
              clear hK K
              (try simp only [Act.put, List.getElem_toArray, List.getElem_cons_succ, List.getElem_cons_zero, List.setIfInBounds_toArray, List.set_cons_zero, List.set_cons_succ])
              refine wpAnyH_done (by kernel_rfl) (NoPanic.normal ?_) _
              clear hHeld k7 f7 hS5 KU o1u
              go_wp2_with fail
              refine ⟨⟨k + 1, .slice (some ⟨g9, 0, none⟩) (lo2.length + 1) cap9, by omega, by go_num, by rw [unhide HTK, unhide E2], ?_⟩, ?_⟩
              · rw [unhide HTK, unhide E1]; exact unhide K9
              · simp [intOf]; omega
    · obtain rfl : k = l.length := by omega
      have HE := hide (po_end ⟨fn, fd, fs⟩ l)
      rw [List.take_length] at K3 ⊢
      clear hK
      have hpo8 : (poF ⟨fn, fd, fs⟩ l).length ≤ 17 := by
        unfold poF
        have h1 := List.length_filter_le (fun g => bb g ⟨fn, fd, fs⟩) l
        have h2 := List.length_filter_le (fun g => bb ⟨fn, fd, fs⟩ g) l
        rw [List.length_append]
        split
        · rw [List.length_cons]; omega
        · rw [List.length_nil]; omega
      generalize poF ⟨fn, fd, fs⟩ l = lo at *
      cases hp : plF ⟨fn, fd, fs⟩ l with
      | true =>
        have E := hide ((unhide HE).trans (by rw [if_pos hp, List.append_nil]))
        clear HE hp
        obtain ⟨a2, c2, rfl, _⟩ := (unhide K3).own.fls
        go_upto_region 13 with fail
        clear x1
        have hT := ((Touch.refl (fun q => q = w.heap.size + 1 + 1) wr).setCell ⟨w.heap.size + 1 + 1, 0, none⟩ (.int .i64 room) (fun _ => rfl)).setCell ⟨w.heap.size + 1 + 1, 1, none⟩ (.slice a2 lo.length c2) (fun _ => rfl)
        have HY := hide (((unhide K3).d.set 0 (.int .i64 room) (by simp)).set 1 (.slice a2 lo.length c2) (by simp))
        have HK := hide ((unhide K3).b.trans (hT.below (unhide K3).b.size (fun q hq e => by omega)))
        have HO := hide ((unhide K3).own.kept hT (fun q hq e => by have := (World.ownsRow.lt (unhide K3).own q hq).1; omega))
        obtain ⟨⟨d0, d1⟩, g0, g1⟩ := Blk.c2 (unhide K3).d
        have o0 := (unhide K3).o.cell 0 rfl
        have o1 := (unhide K3).o.cell 1 rfl
        clear K3 hT
        go_wp2_with fail
        obtain ⟨⟨z0, z1⟩, _⟩ := Blk.c2 (unhide HY)
        refine bodyPost_ret (v := .agg #[.int .i64 room, .slice a2 lo.length c2]) (by simp [results, Tryz.results61, go_sem, z0, z1]) rfl ?_
        rw [unhide E]
        exact ⟨a2, c2, rfl, World.ownsRow.mono (unhide HO) (by omega), unhide HK⟩
      | false =>
        have E := hide ((unhide HE).trans (by rw [if_neg (by rw [hp]; decide)]))
        clear HE hp
        go_upto_region 12 with fail
        have KA := hide ((unhide K3).below ((Below.refl wr.heap.size wr).alloc (Nat.le_refl _) (.cells #[.string fn, .string fd, .int .i64 fs] 68)))
        have o1 := (unhide K3).o.cell 1 rfl
        have q0 := (unhide K3).f.cell 0 rfl
        have q1 := (unhide K3).f.cell 1 rfl
        have q2 := (unhide K3).f.cell 2 rfl
        clear K3 x1
        go_upto_region 13 with (at_builtin; refine wpList_append_lies _ rfl _ _ _ rfl (w.heap.size + 3) 68 i0 _ 3 40 Tryz.underlying26 hi hz0 hz1 hz2 rfl (by omega) sv lo.length _ rfl (unhide KA).own ⟨wr.heap.size, 0, none⟩ 1 1 [_, _, _] rfl rfl (World.news_of_block (cs := #[_, _, _]) (t := 68) (fr := (0, 0)) (heap_alloc_new wr _)) (by simp [Value.oneCell']) (by omega) (by unfold maxLen; omega) (by omega) (by have := (unhide KA).o.1; omega) _ rfl ?_; intro g5 cap5 w5 hown5 hgrow5 hat5 hlt5; have P5 := (unhide KA).push hown5 hgrow5 hat5; have k7 := P5.1.cell 1 rfl; have f7 := P5.1.fro 1; have K5 := hide P5.2; clear P5 hown5 hgrow5 hat5 hlt5)
        clear KA o1 q0 q1 q2 k7 f7
        generalize w5.setCell ⟨w.heap.size + 4, 1, none⟩ (.slice (some ⟨g5, 0, none⟩) (lo.length + 1) cap5) = w6 at *
        have hT := ((Touch.refl (fun q => q = w.heap.size + 1 + 1) w6).setCell ⟨w.heap.size + 1 + 1, 0, none⟩ (.int .i64 room) (fun _ => rfl)).setCell ⟨w.heap.size + 1 + 1, 1, none⟩ (.slice (some ⟨g5, 0, none⟩) (lo.length + 1) cap5) (fun _ => rfl)
        have HY := hide (((unhide K5).d.set 0 (.int .i64 room) (by simp)).set 1 (.slice (some ⟨g5, 0, none⟩) (lo.length + 1) cap5) (by simp))
        have HK := hide ((unhide K5).b.trans (hT.below (unhide K5).b.size (fun q hq e => by omega)))
        have HO := hide ((unhide K5).own.kept hT (fun q hq e => by have := (World.ownsRow.lt (unhide K5).own q hq).1; omega))
        obtain ⟨⟨d0, d1⟩, g0, g1⟩ := Blk.c2 (unhide K5).d
        have o0 := (unhide K5).o.cell 0 rfl
        have o1 := (unhide K5).o.cell 1 rfl
        clear K5 hT
        go_wp2_with fail
        obtain ⟨⟨z0, z1⟩, _⟩ := Blk.c2 (unhide HY)
        refine bodyPost_ret (v := .agg #[.int .i64 room, .slice (some ⟨g5, 0, none⟩) (lo.length + 1) cap5]) (by simp [results, Tryz.results61, go_sem, z0, z1]) rfl ?_
        rw [unhide E, List.length_append]
        exact ⟨_, _, rfl, World.ownsRow.mono (unhide HO) (by omega), unhide HK⟩
end Go.Proofs.YtfihhkhdigbmiaaGreatDoor
