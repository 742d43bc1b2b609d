/- The segments of a disk's files: impl.segmentsOf. -/
import Derived.Test.YtfihhkhdigbmiaaGreatDoorLgP
import Derived.Laws.IdiomStrings
namespace Go.Proofs.YtfihhkhdigbmiaaGreatDoor
open Go.ChangeShapes Go.WideShapes Go.ChangeAt Go.RowKit
set_option linter.unusedVariables false

theorem own_apart2 {w : World} {B B' s s' n n' : Nat} {e e' : TypeId} {v v' : Value} {xs xs' : List Value} (h : w.ownsRow B e s v n xs) (h' : w.ownsRow B' e' s' v' n' xs') (hne : e ≠ e') : ∀ k, v.ownBlock = some k → v'.ownBlock ≠ some k := by
  intro k hk hk'
  rcases h.2 with ⟨rfl, _⟩ | ⟨g, cap, cur, rfl, _, hg, _⟩
  · cases hk
  · rcases h'.2 with ⟨rfl, _⟩ | ⟨g', cap', cur', rfl, _, hg', _⟩
    · cases hk'
    · cases hk
      have : g' = g := by simpa [Value.ownBlock] using hk'
      subst this
      rw [hg] at hg'
      simp only [Option.some.injEq, Obj.cells.injEq] at hg'
      exact hne hg'.2.1
/-- A text's bytes in a block of their own. -/
theorem str_bytes (s : ByteArray) (w : World) (hs : s.size ≤ maxLen) : ∃ cap w1, (convert 9 79 (.string s)).run Tryz.prog w = .ok (.slice (some ⟨w.heap.size, 0, none⟩) (bytesI s).length cap) w1 ∧ RdV w1 w1.heap.size (.slice (some ⟨w.heap.size, 0, none⟩) (bytesI s).length cap) (bytesI s) ∧ Below w.heap.size w w1 := by
  refine ⟨grownCap w s.size 0 5, _, by rw [run_bytes_of_string w 9 79 5 s Tryz.underlying9 Tryz.underlying79 Tryz.underlying5, bytesI_len2], ?_, ?_⟩
  · refine ⟨_, _, rfl, by rw [bytesI_len2]; exact grownCap_ge _ _ _ _, grownCap_le_maxLen _ _ _ _ hs, .inr ⟨w.heap.size, 0, rfl, by simp, fun i hi => ?_⟩, bytesI_range s⟩
    rw [bytesI_len2] at hi
    have hb : (w.drew.alloc (.cells (bytesRow s (grownCap w s.size 0 5)) 5 ((bytesRow s (grownCap w s.size 0 5)).size, (bytesRow s (grownCap w s.size 0 5)).size + 1))).heap[w.heap.size]? = some (.cells (bytesRow s (grownCap w s.size 0 5)) 5 ((bytesRow s (grownCap w s.size 0 5)).size, (bytesRow s (grownCap w s.size 0 5)).size + 1)) := heap_alloc_new w.drew _
    rw [Nat.zero_add, cell_of_row _ _ _ _ _ _ hb]
    have hi' : i < s.data.size := hi
    unfold bytesRow bytesI
    rw [Array.getElem?_append_left (by simpa using hi')]
    rw [Array.getElem?_map, Array.getElem?_eq_getElem hi', List.getD_eq_getElem?_getD, List.getElem?_map, Array.getElem?_toList, Array.getElem?_eq_getElem hi']
    rfl
  · exact ((Below.refl _ _).drew).alloc (Nat.le_refl _) _
def sgC (x : Fl × Value) : List Value := [.string x.1.n, .int .i64 (x.1.d.size : Int), x.2, .int .i64 ((frF x.1).2.1 : Int), .int .i64 (frF x.1).2.2]
/-- A slice of the call's own that holds these segments, each with its frames. -/
def OwnG (B : Nat) (w : World) (v : Value) (xs : List (Fl × Value)) : Prop :=
  w.ownsRow B 50 5 v xs.length (xs.flatMap sgC) ∧ ∀ x ∈ xs, OwnS B w x.2 ((frF x.1).1.map strOfNums)
theorem OwnG.nil (B : Nat) (w : World) : OwnG B w (.slice none 0 0) [] := ⟨World.ownsRow_nil w B 50 5, fun x hx => by cases hx⟩
theorem OwnG.below {B : Nat} {w w' : World} {v : Value} {xs : List (Fl × Value)} (h : OwnG B w v xs) (hb : Below w.heap.size w w') : OwnG B w' v xs :=
  ⟨own_kept (T := fun _ => False) h.1 (Touch.ofBelow hb) (fun _ _ h => h), fun x hx => (h.2 x hx).below hb⟩
theorem OwnS.oneCell {B : Nat} {w : World} {v : Value} {l : List ByteArray} (h : OwnS B w v l) : v.oneCell' = true := by
  rcases own_shape h with ⟨rfl, _⟩ | ⟨g, cap, rfl, _⟩ <;> rfl
theorem OwnS.mono {B B' : Nat} {w : World} {v : Value} {l : List ByteArray} (h : OwnS B w v l) (hB : B' ≤ B) : OwnS B' w v l := World.ownsRow.mono h hB
theorem OwnG.pushed {B g cap : Nat} {w w' : World} {v fv : Value} {xs : List (Fl × Value)} {f : Fl} (h : OwnG B w v xs) (hf : OwnS B w fv ((frF f).1.map strOfNums))
    (h1 : w'.ownsRow B 50 5 (.slice (some ⟨g, 0, none⟩) (xs.length + 1) cap) (xs.length + 1) (xs.flatMap sgC ++ sgC (f, fv))) (hg : w.grownBy w' v.ownBlock) : OwnG B w' (.slice (some ⟨g, 0, none⟩) (xs.length + 1) cap) (xs ++ [(f, fv)]) := by
  refine ⟨by simpa using h1, fun x hx => ?_⟩
  have hx2 : OwnS B w x.2 ((frF x.1).1.map strOfNums) := by
    rcases List.mem_append.1 hx with hx | hx
    · exact h.2 x hx
    · simp only [List.mem_singleton] at hx; subst hx; exact hf
  refine hx2.kept (T := fun k => v.ownBlock = some k) ⟨hg.os, hg.tape, hg.output, hg.size, fun k hk hn => hg.block k hk (fun e => hn e.symm)⟩ (fun k hk hv => own_apart2 hx2 h.1 (by decide) k hk hv)
theorem segsP_next (l : List Fl) (k : Nat) (h : k < l.length) : segsP (l.take (k + 1)) = segsP (l.take k) ++ (if 0 < plcP (l.getD k default).n then [l.getD k default] else []) := by
  unfold segsP
  rw [List.take_add_one, List.filter_append, List.getElem?_eq_getElem h, List.getD_eq_getElem?_getD, List.getElem?_eq_getElem h]
  simp [List.filter_cons]
theorem infoG : (Tryz.prog.info? 50).map (fun i => (i.zero, i.size, i.bytes)) = some (some (.agg #[.string ⟨#[]⟩, .int .i64 0, .slice none 0 0, .int .i64 0, .int .i64 0]), 5, 64) := by kernel_rfl

set_option maxRecDepth 100000 in
set_option maxHeartbeats 4000000 in
theorem segmentsOf_any (v : Value) (l : List Fl) (w : World) (h : Fls w v l) (hl : l.length ≤ 8) (hs : ∀ i, i < l.length → (l.getD i default).n.size ≤ 1048576 ∧ (l.getD i default).d.size ≤ 3000) :
    Calls Tryz.prog 20 #[v] w fun e w' => ∃ gv xs, e = .returned gv ∧ xs.map Prod.fst = segsP l ∧ OwnG w.heap.size w' gv xs ∧ Below w.heap.size w w' := by
  obtain ⟨i0, hi, hz0, hz1, hz2⟩ := info_parts infoG
  obtain ⟨a, cap, rfl, hn, hm, hc⟩ := h
  have HC := hide hc
  have HS := hide hs
  clear hc hs
  go_enter Tryz.func20, Tryz.ntmps20
  go_wp2_with fail
  go_loopw [3, 11] (fun lv i wr => ∃ (k : Nat) (xs : List (Fl × Value)), k ≤ l.length ∧ i = .int .i64 k ∧ xs.map Prod.fst = segsP (l.take k) ∧ OwnG w.heap.size wr lv xs ∧ Below w.heap.size w wr) (fun _ i _ => l.length - (intOf i).toNat)
  case atStart => exact ⟨0, [], Nat.zero_le _, rfl, by simp [segsP], OwnG.nil _ _, Below.refl _ _⟩
  case round =>
    obtain ⟨k, xs, hk, rfl, hxs, hG, hb⟩ := hrel
    have HG := hide hG
    have HXS := hide hxs
    have hxl : xs.length ≤ 8 := by
      have h1 := congrArg List.length hxs
      rw [List.length_map] at h1
      have h2 := List.length_filter_le (fun f : Fl => decide (0 < plcP f.n)) (l.take k)
      have h3 : (l.take k).length ≤ k := by rw [List.length_take]; omega
      unfold segsP at h1
      omega
    clear hG hxs
    by_cases hlt : k < l.length
    · obtain ⟨b, off, rfl, hbl, hsrc⟩ : ∃ b off, a = some ⟨b, off, none⟩ ∧ b < w.heap.size ∧ ∀ i, i < l.length → w.cell? ⟨b, off + i * 3, none⟩ = some (.string (l.getD i default).n) ∧ w.cell? ⟨b, off + i * 3 + 1, none⟩ = some (.string (l.getD i default).d) ∧ w.cell? ⟨b, off + i * 3 + 2, none⟩ = some (.int .i64 (l.getD i default).s) := by
        rcases unhide HC with h0 | h1
        · omega
        · exact h1
      obtain ⟨s0, s1, s2⟩ := hsrc k hlt
      have c0 := (hb.cell (p := ⟨b, off + k * 3, none⟩) hbl).trans s0
      have c1 := (hb.cell (p := ⟨b, off + k * 3 + 1, none⟩) hbl).trans s1
      have c2 := (hb.cell (p := ⟨b, off + k * 3 + 2, none⟩) hbl).trans s2
      have hk0 : (0 : Int) ≤ (k : Int) := by omega
      have hk1 : (k : Int) < (l.length : Int) := by omega
      have hbs := hb.size
      have HB := hide hb
      obtain ⟨hns, hds⟩ := unhide HS k hlt
      have HNX := hide (segsP_next l k hlt)
      clear hsrc s0 s1 s2 hb
      generalize hf : l.getD k default = f at *
      obtain ⟨fn, fd, fs⟩ := f
      have HFF := hide hf
      clear hf
      dsimp only at c0 c1 c2 hns hds HNX
      have B1 := hide ((unhide HB).alloc hbs (.cells #[.string fn, .string fd, .int .i64 fs] 68))
      have X1 := hide (Blk.new wr #[.string fn, .string fd, .int .i64 fs] 68 wr.heap.size rfl)
      have G1 := hide ((unhide HG).below ((Below.refl wr.heap.size wr).alloc (Nat.le_refl _) (.cells #[.string fn, .string fd, .int .i64 fs] 68)))
      go_wp2_with fail
      clear c0 c1 c2
      generalize wr.alloc (.cells #[.string fn, .string fd, .int .i64 fs] 68) = w1 at *
      generalize wr.heap.size = fb at *
      refine (segmentPlace_any fn w1 hns).mono ?_
      rintro e w2 ⟨rfl, n2, rfl⟩
      have B2 := hide (below_drewN (unhide B1) n2)
      have X2 := hide ((unhide X1).drewN n2)
      have G2 := hide ((unhide G1).below (below_drewN (Below.refl _ w1) n2))
      clear B1 X1 G1
      generalize w1.drewN n2 = w2 at *
      have d0 := (unhide X2).cell 0 rfl
      have d1 := (unhide X2).cell 1 rfl
      by_cases hp : 0 < plcP fn
      · have HIF := hide (show (if 0 < plcP fn then [Fl.mk fn fd fs] else []) = [⟨fn, fd, fs⟩] from if_pos hp)
        generalize plcP fn = pl at *
        obtain ⟨cap3, w3, hcv, hRd3, hb3⟩ := str_bytes fd w2 (by unfold maxLen; omega)
        have HRd := hide hRd3
        have B3 := hide ((unhide B2).trans (hb3.mono (unhide B2).size))
        have X3 := hide ((unhide X2).below hb3)
        have G3 := hide ((unhide G2).below hb3)
        go_wp2_with fail
        clear hcv hRd3 hb3 B2 X2 G2 d0 d1
        refine (implReadFrames_any _ _ (bytesI fd) w3 (unhide HRd)).mono ?_
        rintro e w4 ⟨dv, rfl, hO4, hb4⟩
        have hro : rfOut (bytesI fd) = frF ⟨fn, fd, fs⟩ := rfOut_small (f := ⟨fn, fd, fs⟩) (by show fd.size ≤ 65536; omega)
        rw [hro] at hO4 ⊢
        have B4 := hide ((unhide B3).trans (hb4.mono (unhide B3).size))
        have X4 := hide ((unhide X3).below hb4)
        have G4 := hide ((unhide G3).below hb4)
        have O4 : Hid (OwnS w.heap.size w4 dv ((frF ⟨fn, fd, fs⟩).1.map strOfNums)) := hide (OwnS.mono hO4 (unhide B3).size)
        obtain ⟨da, dn, dc, rfl⟩ : ∃ da dn dc, dv = .slice da dn dc := by
          rcases own_shape hO4 with ⟨h, _⟩ | ⟨g, c, h, _⟩
          · exact ⟨_, _, _, h⟩
          · exact ⟨_, _, _, h⟩
        have B4s := (unhide B4).size
        clear hb4 hO4 B3 X3 G3 HRd hro
        obtain ⟨wh, hwh⟩ : ∃ wh : Nat, wh = (frF ⟨fn, fd, fs⟩).2.1 := ⟨_, rfl⟩
        obtain ⟨bh, hbh⟩ : ∃ bh : Int, bh = (frF ⟨fn, fd, fs⟩).2.2 := ⟨_, rfl⟩
        rw [← hwh, ← hbh]
        have HWB := hide (And.intro hwh hbh)
        clear hwh hbh
        have d0 := (unhide X4).cell 0 rfl
        have d1 := (unhide X4).cell 1 rfl
        have G4a := hide ((unhide G4).below ((Below.refl w4.heap.size w4).alloc (Nat.le_refl _) (.cells #[.string fn, .int .i64 (fd.size : Int), .slice da dn dc, .int .i64 (wh : Int), .int .i64 bh] 50)))
        have O4a := hide ((unhide O4).below ((Below.refl w4.heap.size w4).alloc (Nat.le_refl _) (.cells #[.string fn, .int .i64 (fd.size : Int), .slice da dn dc, .int .i64 (wh : Int), .int .i64 bh] 50)))
        have B4a := hide ((unhide B4).alloc B4s (.cells #[.string fn, .int .i64 (fd.size : Int), .slice da dn dc, .int .i64 (wh : Int), .int .i64 bh] 50))
        clear B4 X4 G4 O4
        go_wp2_with (at_builtin; refine wpList_append_lies _ rfl _ _ _ rfl w.heap.size 50 i0 _ 5 64 Tryz.underlying41 hi hz0 hz1 hz2 rfl (by omega) u3 xs.length _ rfl (unhide G4a).1 ⟨w4.heap.size, 0, none⟩ 1 1 [_, _, _, _, _] rfl rfl (World.news_of_block (cs := #[_, _, _, _, _]) (t := 50) (fr := (0, 0)) (heap_alloc_new w4 _)) (by simp [Value.oneCell']) (by omega) (by unfold maxLen; omega) (by omega) (by simp; omega) _ rfl ?_; intro g5 cap5 w5 hown5 hgrow5 hat5 hlt5; have P5 := (unhide G4a).pushed (f := ⟨fn, fd, fs⟩) (fv := .slice da dn dc) (unhide O4a) (by rw [(unhide HWB).1, (unhide HWB).2] at hown5; exact hown5) hgrow5; have R5 := hide (And.intro P5 ((unhide B4a).grown hgrow5 (by simp; omega) (fun r hr => (World.ownsRow.lt (unhide G4a).1 r hr).1))); clear P5 hown5 hgrow5 hat5 hlt5)
        refine ⟨⟨k + 1, xs ++ [(⟨fn, fd, fs⟩, .slice da dn dc)], by omega, by go_num, ?_, (unhide R5).1, (unhide R5).2⟩, ?_⟩
        · rw [unhide HNX, unhide HIF, List.map_append, unhide HXS]; rfl
        · simp [intOf]; omega
      · generalize hpl : plcP fn = pl at *
        go_wp2_with fail
        refine ⟨⟨k + 1, xs, by omega, by go_num, ?_, unhide G2, unhide B2⟩, ?_⟩
        · rw [unhide HNX, if_neg (Int.not_lt.2 hp), List.append_nil]; exact unhide HXS
        · simp [intOf]; omega
    · obtain rfl : k = l.length := by omega
      have HB := hide hb
      clear hb
      go_wp2_with fail
      go_ret
      refine ⟨_, xs, rfl, ?_, unhide HG, unhide HB⟩
      have := unhide HXS
      rwa [List.take_length] at this
end Go.Proofs.YtfihhkhdigbmiaaGreatDoor
