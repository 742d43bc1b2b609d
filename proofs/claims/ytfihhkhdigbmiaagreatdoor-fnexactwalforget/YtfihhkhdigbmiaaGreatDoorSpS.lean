/- The specification's segments: spec.l04Segments, spec.l03Find, spec.l04Data. -/
import Derived.Test.YtfihhkhdigbmiaaGreatDoorLgP
import Derived.Test.YtfihhkhdigbmiaaGreatDoorStrO
import Derived.Deep.RegionHeld3
namespace Go.Proofs.YtfihhkhdigbmiaaGreatDoor
open Go.ChangeShapes Go.WideShapes Go.ChangeAt Go.RowKit
set_option linter.unusedVariables false
set_option linter.unusedSimpArgs false

/-- Numbers in a slice of the call's own. -/
def OwnN (B : Nat) (w : World) (v : Value) (l : List Int) : Prop := w.ownsRow B 3 1 v l.length (l.map (Value.int .i64))
theorem OwnN.below {B : Nat} {w w' : World} {v : Value} {l : List Int} (h : OwnN B w v l) (hb : Below w.heap.size w w') : OwnN B w' v l := own_kept (T := fun _ => False) h (Touch.ofBelow hb) (fun _ _ h => h)
theorem OwnN.cell {B : Nat} {w : World} {g cap n : Nat} {l : List Int} (h : OwnN B w (.slice (some ⟨g, 0, none⟩) n cap) l) (i : Nat) (hi : i < l.length) : w.cell? ⟨g, i, none⟩ = some (.int .i64 (l.getD i 0)) := by
  have hn : n = l.length := by
    rcases h.2 with ⟨hv, _⟩ | ⟨g', cap', cur, hv, _⟩
    · cases hv
    · cases hv; rfl
  subst hn
  rw [h.cellAt i (by omega)]
  simp [List.getD, hi]
theorem infoN : (Tryz.prog.info? 3).map (fun i => (i.zero, i.size, i.bytes)) = some (some (.int .i64 0), 1, 8) := by kernel_rfl
def numsP (l : List Fl) : List Int := (segsP l).map fun f => plcP f.n
theorem segsP_next2 (l : List Fl) (k : Nat) (h : k < l.length) : segsP (l.take (k + 1)) = segsP (l.take k) ++ (if 0 < plcP (l.getD k default).n then [l.getD k default] else []) := by
  unfold segsP
  rw [List.take_add_one, List.filter_append, List.getElem?_eq_getElem h, List.getD_eq_getElem?_getD, List.getElem?_eq_getElem h]
  simp [List.filter_cons]
theorem segsP_len (l : List Fl) (k : Nat) (hl : l.length ≤ 8) : (segsP (l.take k)).length ≤ 8 := by
  have h2 := List.length_filter_le (fun f : Fl => decide (0 < plcP f.n)) (l.take k)
  have h3 : (l.take k).length ≤ l.length := by rw [List.length_take]; omega
  unfold segsP
  omega

set_option maxRecDepth 100000 in
set_option maxHeartbeats 4000000 in
theorem l04Segments_any (room : Int) (v : Value) (l : List Fl) (w : World) (h : Fls w v l) (hl : l.length ≤ 8) (hs : ∀ i, i < l.length → (l.getD i default).n.size ≤ 1048576) :
    Calls Tryz.prog 34 #[.agg #[.int .i64 room, v]] w fun e w' => ∃ nv, e = .returned nv ∧ OwnN w.heap.size w' nv (numsP l) ∧ Below w.heap.size w w' := by
  obtain ⟨i0, hi, hz0, hz1, hz2⟩ := info_parts infoN
  obtain ⟨a, cap, rfl, hn, hm, hc⟩ := h
  have HC := hide hc
  have HS := hide hs
  clear hc hs
  have B0 := hide ((Below.refl w.heap.size w).alloc (Nat.le_refl _) (.cells #[.int .i64 room, .slice a l.length cap] 28))
  have X0 := hide (Blk.new w #[.int .i64 room, .slice a l.length cap] 28 w.heap.size rfl)
  go_enter Tryz.func34, Tryz.ntmps34
  go_wp2_with fail
  have B1 := hide ((unhide B0).alloc (unhide B0).size (.cells #[] 3))
  have X1 := hide ((unhide X0).alloc (.cells #[] 3))
  have O1 : Hid (OwnN (w.heap.size + 1) ((w.alloc (.cells #[.int .i64 room, .slice a l.length cap] 28)).alloc (.cells #[] 3)) (.slice (some ⟨w.heap.size + 1, 0, none⟩) 0 0) []) := hide ⟨rfl, .inr ⟨w.heap.size + 1, 0, #[], rfl, by omega, by rw [show w.heap.size + 1 = (w.alloc (.cells #[.int .i64 room, .slice a l.length cap] 28)).heap.size by simp]; exact heap_alloc_new _ _, Nat.le_refl _, by unfold maxLen; omega, rfl, rfl⟩⟩
  clear B0 X0
  generalize (w.alloc (.cells #[.int .i64 room, .slice a l.length cap] 28)).alloc (.cells #[] 3) = w1 at *
  go_loopw [3, 4] (fun lv i wr => ∃ k : Nat, k ≤ l.length ∧ i = .int .i64 k ∧ OwnN (w.heap.size + 1) wr lv (numsP (l.take k)) ∧ Blk wr w.heap.size [.int .i64 room, .slice a l.length cap] ∧ Below w.heap.size w wr ∧ True) (fun _ i _ => l.length - (intOf i).toNat)
  case atStart => exact ⟨0, Nat.zero_le _, rfl, by simpa [numsP, segsP] using unhide O1, unhide X1, unhide B1, trivial⟩
  case round =>
    obtain ⟨k, hk, rfl, hO, hX, hb, hT⟩ := hrel
    have HO := hide hO
    have HX := hide hX
    have x1 := hX.cell 1 rfl
    have hbs := hb.size
    clear hO hX
    by_cases hlt : k < l.length
    · obtain ⟨b, off, rfl, hbl, hsrc⟩ : ∃ b off, a = some ⟨b, off, none⟩ ∧ b < w.heap.size ∧ ∀ i, i < l.length → w.cell? ⟨b, off + i * 3, none⟩ = some (.string (l.getD i default).n) ∧ w.cell? ⟨b, off + i * 3 + 1, none⟩ = some (.string (l.getD i default).d) ∧ w.cell? ⟨b, off + i * 3 + 2, none⟩ = some (.int .i64 (l.getD i default).s) := by
        rcases unhide HC with h0 | h1
        · omega
        · exact h1
      obtain ⟨s0, s1, s2⟩ := hsrc k hlt
      have c0 := (hb.cell (p := ⟨b, off + k * 3, none⟩) hbl).trans s0
      have hk0 : (0 : Int) ≤ (k : Int) := by omega
      have hk1 : (k : Int) < (l.length : Int) := by omega
      have hns := unhide HS k hlt
      have HNX := hide (segsP_next2 l k hlt)
      have HLN := hide (segsP_len l k hl)
      have HB := hide hb
      clear hsrc s0 s1 s2 hb hT
      generalize hf : l.getD k default = f at *
      obtain ⟨fn, fd, fs⟩ := f
      dsimp only at c0 hns HNX
      clear hf
      go_wp2_with fail
      refine (l04Number_any fn wr hns).mono ?_
      rintro e w2 ⟨rfl, n2, rfl⟩
      have B2 := hide (below_drewN (unhide HB) n2)
      have X2 := hide ((unhide HX).drewN n2)
      have O2 := hide ((unhide HO).below (below_drewN (Below.refl _ wr) n2))
      clear HB HX HO c0 x1
      have hbs2 : w.heap.size ≤ (wr.drewN n2).heap.size := hbs
      generalize wr.drewN n2 = w2 at *
      by_cases hp : 0 < plcP fn
      · have HIF : Hid (numsP (l.take (k + 1)) = numsP (l.take k) ++ [plcP fn]) := by
          unfold numsP
          rw [unhide HNX, if_pos hp, List.map_append]
          exact hide rfl
        have hnl : (numsP (l.take k)).length ≤ 8 := by unfold numsP; rw [List.length_map]; exact unhide HLN
        have NE : Hid (u3.ownBlock ≠ some w.heap.size) := hide (fun e => by have := (World.ownsRow.lt (unhide O2) _ e).1; omega)
        have hxl := (unhide X2).1
        generalize plcP fn = pl at *
        generalize numsP (l.take k) = ns at *
        go_wp2_with (at_builtin; refine wpList_append_lies _ rfl _ _ _ rfl (w.heap.size + 1) 3 i0 _ 1 8 Tryz.underlying52 hi hz0 hz1 hz2 rfl (by omega) u3 ns.length _ rfl (World.ownsRow.alloc (unhide O2) _) ⟨w2.heap.size, 0, none⟩ 1 1 [_] rfl rfl (World.news_of_block (cs := #[_]) (t := 3) (fr := (0, 0)) (heap_alloc_new w2 _)) (by simp [Value.oneCell']) (by omega) (by unfold maxLen; omega) (by omega) (by simp; omega) _ rfl ?_; intro g5 cap5 w5 hown5 hgrow5 hat5 hlt5; have R5 := hide (And.intro hown5 (And.intro (((unhide B2).alloc hbs2 _).grown hgrow5 (by simp; omega) (fun r hr => Nat.le_of_succ_le (World.ownsRow.lt (unhide O2) r hr).1)) hgrow5)); clear hown5 hgrow5 hat5 hlt5)
        refine ⟨⟨k + 1, by omega, by go_num, ?_, ?_, (unhide R5).2.1, ?_⟩, ?_⟩
        · rw [unhide HIF]
          have h5 := (unhide R5).1
          unfold OwnN
          rw [List.map_append, List.length_append]
          exact h5
        · exact ((unhide X2).alloc _).kept (T := fun j => u3.ownBlock = some j) ⟨(unhide R5).2.2.os, (unhide R5).2.2.tape, (unhide R5).2.2.output, (unhide R5).2.2.size, fun j hj hne => (unhide R5).2.2.block j hj (fun e => hne e.symm)⟩ (fun e => unhide NE e)
        · trivial
        · simp [intOf]; omega
      · have HIF : Hid (numsP (l.take (k + 1)) = numsP (l.take k)) := by
          unfold numsP
          rw [unhide HNX, if_neg hp, List.append_nil]
          exact hide rfl
        generalize plcP fn = pl at *
        go_wp2_with fail
        refine ⟨⟨k + 1, by omega, by go_num, ?_, unhide X2, unhide B2, trivial⟩, ?_⟩
        · rw [unhide HIF]; exact unhide O2
        · simp [intOf]; omega
    · obtain rfl : k = l.length := by omega
      have HB := hide hb
      clear hb
      go_wp2_with fail
      go_ret
      refine ⟨_, rfl, ?_, unhide HB⟩
      have := World.ownsRow.mono (unhide HO) (Nat.le_succ w.heap.size)
      rwa [List.take_length] at this
end Go.Proofs.YtfihhkhdigbmiaaGreatDoor
