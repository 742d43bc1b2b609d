/- A leaf put behind peaks: what spec.AddPeak answers. -/
import Derived.Test.YthabemlcabmmaaaDoorPkA
import Derived.Deep.Cut
namespace Go.Proofs.YthabemlcabmmaaaDoor
open Go.ChangeShapes Go.WideShapes Go.ChangeAt Go.RowKit Sha Go.Deep
set_option linter.unusedVariables false
set_option linter.unusedSimpArgs false

theorem onePA (w : World) (ps : Int) (ph : ByteArray) : PA (w.alloc (.cells #[.int .i64 ps, .string ph] 103)) w.heap.size 0 1 [⟨ps, ph⟩] := by
  have K := Blk.new w #[.int .i64 ps, .string ph] 103 w.heap.size rfl
  exact ⟨by simp, by unfold maxLen; omega, K.1, fun i hi => by
    obtain rfl : i = 0 := by simpa using hi
    exact ⟨K.cell 0 rfl, K.cell 1 rfl⟩⟩
theorem pksC_app (a b : List Pk) : pksC (a ++ b) = pksC a ++ pksC b := List.flatMap_append
theorem OwnP.head {B : Nat} {w : World} {g n c : Nat} {a b : List Pk} (h : w.ownsRow B 103 2 (.slice (some ⟨g, 0, none⟩) n c) n (pksC (a ++ b))) : w.ownsRow B 103 2 (.slice (some ⟨g, 0, none⟩) a.length c) a.length (pksC a) := by
  obtain ⟨hl, h⟩ := h
  rw [pksC_len, List.length_append] at hl
  rcases h with ⟨hv, _⟩ | ⟨g', cap, cur, hv, hB, hg, hn, hm, hz, ht⟩
  · cases hv
  · simp only [Value.slice.injEq, Option.some.injEq, Addr.mk.injEq] at hv
    obtain ⟨⟨rfl, _⟩, _, rfl⟩ := hv
    refine ⟨pksC_len a, .inr ⟨g, c, cur, rfl, hB, hg, by omega, hm, hz, ?_⟩⟩
    have e : cur.toList.take (a.length * 2) = (cur.toList.take (n * 2)).take (a.length * 2) := by rw [List.take_take, Nat.min_eq_left (by omega)]
    rw [e, ht, pksC_app, ← pksC_len a, List.take_left]
theorem get_last (l : List Pk) (k : Nat) (p : Pk) (hk : k ≤ l.length) : (l.take k ++ [p]).getD k default = p := by
  have : (l.take k).length = k := by rw [List.length_take]; omega
  rw [List.getD_eq_getElem?_getD, List.getElem?_append_right (by omega), this]; simp
theorem get_init (l : List Pk) (k i : Nat) (p : Pk) (hk : k ≤ l.length) (hi : i < k) : (l.take k ++ [p]).getD i default = l.getD i default := by
  have : (l.take k).length = k := by rw [List.length_take]; omega
  rw [List.getD_eq_getElem?_getD, List.getElem?_append_left (by omega), List.getElem?_take, if_pos hi, ← List.getD_eq_getElem?_getD]
set_option maxRecDepth 100000 in
set_option maxHeartbeats 2000000 in
theorem l06Add_any (l : List Pk) (leaf : ByteArray) (b off cap : Nat) (w : World) (hs : PA w b off cap l) (hok : okTo l l.length = true) (hl32 : leaf.size = 32) :
    Calls Tryd.prog 72 #[.slice (some ⟨b, off, none⟩) l.length cap, .string leaf] w fun e w' => ∃ v, e = .returned v ∧ OwnP w.heap.size w' v (mrg l l.length ⟨1, leaf⟩) ∧ Below w.heap.size w w' := by
  have hle : l.length ≤ 9223372036854775807 := by have := hs.le; have := hs.mx; unfold maxLen at this; omega
  have hcap : l.length ≤ cap := hs.le
  have hcm : cap ≤ 9223372036854775807 := by have := hs.mx; unfold maxLen at this; omega
  have hll := ok_len hok
  have HOK := hide hok
  have HS := hide hs
  clear hok hs
  obtain ⟨i0, hi, hz0, hz1, hz2⟩ := info_parts infoPk
  have B0 := hide ((Below.refl w.heap.size w).alloc (Nat.le_refl _) (.cells #[] 103))
  have O0 := hide (own_noneP w w.heap.size w.heap.size rfl (Nat.le_refl _))
  have HR := hide (((unhide HS).below (unhide B0)).rw)
  go_enter Tryd.func72, Tryd.ntmps72
  go_upto_region 2 with (first
    | (at_builtin; refine wpList_append_row _ rfl _ _ _ rfl w.heap.size 103 i0 _ 2 24 Tryd.underlying41 hi hz0 hz1 hz2 rfl (by omega) _ 0 [] rfl (unhide O0) _ l.length (pksC l) rfl (unhide HR) (pksC_len l) (pksC_one l) (by unfold maxLen; omega) (by omega) (by simp) ?_; intro a1 c1 w1 hown1 hgrow1 hat1; rw [Nat.zero_add] at hown1 ⊢; rw [List.nil_append] at hown1; have O1 := hide hown1; have B1 := hide ((unhide B0).grown hgrow1 (by simp) (fun r hr => ((unhide O0).lt r hr).1)); clear hown1 hgrow1 hat1)
    | (at_builtin; refine wpList_append_row _ rfl _ _ _ rfl w.heap.size 103 i0 _ 2 24 Tryd.underlying41 hi hz0 hz1 hz2 rfl (by omega) _ l.length (pksC l) rfl (own_kept (T := fun _ => False) (unhide O1) ((Touch.refl _ _).alloc _) (fun _ _ h => h)) _ 1 (pksC [⟨1, leaf⟩]) rfl (onePA w1 1 leaf).rw rfl (pksC_one _) (by unfold maxLen; omega) (by omega) (by have := (unhide B1).size; simp; omega) ?_; intro a2 c2 w2 hown2 hgrow2 hat2; rw [← pksC_app] at hown2; have O2 := hide hown2; have B2 := hide (((unhide B1).alloc (unhide B1).size (.cells #[.int .i64 1, .string leaf] 103)).grown hgrow2 (by have := (unhide B1).size; simp; omega) (fun r hr => (World.ownsRow.lt (unhide O1) r hr).1)); clear hown2 hgrow2 hat2))
  have H2 := unhide O2
  rcases own_shape H2 with ⟨_, h0⟩ | ⟨g, c, hv, hB2, hg2, _⟩
  · omega
  simp only [Value.slice.injEq] at hv
  obtain ⟨rfl, _, rfl⟩ := hv
  have K2 : Hid (OwnP w.heap.size w2 (.slice (some ⟨g, 0, none⟩) (l.length + 1) c2) (l.take l.length ++ [⟨1, leaf⟩]) ∧ Below w.heap.size w w2) := hide ⟨by
    unfold OwnP
    rw [List.take_length, List.length_append]
    exact H2, unhide B2⟩
  clear H2 O2 B2 O1 B1 HR O0 B0
  go_wp2_with fail
  go_loopw [5, 6] (fun o n wr => ∃ (k g c : Nat) (p : Pk), k ≤ l.length ∧ o = .slice (some ⟨g, 0, none⟩) (k + 1) c ∧ n = .int .i64 (k + 1 : Nat) ∧ (OwnP w.heap.size wr (.slice (some ⟨g, 0, none⟩) (k + 1) c) (l.take k ++ [p]) ∧ Below w.heap.size w wr) ∧ 1 ≤ p.s ∧ p.s ≤ 128 ∧ p.h.size = 32 ∧ mrg l k p = mrg l l.length ⟨1, leaf⟩) (fun _ n _ => (intOf n).toNat)
  case atStart => exact ⟨l.length, g, c2, ⟨1, leaf⟩, Nat.le_refl _, rfl, rfl, unhide K2, by simp, by simp, hl32, rfl⟩
  case round =>
    obtain ⟨k, g, c, p, hk, rfl, rfl, hK, hp0, hp1, hp2, hm⟩ := hrel
    have htl : (l.take k).length = k := by rw [List.length_take]; omega
    have hol : (l.take k ++ [p]).length = k + 1 := by rw [List.length_append, htl]; rfl
    have hW : wr.ownsRow w.heap.size 103 2 (.slice (some ⟨g, 0, none⟩) (k + 1) c) (k + 1) (pksC (l.take k ++ [p])) := by have := hK.1; unfold OwnP at this; rwa [hol] at this
    have hcb : k + 1 ≤ c ∧ c ≤ 9223372036854775807 := by
      rcases own_shape hW with ⟨hv, _⟩ | ⟨g', cap', hv, _, _, hn, hmx⟩
      · cases hv
      · simp only [Value.slice.injEq] at hv
        obtain ⟨_, _, rfl⟩ := hv
        unfold maxLen at hmx
        exact ⟨hn, by omega⟩
    obtain ⟨hc1, hc2⟩ := hcb
    obtain ⟨e0, e1⟩ := OwnP.cells hW k (by omega) hol.symm
    rw [get_last l k p hk] at e0 e1
    have hgr := (World.ownsRow.lt hW g rfl)
    have HKr := hide (And.intro hW hK.2)
    have HM := hide hm
    have HKK := hide hK
    clear hK hm hol
    by_cases hk0 : k = 0
    · subst hk0
      have HE : Hid (l.take 0 ++ [p] = mrg l l.length ⟨1, leaf⟩) := hide ((mrg_stop l 0 p (.inl rfl)).symm.trans (unhide HM))
      have R := hide (fun n => And.intro ((unhide HKK).1.kept (T := fun _ => False) ((Touch.refl _ _).drewN n) (fun _ _ h => h)) (below_drewN (unhide HKK).2 n))
      clear HM hW HKr HKK
      go_wp2_with fail
      go_quiet (fail)
      go_wp2_with fail
      go_ret
      exact ⟨_, rfl, by rw [← unhide HE]; exact (unhide R nq).1, (unhide R nq).2⟩
    obtain ⟨m, rfl⟩ : ∃ m, k = m + 1 := ⟨k - 1, by omega⟩
    obtain ⟨r0, r1⟩ := OwnP.cells hW m (by rw [List.length_append, htl]; simp; omega) (by rw [List.length_append, htl]; rfl)
    rw [get_init l (m + 1) m p hk (by omega)] at r0 r1
    have z0 := ok_hashes (unhide HOK) m (by omega)
    have z1 := ok_last l m (ok_down l _ _ (by omega) (unhide HOK))
    have HG := hide (mrg_go l m p)
    have HST := hide (mrg_stop l (m + 1) p)
    rw [show m + 1 - 1 = m from rfl] at HST
    generalize (l.getD m default) = q at *
    have htm : (l.take m).length = m := by rw [List.length_take]; omega
    have HHD : Hid (wr.ownsRow w.heap.size 103 2 (.slice (some ⟨g, 0, none⟩) m c) m (pksC (l.take m))) := hide (by
      have e : l.take (m + 1) ++ [p] = l.take m ++ (l.drop m).take 1 ++ [p] := by rw [List.take_add]
      have h9 := hW
      rw [e, List.append_assoc] at h9
      have := OwnP.head h9
      rwa [htm] at this)
    obtain ⟨qs, qh⟩ := q
    obtain ⟨ps, ph⟩ := p
    dsimp only at *
    clear hW
    generalize hn : m + 1 + 1 = n at *
    generalize hn1 : m + 1 = n1 at *
    have k1 : (n : Int) - 1 = (n1 : Int) := by omega
    have k1b : (n : Int) - 2 = (m : Int) := by omega
    have k2 : (1 : Int) < (n : Int) := by omega
    have k3 : (n1 : Int) < (n : Int) := by omega
    have k3b : (m : Int) < (n : Int) := by omega
    have k4 : (0 : Int) ≤ (m : Int) := by omega
    have k4b : (0 : Int) ≤ (n1 : Int) := by omega
    have k5 : (m : Int) ≤ (c : Int) := by omega
    have k7 : IntKind.i64.wrap (m : Int) = (m : Int) := wrapMm _ (by omega) (by omega)
    have k7b : IntKind.i64.wrap (n1 : Int) = (n1 : Int) := wrapMm _ (by omega) (by omega)
    by_cases hq : qs = ps
    · subst hq
      have k6 : IntKind.i64.wrap (2 * qs) = 2 * qs := wrapMm _ (by omega) (by omega)
      have HN := hide (fun wx => l06Node_any qh ph wx z0 hp2)
      have HG2 := hide ((unhide HG rfl).symm.trans (unhide HM))
      clear HG HM HST HKK
      go_wp2_with fail
      go_quiet (fail)
      have e0' : (wr.drewN nq).cell? ⟨g, n1 * 2, none⟩ = some (.int .i64 qs) := e0
      have e1' : (wr.drewN nq).cell? ⟨g, n1 * 2 + 1, none⟩ = some (.string ph) := e1
      have r1' : (wr.drewN nq).cell? ⟨g, m * 2 + 1, none⟩ = some (.string qh) := r1
      have HBq := hide (below_drewN (unhide HKr).2 nq)
      have HDq : Hid ((wr.drewN nq).ownsRow w.heap.size 103 2 (.slice (some ⟨g, 0, none⟩) m c) m (pksC (l.take m))) := hide (own_kept (T := fun _ => False) (unhide HHD) ((Touch.refl _ _).drewN nq) (fun _ _ h => h))
      have hgq : g < (wr.drewN nq).heap.size := hgr.2
      clear HKr HHD e0 e1 r0 r1 hgr
      generalize wr.drewN nq = wq at *
      have hneq : wq.heap.size ≠ g := by omega
      go_wp2_with fail
      go_region_held3 (fun wx => wx.cell? ⟨g, n1 * 2, none⟩ = some (.int .i64 qs) ∧ wx.cell? ⟨g, n1 * 2 + 1, none⟩ = some (.string ph) ∧ wx.cell? ⟨g, m * 2 + 1, none⟩ = some (.string qh)) (first | go_keep | (refine ⟨?_, ?_, ?_⟩ <;> first | exact (hb2.cell (by simp; omega)).trans (by simp [*, World.cell?_alloc_some]) | exact (World.cell?_setCell_far _ _ _ _ (by assumption)).trans ((World.cell?_setCell_far _ _ _ _ (by assumption)).trans (by simp [*, World.cell?_alloc_some])) | exact (World.cell?_alloc_lt _ _ _ (by first | exact hg5 | (simp; omega))).trans ((hb2.cell (by simp; omega)).trans (by simp [*, World.cell?_alloc_some]))  | exact (World.cell?_setCell_far _ _ _ _ (by assumption)).trans ((World.cell?_setCell_far _ _ _ _ (by assumption)).trans ((hb2.cell (by simp; omega)).trans (by simp [*, World.cell?_alloc_some]))) | (trace_state; fail))) (first
        | (go_at_call 43; guard_target =~ Calls _ _ _ (World.drew (World.alloc _ _)) _; refine (unhide HN _).mono ?_; rintro e w5 ⟨rfl, hb2⟩; (have hne5 : w5.heap.size ≠ g := by have := hb2.size; simp at this; omega); (have hg5 : g < w5.heap.size := by have := hb2.size; simp at this; omega); (have KX : Blk w5 wq.heap.size [.int .i64 0, .string ⟨#[]⟩] := ((Blk.new wq #[.int .i64 0, .string ⟨#[]⟩] 103 wq.heap.size rfl).drewN 1).below hb2); (have bx0 := KX.cell 0 rfl); (have bx1 := KX.cell 1 rfl); (have fx0 := KX.fro 0); (have fx1 := KX.fro 1))
        | (go_at_call 43; refine (unhide HN _).mono ?_; rintro e w5 ⟨rfl, hb2⟩; (have hne5 : w5.heap.size ≠ g := by have := hb2.size; simp at this; omega); (have hg5 : g < w5.heap.size := by have := hb2.size; simp at this; omega)))
      · have HBq5 : Below wq.heap.size wq w5 := (below_drewN (Below.refl _ wq) 1).trans hb2
        have K6 : Hid (Blk (w5.alloc (.cells #[.int .i64 (2 * qs), .string (nodeV qh ph)] 103)) w5.heap.size [.int .i64 (2 * qs), .string (nodeV qh ph)] ∧ (w5.alloc (.cells #[.int .i64 (2 * qs), .string (nodeV qh ph)] 103)).ownsRow w.heap.size 103 2 (.slice (some ⟨g, 0, none⟩) m c) m (pksC (l.take m)) ∧ Below w.heap.size w (w5.alloc (.cells #[.int .i64 (2 * qs), .string (nodeV qh ph)] 103))) := hide
          ⟨Blk.new w5 _ _ _ rfl, own_kept (T := fun _ => False) (unhide HDq) ((Touch.ofBelow HBq5).alloc _) (fun _ _ h => h), ((unhide HBq).trans (HBq5.mono (unhide HBq).size)).alloc ((unhide HBq).trans (HBq5.mono (unhide HBq).size)).size _⟩
        have zn := node_size z0 hp2
        clear hb2 hne5 hg5 HBq5 e0' e1' r1' hneq hgq HDq HBq HN
        generalize w5.alloc (.cells #[.int .i64 (2 * qs), .string (nodeV qh ph)] 103) = w6 at *
        generalize w5.heap.size = BX at *
        generalize nodeV qh ph = hh at *
        have x0 := (unhide K6).1.cell 0 rfl
        have x1 := (unhide K6).1.cell 1 rfl
        go_wp2_with fail
        go_region_law (refine step_append_lies _ (by rfl) _ _ _ (by rfl) w.heap.size 103 i0 _ 2 24 Tryd.underlying41 hi hz0 hz1 hz2 rfl (by omega) (.slice (some ⟨g, 0, none⟩) m c) m (pksC (l.take m)) (by rfl) (own_kept (T := fun _ => False) (unhide K6).2.1 (by first | exact ((Touch.refl _ _).alloc _).drewN 1 | exact ((Touch.refl _ _).drewN 1).alloc _) (fun _ _ h => h)) ⟨w6.heap.size, 0, none⟩ 1 1 (pksC [⟨2 * qs, hh⟩]) (by rfl) (by rfl) (World.news_of_block (cs := #[.int .i64 (2 * qs), .string hh]) (t := 103) (fr := (0, 0)) (heap_alloc_new w6 _)) (pksC_one _) (by omega) (by unfold maxLen; omega) (by omega) (by have := (unhide K6).2.2.size; simp; omega) (w6.heap.size + 1) (by simp) ?_; intro gg cg w7 hown7 hgrow7 hat7 hlt7)
        have B7 : Hid (Below w.heap.size w w7) := hide (by
          first
            | exact (below_drewN ((unhide K6).2.2.alloc (unhide K6).2.2.size _) 1).grown hgrow7 (by have := (unhide K6).2.2.size; simp; omega) (fun r hr => (World.ownsRow.lt (unhide K6).2.1 r hr).1)
            | exact ((below_drewN (unhide K6).2.2 1).alloc (unhide K6).2.2.size _).grown hgrow7 (by have := (unhide K6).2.2.size; simp; omega) (fun r hr => (World.ownsRow.lt (unhide K6).2.1 r hr).1))
        have O7 : Hid (OwnP w.heap.size w7 (.slice (some ⟨gg, 0, none⟩) (m + 1) cg) (l.take m ++ [⟨2 * qs, hh⟩])) := hide (by
          unfold OwnP
          rw [pksC_app, List.length_append, htm]
          exact hown7)
        clear hown7 hgrow7 hat7 hlt7 K6 x0 x1
        go_wp2_with fail
        refine ⟨⟨m, gg, cg, ⟨2 * qs, hh⟩, by omega, by rw [hn1], by rw [hn1], ⟨unhide O7, unhide B7⟩, by dsimp only; omega, by dsimp only; omega, zn, unhide HG2⟩, ?_⟩
        simp [intOf]; omega
      · have HBq5 : Below wq.heap.size wq w5 := (below_drewN ((Below.refl _ wq).alloc (Nat.le_refl _) (.cells #[.int .i64 0, .string ⟨#[]⟩] 103)) 1).trans (hb2.mono (by simp))
        have K6 : Hid (Blk ((w5.setCell ⟨wq.heap.size, 0, none⟩ (.int .i64 (2 * qs))).setCell ⟨wq.heap.size, 1, none⟩ (.string (nodeV qh ph))) wq.heap.size [.int .i64 (2 * qs), .string (nodeV qh ph)] ∧ ((w5.setCell ⟨wq.heap.size, 0, none⟩ (.int .i64 (2 * qs))).setCell ⟨wq.heap.size, 1, none⟩ (.string (nodeV qh ph))).ownsRow w.heap.size 103 2 (.slice (some ⟨g, 0, none⟩) m c) m (pksC (l.take m)) ∧ Below w.heap.size w ((w5.setCell ⟨wq.heap.size, 0, none⟩ (.int .i64 (2 * qs))).setCell ⟨wq.heap.size, 1, none⟩ (.string (nodeV qh ph)))) := hide
          ⟨(KX.set 0 _ (by simp)).set 1 _ (by simp), own_kept (T := fun k => k = wq.heap.size) (unhide HDq) (Touch.setCell (T := fun k => k = wq.heap.size) (Touch.setCell (T := fun k => k = wq.heap.size) (Touch.ofBelow HBq5) ⟨wq.heap.size, 0, none⟩ (.int .i64 (2 * qs)) (fun _ => rfl)) ⟨wq.heap.size, 1, none⟩ (.string (nodeV qh ph)) (fun _ => rfl)) (fun k hk e => by (have e2 : g = k := by simpa [Value.ownBlock] using hk); omega), (((unhide HBq).trans (HBq5.mono (unhide HBq).size)).setCell (p := ⟨wq.heap.size, 0, none⟩) (unhide HBq).size _).setCell (p := ⟨wq.heap.size, 1, none⟩) (unhide HBq).size _⟩
        have zn := node_size z0 hp2
        clear hb2 hne5 hg5 HBq5 e0' e1' r1' hneq hgq HDq HBq HN KX bx0 bx1 fx0 fx1
        generalize (w5.setCell ⟨wq.heap.size, 0, none⟩ (.int .i64 (2 * qs))).setCell ⟨wq.heap.size, 1, none⟩ (.string (nodeV qh ph)) = w6 at *
        generalize wq.heap.size = BX at *
        generalize nodeV qh ph = hh at *
        have x0 := (unhide K6).1.cell 0 rfl
        have x1 := (unhide K6).1.cell 1 rfl
        go_wp2_with fail
        go_region_law (refine step_append_lies _ (by rfl) _ _ _ (by rfl) w.heap.size 103 i0 _ 2 24 Tryd.underlying41 hi hz0 hz1 hz2 rfl (by omega) (.slice (some ⟨g, 0, none⟩) m c) m (pksC (l.take m)) (by rfl) (own_kept (T := fun _ => False) (unhide K6).2.1 (by first | exact ((Touch.refl _ _).alloc _).drewN 1 | exact ((Touch.refl _ _).drewN 1).alloc _) (fun _ _ h => h)) ⟨w6.heap.size, 0, none⟩ 1 1 (pksC [⟨2 * qs, hh⟩]) (by rfl) (by rfl) (World.news_of_block (cs := #[.int .i64 (2 * qs), .string hh]) (t := 103) (fr := (0, 0)) (heap_alloc_new w6 _)) (pksC_one _) (by omega) (by unfold maxLen; omega) (by omega) (by have := (unhide K6).2.2.size; simp; omega) (w6.heap.size + 1) (by simp) ?_; intro gg cg w7 hown7 hgrow7 hat7 hlt7)
        have B7 : Hid (Below w.heap.size w w7) := hide (by
          first
            | exact (below_drewN ((unhide K6).2.2.alloc (unhide K6).2.2.size _) 1).grown hgrow7 (by have := (unhide K6).2.2.size; simp; omega) (fun r hr => (World.ownsRow.lt (unhide K6).2.1 r hr).1)
            | exact ((below_drewN (unhide K6).2.2 1).alloc (unhide K6).2.2.size _).grown hgrow7 (by have := (unhide K6).2.2.size; simp; omega) (fun r hr => (World.ownsRow.lt (unhide K6).2.1 r hr).1))
        have O7 : Hid (OwnP w.heap.size w7 (.slice (some ⟨gg, 0, none⟩) (m + 1) cg) (l.take m ++ [⟨2 * qs, hh⟩])) := hide (by
          unfold OwnP
          rw [pksC_app, List.length_append, htm]
          exact hown7)
        clear hown7 hgrow7 hat7 hlt7 K6 x0 x1
        go_wp2_with fail
        refine ⟨⟨m, gg, cg, ⟨2 * qs, hh⟩, by omega, by rw [hn1], by rw [hn1], ⟨unhide O7, unhide B7⟩, by dsimp only; omega, by dsimp only; omega, zn, unhide HG2⟩, ?_⟩
        simp [intOf]; omega
    · have HE : Hid (l.take n1 ++ [⟨ps, ph⟩] = mrg l l.length ⟨1, leaf⟩) := hide ((unhide HST (.inr hq)).symm.trans (unhide HM))
      have hqb : (ps == qs) = false := by simpa using Ne.symm hq
      have R := hide (fun n => And.intro ((unhide HKK).1.kept (T := fun _ => False) ((Touch.refl _ _).drewN n) (fun _ _ h => h)) (below_drewN (unhide HKK).2 n))
      clear HG HST HM HKr HKK HHD
      go_wp2_with fail
      go_quiet (fail)
      go_wp2_with fail
      go_ret
      exact ⟨_, rfl, by rw [← unhide HE]; exact (unhide R nq).1, (unhide R nq).2⟩
end Go.Proofs.YthabemlcabmmaaaDoor
