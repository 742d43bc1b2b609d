/- impl.StateRecords, walked. -/
import Derived.Test.YtafbdjcoimopfaaRecB
import Derived.Test.YtafbdjcoimopfaaStO
import Derived.Test.YtafbdjcoimopfaaStrO
namespace Go.Proofs.Ytafbdjcoimopfaa
open Go.ChangeShapes Go.WideShapes Go.ChangeAt Go.RowKit
set_option linter.unusedVariables false

theorem infoTx : (Try.prog.info? 9).map (fun i => (i.zero, i.size, i.bytes)) = some (some (.string ByteArray.empty), 1, 16) := by kernel_rfl
/-- What StateRecords tells. -/
def srOut (ok : Bool) (l : List Rc) : List ByteArray × Int := if ok then (l.map (fun r => strOfNums (recT r)), 0) else ([], 1)
theorem state_ent {tm vo : Int} {l : List En} (h : stateB tm vo l = true) (i : Nat) (hi : i < l.length) : entOK (l.getD i default).t (l.getD i default).k (l.getD i default).d = true := by
  unfold stateB at h
  simp only [Bool.and_eq_true, List.all_eq_true] at h
  have := h.2 i (by simpa using hi)
  unfold entB at this
  simp only [Bool.and_eq_true] at this
  exact this.1
theorem state_nums {tm vo : Int} {l : List En} (h : stateB tm vo l = true) : 0 ≤ tm ∧ tm ≤ 1000000 ∧ -1 ≤ vo ∧ vo ≤ 6 ∧ l.length ≤ 60 := by
  unfold stateB at h
  simp only [Bool.and_eq_true, decide_eq_true_eq] at h
  have h1 := inB_iff.1 h.1.1.1
  have h2 := inB_iff.1 h.1.1.2
  exact ⟨h1.1, h1.2, h2.1, h2.2, h.1.2⟩
theorem recs_good {tm vo tm2 vo2 : Int} {x y : List En} (h1 : stateB tm vo x = true) (h2 : stateB tm2 vo2 y = true) (hd : ∀ i, (y.getD i default).d.size ≤ 1048576) : ∀ r ∈ recsP tm vo x tm2 vo2 y, rcGood r := by
  obtain ⟨a1, a2, a3, a4, a5⟩ := state_nums h1
  obtain ⟨b1, b2, b3, b4, b5⟩ := state_nums h2
  intro r hr
  unfold recsP at hr
  rcases List.mem_append.1 hr with hr | hr
  · unfold recsT at hr
    split at hr
    · rw [List.mem_singleton.1 hr]; exact ⟨b1, b2, b3, b4⟩
    · cases hr
  rcases List.mem_append.1 hr with hr | hr
  · unfold recsC at hr
    split at hr
    · rw [List.mem_singleton.1 hr]
      have := sameN_le1 x y
      exact ⟨by omega, by omega⟩
    · cases hr
  · unfold recsE at hr
    obtain ⟨e, he, rfl⟩ := List.mem_map.1 hr
    obtain ⟨i, hi, rfl⟩ := List.getElem_of_mem he
    rw [List.length_drop] at hi
    have hq : (y.drop (sameN x y))[i]'(by rw [List.length_drop]; exact hi) = y.getD (sameN x y + i) default := by
      rw [List.getElem_drop, List.getD_eq_getElem?_getD, List.getElem?_eq_getElem (by omega)]
      rfl
    rw [hq]
    exact ⟨state_ent h2 _ (by omega), hd _⟩
theorem recs_len {tm vo tm2 vo2 : Int} {x y : List En} (hy : y.length ≤ 60) : (recsP tm vo x tm2 vo2 y).length ≤ 62 := by
  unfold recsP recsT recsC recsE
  simp only [List.length_append, List.length_map, List.length_drop]
  split <;> split <;> simp <;> omega
set_option maxRecDepth 100000 in
set_option maxHeartbeats 1000000 in
theorem implStateRecords_any (tm vo tm2 vo2 : Int) (a a2 : Option Addr) (c c2 : Nat) (x y : List En) (w : World) (hx : Ens w (.slice a x.length c) x) (hy : Ens w (.slice a2 y.length c2) y) (hdx : ∀ i, (x.getD i default).d.size ≤ 1048576) (hdy : ∀ i, (y.getD i default).d.size ≤ 1048576) :
    Calls Try.prog 32 #[.agg #[.int .i64 tm, .int .i64 vo, .slice a x.length c], .agg #[.int .i64 tm2, .int .i64 vo2, .slice a2 y.length c2]] w fun e w' => ∃ v, e = .returned (.tuple #[v, .int .i64 (srOut (stateB tm vo x && stateB tm2 vo2 y) (recsP tm vo x tm2 vo2 y)).2]) ∧ OwnS w.heap.size w' v (srOut (stateB tm vo x && stateB tm2 vo2 y) (recsP tm vo x tm2 vo2 y)).1 ∧ Below w.heap.size w w' := by
  obtain ⟨i0, hi, hz0, hz1, hz2⟩ := info_parts infoTx
  have BB := ((Below.refl w.heap.size w).alloc (Nat.le_refl _) (.cells #[.int .i64 tm, .int .i64 vo, .slice a x.length c] 63)).alloc (by simp) (.cells #[.int .i64 tm2, .int .i64 vo2, .slice a2 y.length c2] 63)
  have B0 := hide BB
  have X1 := hide ((Blk.new w #[.int .i64 tm, .int .i64 vo, .slice a x.length c] 63 w.heap.size rfl).alloc (.cells #[.int .i64 tm2, .int .i64 vo2, .slice a2 y.length c2] 63))
  have X2 := hide (Blk.new (w.alloc (.cells #[.int .i64 tm, .int .i64 vo, .slice a x.length c] 63)) #[.int .i64 tm2, .int .i64 vo2, .slice a2 y.length c2] 63 (w.heap.size + 1) (by simp))
  have H1 := hide (fun wx (h : Below w.heap.size w wx) => implStateOK_any tm vo _ x wx (hx.below h) hdx)
  have H2 := hide (fun wx (h : Below w.heap.size w wx) => implStateOK_any tm2 vo2 _ y wx (hy.below h) hdy)
  have HR := hide (fun (g1 : stateB tm vo x = true) (g2 : stateB tm2 vo2 y = true) wx (h : Below w.heap.size w wx) => recordsBetween_any tm vo tm2 vo2 _ _ x y wx (hx.below h) (hy.below h) (state_nums g1).2.2.2.2 (state_nums g2).2.2.2.2)
  have HG := hide (fun (g1 : stateB tm vo x = true) (g2 : stateB tm2 vo2 y = true) => recs_good g1 g2 hdy)
  have HL := hide (fun (g2 : stateB tm2 vo2 y = true) => recs_len (tm := tm) (vo := vo) (tm2 := tm2) (vo2 := vo2) (x := x) (state_nums g2).2.2.2.2)
  have HU : Hid (∀ ok l, srOut ok l = if ok then (l.map (fun r => strOfNums (recT r)), 0) else ([], 1)) := hide (fun _ _ => rfl)
  clear hx hy hdx hdy BB
  generalize recsP tm vo x tm2 vo2 y = RP at *
  generalize stateB tm vo x = s1 at *
  generalize stateB tm2 vo2 y = s2 at *
  go_enter Try.func32, Try.ntmps32
  have e0 := (unhide X1).cell 0 rfl
  have e1 := (unhide X1).cell 1 rfl
  have e2 := (unhide X1).cell 2 rfl
  go_wp2_with fail
  generalize (w.alloc (.cells #[.int .i64 tm, .int .i64 vo, .slice a x.length c] 63)).alloc (.cells #[.int .i64 tm2, .int .i64 vo2, .slice a2 y.length c2] 63) = w0 at *
  refine (unhide H1 w0 (unhide B0)).mono ?_
  rintro e w1 ⟨rfl, hb⟩
  have B1 := hide ((unhide B0).trans (hb.mono (unhide B0).size))
  have Y1 := hide ((unhide X1).below hb)
  have Y2 := hide ((unhide X2).below hb)
  clear hb B0 X1 X2 H1 e0 e1 e2
  cases s1
  · go_wp2_with fail
    go_ret2
    exact ⟨_, by rw [unhide HU]; rfl, by rw [unhide HU]; exact OwnS.nil _ _, unhide B1⟩
  have f0 := (unhide Y2).cell 0 rfl
  have f1 := (unhide Y2).cell 1 rfl
  have f2 := (unhide Y2).cell 2 rfl
  go_wp2_with fail
  refine (unhide H2 w1 (unhide B1)).mono ?_
  rintro e w2 ⟨rfl, hb⟩
  have B2 := hide ((unhide B1).trans (hb.mono (unhide B1).size))
  have Z1 := (unhide Y1).below hb
  have Z2 := (unhide Y2).below hb
  clear hb B1 Y1 Y2 H2 f0 f1 f2
  cases s2
  · go_wp2_with fail
    go_ret2
    exact ⟨_, by rw [unhide HU]; rfl, by rw [unhide HU]; exact OwnS.nil _ _, unhide B2⟩
  have e0 := Z1.cell 0 rfl
  have e1 := Z1.cell 1 rfl
  have e2 := Z1.cell 2 rfl
  have f0 := Z2.cell 0 rfl
  have f1 := Z2.cell 1 rfl
  have f2 := Z2.cell 2 rfl
  clear Z1 Z2
  have HRr := hide (unhide HR (by first | trivial | rfl) (by first | trivial | rfl) w2 (unhide B2))
  have HGd := hide (unhide HG (by first | trivial | rfl) (by first | trivial | rfl))
  have hln := unhide HL (by first | trivial | rfl)
  clear HR HG HL
  go_wp2_with fail
  refine (unhide HRr).mono ?_
  rintro e w3 ⟨v3, rfl, hO3, hb⟩
  have B3 := hide ((unhide B2).trans (hb.mono (unhide B2).size))
  have hsh := own_shape hO3
  have HO3 := hide hO3
  clear hb hO3 B2 HRr e0 e1 e2 f0 f1 f2
  have hwb := (unhide B3).size
  rcases hsh with ⟨rfl, h0⟩ | ⟨g, cap, rfl, hB, hlt0, hn, hm⟩
  · obtain rfl : RP = [] := List.eq_nil_of_length_eq_zero (by simpa using h0)
    go_wp2_with fail
    go_loop [6, 21] (fun l i => l = .slice none 0 0 ∧ i = .int .i64 0) (fun _ _ => 0)
    case atStart => exact ⟨rfl, rfl⟩
    case round =>
      obtain ⟨rfl, rfl⟩ := hrel
      go_wp2_with fail
      go_ret2
      exact ⟨_, by rw [unhide HU]; rfl, by rw [unhide HU]; exact OwnS.nil _ _, unhide B3⟩
  have HCell := hide (fun (j : Nat) (r : Rc) (hr : RP[j]? = some r) wr (hb : Below w3.heap.size w3 wr) => show wr.cell? ⟨g, j, none⟩ = some (rcV (some r)) from (hb.cell (p := ⟨g, j, none⟩) hlt0).trans ((World.ownsRow.cellAt (unhide HO3) j (by have := (List.getElem?_eq_some_iff.1 hr).1; simp; omega)).trans (by rw [List.getElem?_map, hr]; rfl)))
  have HB0 := hide (Below.refl w3.heap.size w3)
  clear HO3 hm
  go_wp2_with fail
  go_loopw [6, 21] (fun l i wr => ∃ (j : Nat) (a8 : Option Addr) (n8 c8 : Nat), j ≤ RP.length ∧ i = .int .i64 j ∧ l = .slice a8 n8 c8 ∧ n8 = j ∧ Hid (wr.ownsRow w3.heap.size 9 1 (.slice a8 n8 c8) n8 (((RP.take j).map (fun r => strOfNums (recT r))).map Value.string)) ∧ Hid (Below w3.heap.size w3 wr)) (fun _ i _ => RP.length - (intOf i).toNat)
  case atStart => exact ⟨0, none, 0, 0, Nat.zero_le _, rfl, rfl, rfl, World.ownsRow_nil _ _ 9 1, unhide HB0⟩
  case round =>
    obtain ⟨j, a8, n8, c8, hj, rfl, rfl, hn8, HO8, HB8⟩ := hrel
    have hbs := (unhide HB8).size
    by_cases hlt : j < RP.length
    · obtain ⟨r, hr⟩ : ∃ r, RP[j]? = some r := ⟨_, List.getElem?_eq_getElem hlt⟩
      have hgd := unhide HGd r (List.mem_of_getElem? hr)
      have c0 := unhide HCell j r hr wr (unhide HB8)
      have HRT := hide (recordText_any r wr hgd)
      have HTj : Hid (((RP.take (j + 1)).map (fun r => strOfNums (recT r))).map Value.string = ((RP.take j).map (fun r => strOfNums (recT r))).map Value.string ++ [.string (strOfNums (recT r))]) := hide (by
        obtain ⟨hj2, e⟩ := List.getElem?_eq_some_iff.1 hr
        rw [List.take_succ_eq_append_getElem hj2, e]
        simp)
      have p0 : (0 : Int) ≤ (j : Int) := by omega
      have p1 : (j : Int) < (RP.length : Int) := by omega
      have hq : n8 ≤ 100 := by omega
      have hn8h := hide hn8
      clear hn8 hgd hr
      generalize strOfNums (recT r) = tx at *
      generalize rcV (some r) = rv at *
      go_wp2_with fail
      refine (unhide HRT).mono ?_
      rintro e w4 ⟨rfl, hb4⟩
      have HOL := hide (own_kept (T := fun _ => False) (unhide HO8) (Touch.ofBelow hb4) (fun _ _ h => h))
      have HB4 := hide ((unhide HB8).trans (hb4.mono hbs))
      have h4s := (unhide HB4).size
      clear hb4 HO8 HB8 HRT c0
      go_wp2_with (at_builtin; refine wpList_append_lies _ rfl _ _ _ rfl w3.heap.size 9 i0 _ 1 16 Try.underlying59 hi hz0 hz1 hz2 rfl (by omega) (.slice a8 n8 c8) n8 _ rfl (World.ownsRow.alloc (unhide HOL) _) ⟨w4.heap.size, 0, none⟩ 1 1 [_] rfl rfl (World.news_of_block (cs := #[_]) (t := 9) (fr := (0, 0)) (heap_alloc_new w4 _)) (by simp [Value.oneCell']) (by omega) (by unfold maxLen; omega) (by omega) (by simp; omega) _ rfl ?_; intro g5 cap5 w5 hown5 hgrow5 hat5 hlt5; have R5 := hide (And.intro hown5 (((unhide HB4).alloc h4s _).grown hgrow5 (by simp; omega) (fun r hr => (World.ownsRow.lt (unhide HOL) r hr).1))); clear hown5 hgrow5 hat5 hlt5)
      refine ⟨⟨j + 1, some ⟨g5, 0, none⟩, n8 + 1, cap5, by omega, by go_num, rfl, by have := unhide hn8h; omega, ?_, (unhide R5).2⟩, ?_⟩
      · rw [unhide HTj]; exact hide (unhide R5).1
      · simp [intOf]; omega
    · obtain rfl : j = RP.length := by omega
      have HB9 := hide ((unhide B3).trans ((unhide HB8).mono hwb))
      have HO9 := hide (World.ownsRow.mono (unhide HO8) hwb)
      have e8 : n8 = (RP.map (fun r => strOfNums (recT r))).length := by simp [hn8]
      rw [List.take_length] at HO9
      clear HO8 HB8 hn8
      go_wp2_with fail
      go_ret2
      exact ⟨_, by rw [unhide HU]; rfl, by rw [unhide HU]; have h := unhide HO9; rw [e8] at h; rw [e8]; exact h, unhide HB9⟩
end Go.Proofs.Ytafbdjcoimopfaa
