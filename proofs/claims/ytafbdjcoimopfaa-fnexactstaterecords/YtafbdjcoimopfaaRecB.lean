/- impl.recordsBetween, walked. -/
import Derived.Test.YtafbdjcoimopfaaRecN
import Derived.Test.YtafbdjcoimopfaaRecT
import Derived.Test.YtafbdjcoimopfaaStL
import Derived.Test.YtafbdjcoimopfaaAppR
import Derived.Deep.RegionLaw
import Derived.Deep.RegionHeld3
namespace Go.Proofs.Ytafbdjcoimopfaa
open Go.ChangeShapes Go.WideShapes Go.ChangeAt Go.RowKit
set_option linter.unusedVariables false

/-- The records that lead from one state to another. -/
def recsT (tm vo tm2 vo2 : Int) : List Rc := if tm ≠ tm2 ∨ vo ≠ vo2 then [.T tm2 vo2] else []
def recsC (x y : List En) : List Rc := if sameN x y < x.length then [.C (sameN x y)] else []
def recsE (x y : List En) : List Rc := (y.drop (sameN x y)).map .E
def recsP (tm vo : Int) (x : List En) (tm2 vo2 : Int) (y : List En) : List Rc := recsT tm vo tm2 vo2 ++ (recsC x y ++ recsE x y)
/-- A slice of the call's own that holds these records. -/
def OwnK (B : Nat) (w : World) (v : Value) (l : List Rc) : Prop := w.ownsRow B 109 1 v l.length (l.map (fun r => rcV (some r)))
theorem infoRec : (Try.prog.info? 109).map (fun i => (i.zero, i.size, i.bytes)) = some (some .nilIface, 1, 16) := by kernel_rfl
theorem OwnK.nil (B : Nat) (w : World) : OwnK B w (.slice none 0 0) [] := World.ownsRow_nil w B 109 1
theorem OwnK.kept {T : Nat → Prop} {B : Nat} {w w' : World} {v : Value} {l : List Rc} (h : OwnK B w v l) (ht : Touch T w w') (hn : ∀ k, v.ownBlock = some k → ¬ T k) : OwnK B w' v l := own_kept h ht hn
theorem OwnK.below {B : Nat} {w w' : World} {v : Value} {l : List Rc} (h : OwnK B w v l) (hb : Below w.heap.size w w') : OwnK B w' v l := h.kept (T := fun _ => False) (Touch.ofBelow hb) (fun _ _ h => h)

theorem OwnK.pushed {B gg capg : Nat} {w1 : World} {l : List Rc} {r : Rc} (h1 : w1.ownsRow B 109 1 (.slice (some ⟨gg, 0, none⟩) (l.length + 1) capg) (l.length + 1) (l.map (fun r => rcV (some r)) ++ [rcV (some r)])) : OwnK B w1 (.slice (some ⟨gg, 0, none⟩) (l ++ [r]).length capg) (l ++ [r]) := by
  unfold OwnK
  rw [List.length_append, List.map_append]
  exact h1
theorem OwnK.down {B B' : Nat} {w : World} {v : Value} {l : List Rc} (h : OwnK B w v l) (hB : B' ≤ B) : OwnK B' w v l := by
  obtain ⟨hl, hc⟩ := h
  refine ⟨hl, ?_⟩
  rcases hc with hn | ⟨g, cap, cur, hv, hb, rest⟩
  · exact .inl hn
  · exact .inr ⟨g, cap, cur, hv, by omega, rest⟩
theorem rcV_one (r : Rc) : (rcV (some r)).oneCell' = true := by cases r <;> rfl

theorem Ens.termR {w : World} {a : Option Addr} {c : Nat} {lg : List En} (h : Ens w (.slice a lg.length c) lg) (q : Nat) (hq : q < lg.length) : ∃ b off, a = some ⟨b, off, none⟩ ∧ b < w.heap.size ∧ w.cell? ⟨b, off + q * 3, none⟩ = some (.int .i64 (lg.getD q default).t) ∧ w.cell? ⟨b, off + q * 3 + 1, none⟩ = some (.int .i64 (lg.getD q default).k) ∧ w.cell? ⟨b, off + q * 3 + 2, none⟩ = some (.string (lg.getD q default).d) := by
  obtain ⟨a2, c2, e, _, _, hc⟩ := h
  simp only [Value.slice.injEq] at e
  obtain ⟨rfl, _, rfl⟩ := e
  rcases hc with h0 | ⟨b, off, rfl, hl, hc⟩
  · omega
  · exact ⟨b, off, rfl, hl, hc q hq⟩
theorem recsE_succ (y : List En) (k j : Nat) (h : k + j < y.length) : ((y.drop k).take (j + 1)).map Rc.E = ((y.drop k).take j).map Rc.E ++ [Rc.E (y.getD (k + j) default)] := by
  have hl : j < (y.drop k).length := by rw [List.length_drop]; omega
  rw [List.take_succ_eq_append_getElem hl, List.map_append]
  congr 1
  simp only [List.map_cons, List.map_nil]
  rw [List.getElem_drop, List.getD_eq_getElem?_getD, List.getElem?_eq_getElem h]
  rfl
def bb0 (tm vo tm2 vo2 : Int) : Bool := decide (tm ≠ tm2 ∨ vo ≠ vo2)
theorem recsT_yes {tm vo tm2 vo2 : Int} (h : bb0 tm vo tm2 vo2 = true) : recsT tm vo tm2 vo2 = [.T tm2 vo2] := if_pos (of_decide_eq_true h)
theorem recsT_no {tm vo tm2 vo2 : Int} (h : bb0 tm vo tm2 vo2 = false) : recsT tm vo tm2 vo2 = [] := if_neg (of_decide_eq_false h)
set_option maxRecDepth 100000 in
set_option maxHeartbeats 1000000 in
theorem recordsBetween_any (tm vo tm2 vo2 : Int) (u v : Value) (x y : List En) (w : World) (hx : Ens w u x) (hy : Ens w v y) (hlx : x.length ≤ 60) (hly : y.length ≤ 60) :
    Calls Try.prog 76 #[.agg #[.int .i64 tm, .int .i64 vo, u], .agg #[.int .i64 tm2, .int .i64 vo2, v]] w fun e w' => ∃ r, e = .returned r ∧ OwnK w.heap.size w' r (recsP tm vo x tm2 vo2 y) ∧ Below w.heap.size w w' := by
  obtain ⟨i0, hi, hz0, hz1, hz2⟩ := info_parts infoRec
  have hc1 : Try.prog.concrete 147 = true := by kernel_rfl
  have hc2 : Try.prog.concrete 150 = true := by kernel_rfl
  have hc3 : Try.prog.concrete 152 = true := by kernel_rfl
  obtain ⟨a, cap, rfl, hn, hm, hc⟩ := hx
  obtain ⟨a2, cap2, rfl, hn2, hm2, hc2'⟩ := hy
  have BB := ((Below.refl w.heap.size w).alloc (Nat.le_refl _) (.cells #[.int .i64 tm, .int .i64 vo, .slice a x.length cap] 63)).alloc (by simp) (.cells #[.int .i64 tm2, .int .i64 vo2, .slice a2 y.length cap2] 63)
  have B0 := hide BB
  have E1 := hide (Ens.below (v := .slice a x.length cap) (l := x) ⟨a, cap, rfl, hn, hm, hc⟩ BB)
  have E2 := hide (Ens.below (v := .slice a2 y.length cap2) (l := y) ⟨a2, cap2, rfl, hn2, hm2, hc2'⟩ BB)
  have X1 := hide ((Blk.new w #[.int .i64 tm, .int .i64 vo, .slice a x.length cap] 63 w.heap.size rfl).alloc (.cells #[.int .i64 tm2, .int .i64 vo2, .slice a2 y.length cap2] 63))
  have HY0 := hide (show Ens w (.slice a2 y.length cap2) y from ⟨a2, cap2, rfl, hn2, hm2, hc2'⟩)
  have X2 := hide (Blk.new (w.alloc (.cells #[.int .i64 tm, .int .i64 vo, .slice a x.length cap] 63)) #[.int .i64 tm2, .int .i64 vo2, .slice a2 y.length cap2] 63 (w.heap.size + 1) (by simp))
  have HBW := BB.size
  clear hc hc2' hm hm2 BB
  have HT1 := hide (fun h : bb0 tm vo tm2 vo2 = true => recsT_yes h)
  have HT0 := hide (fun h : bb0 tm vo tm2 vo2 = false => recsT_no h)
  have HlT := hide (show (recsT tm vo tm2 vo2).length ≤ 1 by unfold recsT; split <;> simp)
  have HSm := hide (fun wx h1 h2 => sameEntries_any (.slice a x.length cap) (.slice a2 y.length cap2) x y wx h1 h2 (by omega) (by omega))
  have HLe := hide (And.intro (sameN_le1 x y) (sameN_le2 x y))
  have HCd : Hid (recsC x y = if sameN x y < x.length then [.C (sameN x y)] else []) := hide rfl
  have HPd : Hid (recsP tm vo x tm2 vo2 y = recsT tm vo tm2 vo2 ++ (recsC x y ++ (y.drop (sameN x y)).map .E)) := hide rfl
  generalize recsP tm vo x tm2 vo2 y = RP at *
  generalize recsT tm vo tm2 vo2 = RT at *
  generalize recsC x y = RC at *
  generalize sameN x y = k at *
  go_enter Try.func76, Try.ntmps76
  go_upto_region 2 with fail
  generalize (w.alloc (.cells #[.int .i64 tm, .int .i64 vo, .slice a x.length cap] 63)).alloc (.cells #[.int .i64 tm2, .int .i64 vo2, .slice a2 y.length cap2] 63) = w0 at *
  obtain ⟨D, hD⟩ : ∃ D, D = w0.heap.size := ⟨_, rfl⟩
  have HBW0 := hide (unhide B0)
  have hww : w.heap.size ≤ D := by omega
  have e0 := (unhide X1).cell 0 rfl
  have e1 := (unhide X1).cell 1 rfl
  have f0 := (unhide X2).cell 0 rfl
  have f1 := (unhide X2).cell 1 rfl
  have F20 := hide ((unhide X2).cell 2 rfl)
  have hx2 : w.heap.size + 1 < D := by have := (unhide X2).1; omega
  go_cut [20] (fun s wx => s = .bool (bb0 tm vo tm2 vo2) ∧ wx = w0)
  case first =>
    by_cases h1 : tm = tm2
    · have h1n : (tm != tm2) = false := by simp [h1]
      by_cases h2 : vo = vo2
      · have h2n : (vo != vo2) = false := by simp [h2]
        have HB : Hid (bb0 tm vo tm2 vo2 = false) := hide (by simp [bb0, h1, h2])
        clear h1 h2
        go_wp2_with fail
        go_meet
        exact ⟨by rw [unhide HB], rfl⟩
      · have h2n : (vo != vo2) = true := by simp [h2]
        have HB : Hid (bb0 tm vo tm2 vo2 = true) := hide (by simp [bb0, h2])
        clear h1 h2
        go_wp2_with fail
        go_meet
        exact ⟨by rw [unhide HB], rfl⟩
    · have h1n : (tm != tm2) = true := by simp [h1]
      have HB : Hid (bb0 tm vo tm2 vo2 = true) := hide (by simp [bb0, h1])
      clear h1
      go_wp2_with fail
      go_meet
      exact ⟨by rw [unhide HB], rfl⟩
  case rest =>
    obtain ⟨rfl, hw⟩ := hcut
    have hw' := hw.symm
    clear hw
    subst hw'
    generalize bb0 tm vo tm2 vo2 = bb at *
    go_upto_if 20 with fail
    go_cut [5] (fun s wx => ∃ a5 c5, s = .slice a5 RT.length c5 ∧ OwnK D wx (.slice a5 RT.length c5) RT ∧ Below D w0 wx)
    case first =>
      cases bb
      · have HT := hide (unhide HT0 rfl)
        go_wp2_with fail
        go_meet
        rw [unhide HT]
        exact ⟨none, 0, rfl, OwnK.nil _ _, Below.refl _ _⟩
      · have HT := hide (unhide HT1 rfl)
        have HO := hide (World.ownsRow_nil w0 D 109 1)
        have hDs : D ≤ w0.heap.size := by omega
        go_wp2_with (at_builtin; refine wpList_append_lies _ rfl _ _ _ rfl D 109 i0 _ 1 16 Try.underlying106 hi hz0 hz1 hz2 rfl (by omega) (.slice none 0 0) 0 _ rfl (World.ownsRow.alloc (unhide HO) _) ⟨w0.heap.size, 0, none⟩ 1 1 [_] rfl rfl (World.news_of_block (cs := #[_]) (t := 109) (fr := (0, 0)) (heap_alloc_new w0 _)) (by simp [Value.oneCell']) (by omega) (by unfold maxLen; omega) (by omega) (by simp; omega) _ rfl ?_; intro g5 cap5 w5 hown5 hgrow5 hat5 hlt5; have R5 := hide (And.intro hown5 (((Below.refl D w0).alloc hDs _).grown hgrow5 (by simp; omega) (fun r hr => (World.ownsRow.lt (unhide HO) r hr).1))); clear hown5 hgrow5 hat5 hlt5)
        go_meet
        rw [unhide HT]
        exact ⟨some ⟨g5, 0, none⟩, cap5, rfl, OwnK.pushed (l := []) (r := .T tm2 vo2) (unhide R5).1, (unhide R5).2⟩
    case rest =>
      obtain ⟨a5, c5, rfl, hO5, hb5⟩ := hcut
      obtain ⟨wd, hwd⟩ : ∃ wd, wd = wc := ⟨_, rfl⟩
      subst hwd
      have HBD := hide hb5
      rw [hD] at hb5
      have hds := hb5.size
      have X1d := hide ((unhide X1).below hb5)
      have X2d := hide ((unhide X2).below hb5)
      have E1d := hide ((unhide E1).below hb5)
      have E2d := hide ((unhide E2).below hb5)
      have Bd := hide ((unhide B0).trans (hb5.mono (unhide B0).size))
      have HO := hide hO5
      have hlT := unhide HlT
      clear hO5 hb5 X1 X2 E1 E2 B0 e0 e1 f0 f1 HT1 HT0
      have e2 := (unhide X1d).cell 2 rfl
      have f2 := (unhide X2d).cell 2 rfl
      have HS := hide (unhide HSm wd (unhide E1d) (unhide E2d))
      obtain ⟨hle1, hle2⟩ := unhide HLe
      go_wp2_with fail
      refine (unhide HS).mono ?_
      rintro e w1 ⟨rfl, hb1⟩
      have h1s := hb1.size
      have X1e := hide ((unhide X1d).below hb1)
      have X2e := hide ((unhide X2d).below hb1)
      have E2e := hide ((unhide E2d).below hb1)
      have B1 := hide ((unhide Bd).trans (hb1.mono (unhide Bd).size))
      have HO1 := hide ((unhide HO).below hb1)
      have HBD1 := hide ((unhide HBD).trans (hb1.mono (by omega)))
      clear hb1 X1d X2d E1d E2d Bd HO HS e2 f2
      have e2 := (unhide X1e).cell 2 rfl
      have f2 := (unhide X2e).cell 2 rfl
      have HF2 := hide (show w0.cell? ⟨w.heap.size + 1, 2, none⟩ = some (.slice a2 y.length cap2) from unhide F20)
      go_upto_if 39 with fail
      go_cut [5] (fun s wx => ∃ a7 c7, s = .slice a7 (RT ++ RC).length c7 ∧ OwnK D wx (.slice a7 (RT ++ RC).length c7) (RT ++ RC) ∧ Below D w0 wx)
      case first =>
        by_cases hk : k < x.length
        · have HC1 : Hid (RC = [.C k]) := hide (by rw [unhide HCd, if_pos hk])
          go_wp2_with (at_builtin; refine wpList_append_lies _ rfl _ _ _ rfl D 109 i0 _ 1 16 Try.underlying106 hi hz0 hz1 hz2 rfl (by omega) (.slice a5 RT.length c5) RT.length _ rfl (World.ownsRow.alloc (unhide HO1) _) ⟨w1.heap.size, 0, none⟩ 1 1 [_] rfl rfl (World.news_of_block (cs := #[_]) (t := 109) (fr := (0, 0)) (heap_alloc_new w1 _)) (by simp [Value.oneCell']) (by omega) (by unfold maxLen; omega) (by omega) (by simp; omega) _ rfl ?_; intro g5 cap5 w5 hown5 hgrow5 hat5 hlt5; have R5 := hide (And.intro hown5 (((unhide HBD1).alloc (by omega) _).grown hgrow5 (by simp; omega) (fun r hr => (World.ownsRow.lt (unhide HO1) r hr).1))); clear hown5 hgrow5 hat5 hlt5)
          go_meet
          rw [unhide HC1]
          exact ⟨some ⟨g5, 0, none⟩, cap5, by rw [List.length_append]; rfl, OwnK.pushed (r := .C k) (unhide R5).1, (unhide R5).2⟩
        · have HC0 : Hid (RC = []) := hide (by rw [unhide HCd, if_neg hk])
          go_wp2_with fail
          go_meet
          rw [unhide HC0, List.append_nil]
          exact ⟨_, _, rfl, unhide HO1, unhide HBD1⟩
      case rest =>
        obtain ⟨a7, c7, rfl, hO7, hb7⟩ := hcut
        obtain ⟨w7, hw7⟩ : ∃ w7, w7 = wc := ⟨_, rfl⟩
        subst hw7
        have h7s := hb7.size
        have f2 := (hb7.cell (p := ⟨w.heap.size + 1, 2, none⟩) (by omega)).trans (unhide HF2)
        have HO7 := hide hO7
        have HB7 := hide hb7
        have HB8 := hide (show Below w.heap.size w w7 from (unhide HBW0).trans (hb7.mono hww))
        have hlC : RC.length ≤ 1 := by rw [unhide HCd]; split <;> simp
        have hlTC : (RT ++ RC).length ≤ 2 := by rw [List.length_append]; omega
        have HPd2 : Hid (RP = (RT ++ RC) ++ (y.drop k).map .E) := hide (by rw [unhide HPd, List.append_assoc])
        clear hO7 hb7 HO1 HBD1 HCd HPd X1e X2e E2e
        generalize RT ++ RC = RA at *
        have m1 : (0 : Int) ≤ (k : Int) := by omega
        have m2 : (k : Int) ≤ (y.length : Int) := by omega
        by_cases hke : k < y.length
        case neg =>
          have HE0 : Hid (RP = RA) := hide (by rw [unhide HPd2, List.drop_eq_nil_of_le (by omega)]; simp)
          have hyk : y.length - k = 0 := by omega
          clear HPd2
          go_wp2_with fail
          all_goals
            go_loop [5, 51] (fun l i => l = .slice a7 RA.length c7 ∧ i = .int .i64 0) (fun _ _ => 0)
            case atStart => exact ⟨rfl, rfl⟩
            case round =>
              obtain ⟨rfl, rfl⟩ := hrel
              go_wp2_with fail
              go_ret
              exact ⟨_, rfl, by rw [unhide HE0]; exact (unhide HO7).down (by omega), unhide HB8⟩
        obtain ⟨b2, off, rfl, hb2l, _⟩ := (unhide HY0).termR 0 (by omega)
        have hck : ¬ cap2 = k := by omega
        have HEL := hide (fun wx (hx : Below w.heap.size w wx) j (hj : k + j < y.length) => ((unhide HY0).below hx).termR (k + j) hj)
        have HTk := hide (fun j (hj : k + j < y.length) => recsE_succ y k j hj)
        have HT0 : Hid (RA = RA ++ ((y.drop k).take 0).map .E) := hide (by simp)
        have HTA : Hid (RP = RA ++ ((y.drop k).take (y.length - k)).map .E) := hide (by rw [unhide HPd2, List.take_of_length_le (by rw [List.length_drop]; omega)])
        have wsub : ((y.length - k : Nat) : Int) = (y.length : Int) - (k : Int) := by omega
        clear HPd2 HY0
        go_wp2_with fail
        go_loopw [5, 51] (fun l i wr => ∃ (j : Nat) (a8 : Option Addr) (n8 c8 : Nat), j ≤ y.length - k ∧ i = .int .i64 j ∧ l = .slice a8 n8 c8 ∧ n8 = RA.length + j ∧ Hid (OwnK D wr (.slice a8 n8 c8) (RA ++ ((y.drop k).take j).map .E)) ∧ Hid (Below D w0 wr)) (fun _ i _ => y.length - k - (intOf i).toNat)
        case atStart => exact ⟨0, _, _, _, Nat.zero_le _, rfl, rfl, rfl, by rw [← unhide HT0]; exact unhide HO7, unhide HB7⟩
        case round =>
          obtain ⟨j, a8, n8, c8, hj, rfl, rfl, hn8, HO8, HB8'⟩ := hrel
          have hbs := (unhide HB8').size
          have HW8 := hide (show Below w.heap.size w wr from (unhide HBW0).trans ((unhide HB8').mono hww))
          by_cases hlt : j < y.length - k
          · obtain ⟨b3, off3, e3, _, s0, s1, s2⟩ := unhide HEL wr (unhide HW8) j (by omega)
            cases e3
            have HTj := hide (unhide HTk j (by omega))
            generalize y.getD (k + j) default = f at *
            obtain ⟨ft, fk, fd⟩ := f
            dsimp only at s0 s1 s2
            have p0 : (0 : Int) ≤ (j : Int) := by omega
            have p1 : (j : Int) < ((y.length - k : Nat) : Int) := by omega
            have p2 : (j : Int) < (y.length : Int) - (k : Int) := by omega
            have ead : off + k * 3 + j * 3 = off + (k + j) * 3 := by omega
            rw [← ead] at s0 s1 s2
            clear ead
            go_upto_region 10 with fail
            have X9 := Blk.new wr #[.int .i64 ft, .int .i64 fk, .string fd] 102 wr.heap.size rfl
            have b0 := X9.cell 0 rfl
            have b1 := X9.cell 1 rfl
            have b2' := X9.cell 2 rfl
            have HO9 := hide (OwnK.below (unhide HO8) ((Below.refl wr.heap.size wr).alloc (Nat.le_refl _) (.cells #[.int .i64 ft, .int .i64 fk, .string fd] 102)))
            have HB9 := hide ((unhide HB8').alloc (by omega) (.cells #[.int .i64 ft, .int .i64 fk, .string fd] 102))
            have h9s : D ≤ (wr.alloc (.cells #[.int .i64 ft, .int .i64 fk, .string fd] 102)).heap.size := by simp; omega
            clear X9 HO8 HB8' HW8 s0 s1 s2
            generalize wr.alloc (.cells #[.int .i64 ft, .int .i64 fk, .string fd] 102) = w9 at *
            have HOL := hide (show w9.ownsRow D 109 1 (.slice a8 n8 c8) n8 ((RA ++ ((y.drop k).take j).map Rc.E).map (fun r => rcV (some r))) by
              have h := unhide HO9
              unfold OwnK at h
              rw [List.length_append, List.length_map, List.length_take, List.length_drop, Nat.min_eq_left (by omega), ← hn8] at h
              exact h)
            have hq : n8 ≤ 100 := by omega
            have hn8h := hide hn8
            clear HO9 hn8
            go_wp2_with (at_builtin; refine wpList_append_lies _ rfl _ _ _ rfl D 109 i0 _ 1 16 Try.underlying106 hi hz0 hz1 hz2 rfl (by omega) (.slice a8 n8 c8) n8 _ rfl (World.ownsRow.alloc (unhide HOL) _) ⟨w9.heap.size, 0, none⟩ 1 1 [_] rfl rfl (World.news_of_block (cs := #[_]) (t := 109) (fr := (0, 0)) (heap_alloc_new w9 _)) (by simp [Value.oneCell']) (by omega) (by unfold maxLen; omega) (by omega) (by simp; omega) _ rfl ?_; intro g5 cap5 w5 hown5 hgrow5 hat5 hlt5; have R5 := hide (And.intro hown5 (((unhide HB9).alloc (by omega) _).grown hgrow5 (by simp; omega) (fun r hr => (World.ownsRow.lt (unhide HOL) r hr).1))); clear hown5 hgrow5 hat5 hlt5)
            refine ⟨⟨j + 1, some ⟨g5, 0, none⟩, n8 + 1, cap5, by omega, by go_num, rfl, by have := unhide hn8h; omega, ?_, (unhide R5).2⟩, ?_⟩
            · rw [unhide HTj, ← List.append_assoc]
              have h := (unhide R5).1
              have e8 : n8 = (RA ++ ((y.drop k).take j).map Rc.E).length := by rw [List.length_append, List.length_map, List.length_take, List.length_drop, Nat.min_eq_left (by omega)]; exact unhide hn8h
              rw [e8] at h ⊢
              exact hide (OwnK.pushed (r := .E ⟨ft, fk, fd⟩) h |> fun h => by rw [List.length_append] at h; exact h)
            · simp [intOf]; omega
          · obtain rfl : j = y.length - k := by omega
            go_wp2_with fail
            go_ret
            exact ⟨_, rfl, by rw [unhide HTA]; exact (unhide HO8).down (by omega), unhide HW8⟩
end Go.Proofs.Ytafbdjcoimopfaa
