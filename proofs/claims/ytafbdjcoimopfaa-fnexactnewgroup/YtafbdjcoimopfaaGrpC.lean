/- spec.l11New, spec.NewGroup, walked. (Written by py/grpc.py.) -/
import Derived.Test.YtafbdjcoimopfaaGrpB
import Derived.Test.YtafbdjcoimopfaaNodN
namespace Go.Proofs.Ytafbdjcoimopfaa
open Go.ChangeShapes Go.WideShapes Go.ChangeAt Go.RowKit Go.Deep
set_option linter.unusedVariables false
set_option linter.unusedSimpArgs false

theorem isG_push {m j : Nat} {l : List NV} {y : NV} (h : ∀ (i : Nat) (x : NV), l[i]? = some x → isG m i x) (hl : l.length = j) (hy : isG m j y) : ∀ (i : Nat) (x : NV), (l ++ [y])[i]? = some x → isG m i x := by
  intro i x hx
  by_cases hil : i < l.length
  · rw [List.getElem?_append_left hil] at hx
    exact h i x hx
  · have hij : i = j := by
      have := (List.getElem?_eq_some_iff.1 hx).1
      rw [List.length_append, List.length_cons, List.length_nil] at this
      omega
    rw [List.getElem?_append_right (by omega), show i - l.length = 0 by omega] at hx
    simp only [List.getElem?_cons_zero, Option.some.injEq] at hx
    subst hx hij
    exact hy
set_option maxRecDepth 100000 in
set_option maxHeartbeats 8000000 in
theorem l11New_any (m : Nat) (h1 : 1 ≤ m) (h5 : m ≤ 5) (w : World) :
    Calls Try.prog 39 #[.int .i64 (m : Int)] w fun e w' => ∃ v a1 a2 a3 l, e = .returned (.agg #[v, .slice a1 0 0, .slice a2 0 0, .slice a3 0 0]) ∧ Ns nvS w.heap.size w' v m l ∧ (∀ (i : Nat) (x : NV), l[i]? = some x → isG m i x) ∧ Below w.heap.size w w' := by
  obtain ⟨i0, hi, hz0, hz1, hz2⟩ := info_parts info3
  obtain ⟨i1, hj, hy0, hy1, hy2⟩ := info_parts infoNod
  have B0 := hide (((Below.refl w.heap.size w).alloc (Nat.le_refl _) (.cells #[.slice none 0 0, .slice none 0 0, .slice none 0 0, .slice none 0 0] 27)).alloc (by simp) (.cells #[] 3))
  have X0 := hide ((Blk.new w #[.slice none 0 0, .slice none 0 0, .slice none 0 0, .slice none 0 0] 27 w.heap.size rfl).alloc (.cells #[] 3))
  have HE0 := hide (show OwnI (w.heap.size + 1) ((w.alloc (.cells #[.slice none 0 0, .slice none 0 0, .slice none 0 0, .slice none 0 0] 27)).alloc (.cells #[] 3)) (.slice (some ⟨w.heap.size + 1, 0, none⟩) 0 0) [] from OwnI.empty _ _ _ (by simp) (Nat.le_refl _))
  have HMS : Hid (msG m = (List.range (min m 3)).map (fun i : Nat => (i : Int))) := hide rfl
  have HML := hide (msG_len m)
  obtain ⟨p, hp⟩ : ∃ p : Nat, p = min m 3 := ⟨_, rfl⟩
  rw [← hp] at HMS HML
  have hp3 : p ≤ 3 ∧ 1 ≤ p := by omega
  have HP : Hid ((m ≤ 3 ∧ p = m) ∨ (3 < m ∧ p = 3)) := hide (by omega)
  clear hp
  go_enter Try.func39, Try.ntmps39
  go_upto_region 3 with fail
  have hD0 : w.heap.size + 1 ≤ ((w.alloc (.cells #[.slice none 0 0, .slice none 0 0, .slice none 0 0, .slice none 0 0] 27)).alloc (.cells #[] 3)).heap.size := by simp
  generalize (w.alloc (.cells #[.slice none 0 0, .slice none 0 0, .slice none 0 0, .slice none 0 0] 27)).alloc (.cells #[] 3) = w0 at *
  obtain ⟨D, hD⟩ : ∃ D, D = w.heap.size + 1 := ⟨_, rfl⟩
  rw [← hD] at hD0
  have HE1 := hide (show OwnI D w0 (.slice (some ⟨w.heap.size + 1, 0, none⟩) 0 0) [] by rw [hD]; exact unhide HE0)
  clear HE0
  have HDD := hide hD
  have hDw : w.heap.size < D := by omega
  go_loopw [3, 4] (fun l i wr => ∃ (j : Nat) (a8 : Option Addr) (c8 : Nat), j ≤ p ∧ i = .int .i64 (j : Int) ∧ l = .slice a8 j c8 ∧ Hid (wr.ownsRow D 3 1 (.slice a8 j c8) j (((List.range j).map (fun i : Nat => (i : Int))).map (Value.int .i64))) ∧ Hid (Below D w0 wr)) (fun _ i _ => p - (intOf i).toNat)
  case atStart => exact ⟨0, _, _, Nat.zero_le _, rfl, rfl, hide (unhide HE1), hide (Below.refl _ _)⟩
  case round =>
    obtain ⟨j, a8, c8, hjp, rfl, rfl, HO8, HB8⟩ := hrel
    have hbs := (unhide HB8).size
    go_upto_region 3 with fail
    go_cut [11] (fun s wx => s = .bool (decide (j < p)) ∧ wx = wr)
    case first =>
      rcases unhide HP with ⟨h3, hpm⟩ | ⟨h3, hpm⟩
      · have q1 : (m : Int) ≤ 3 := by omega
        have q2 : ¬ (3 : Int) < (m : Int) := by omega
        have HQ := hide hpm
        clear hpm
        go_wp2_with fail
        all_goals
          go_meet
          exact ⟨congrArg Value.bool (by have e := unhide HQ; rw [Bool.eq_iff_iff]; simp only [decide_eq_true_eq]; omega), rfl⟩
      · have q1 : ¬ (m : Int) ≤ 3 := by omega
        have q2 : (3 : Int) < (m : Int) := by omega
        have HQ := hide hpm
        clear hpm
        go_wp2_with fail
        all_goals
          go_meet
          exact ⟨congrArg Value.bool (by have e := unhide HQ; rw [Bool.eq_iff_iff]; simp only [decide_eq_true_eq]; omega), rfl⟩
    case rest =>
    obtain ⟨rfl, hw⟩ := hcut
    have hw' := hw.symm
    clear hw
    subst hw'
    by_cases hlt : j < p
    · have HRg := hide (range_push j)
      have hdc : decide (j < p) = true := decide_eq_true hlt
      rw [hdc]
      clear hdc
      go_wp2_with (at_builtin; refine wpList_append_lies _ rfl _ _ _ rfl D 3 i0 _ 1 8 Try.underlying34 hi hz0 hz1 hz2 rfl (by omega) (.slice a8 j c8) j _ rfl (World.ownsRow.alloc (unhide HO8) _) ⟨wr.heap.size, 0, none⟩ 1 1 [_] rfl rfl (World.news_of_block (cs := #[_]) (t := 3) (fr := (0, 0)) (heap_alloc_new wr _)) (by simp [Value.oneCell']) (by omega) (by unfold maxLen; omega) (by omega) (by simp; omega) _ rfl ?_; intro g5 cap5 w5 hown5 hgrow5 hat5 hlt5; have R5 := hide (And.intro hown5 (((unhide HB8).alloc (by omega) _).grown hgrow5 (by simp; omega) (fun r hr => (World.ownsRow.lt (unhide HO8) r hr).1))); clear hown5 hgrow5 hat5 hlt5)
      refine ⟨⟨j + 1, some ⟨g5, 0, none⟩, cap5, by omega, by go_num, rfl, ?_, hide (unhide R5).2⟩, ?_⟩
      · rw [unhide HRg]; exact hide (unhide R5).1
      · simp [intOf]; omega
    have hdc : decide (j < p) = false := decide_eq_false hlt
    rw [hdc]
    obtain rfl : j = p := by omega
    have hms := unhide HML
    have HM1 := hide (show OwnI D wr (.slice a8 (msG m).length c8) (msG m) by unfold OwnI; rw [unhide HMS, List.length_map, List.length_range]; exact unhide HO8)
    have hml : (msG m).length ≤ 3 := by omega
    rw [← hms]
    have HX1 := hide (show Blk wr w.heap.size _ from (unhide X0).kept (T := fun k => D ≤ k) ⟨(unhide HB8).os, (unhide HB8).tape, (unhide HB8).output, (unhide HB8).size, fun k hk hn => (unhide HB8).block k (by omega)⟩ (fun e => by omega))
    have BW := hide ((unhide B0).trans ((unhide HB8).mono (by omega)))
    have hMB := fun k hk => World.ownsRow.lt (unhide HM1) k hk
    have HMB := hide hMB
    clear HO8 HMS HML HP X0 hms hdc hMB HE1 B0 HB8
    have BB := ((((Below.refl wr.heap.size wr).alloc (Nat.le_refl _) (.cells #[] 98)).alloc (by simp) (.cells #[] 115)).alloc (by simp; omega) (.cells #[] 118)).alloc (by simp; omega) (.cells #[.slice none 0 0, .slice (some ⟨wr.heap.size, 0, none⟩) 0 0, .slice (some ⟨wr.heap.size + 1, 0, none⟩) 0 0, .slice (some ⟨wr.heap.size + 1 + 1, 0, none⟩) 0 0] 27)
    have XG := hide (Blk.new (((wr.alloc (.cells #[] 98)).alloc (.cells #[] 115)).alloc (.cells #[] 118)) #[.slice none 0 0, .slice (some ⟨wr.heap.size, 0, none⟩) 0 0, .slice (some ⟨wr.heap.size + 1, 0, none⟩) 0 0, .slice (some ⟨wr.heap.size + 1 + 1, 0, none⟩) 0 0] 27 (wr.heap.size + 1 + 1 + 1) (by simp))
    have HM2 := hide ((unhide HM1).below BB)
    have HX2 := hide ((unhide HX1).below BB)
    have BW2 := hide ((unhide BW).trans (BB.mono (unhide BW).size))
    have hE0 := (unhide XG).1
    clear BB HM1 HX1 BW
    go_upto_region 8 with fail
    generalize (((wr.alloc (.cells #[] 98)).alloc (.cells #[] 115)).alloc (.cells #[] 118)).alloc (.cells #[.slice none 0 0, .slice (some ⟨wr.heap.size, 0, none⟩) 0 0, .slice (some ⟨wr.heap.size + 1, 0, none⟩) 0 0, .slice (some ⟨wr.heap.size + 1 + 1, 0, none⟩) 0 0] 27) = w2 at *
    obtain ⟨gb, hgb⟩ : ∃ gb, gb = wr.heap.size + 1 + 1 + 1 := ⟨_, rfl⟩
    rw [← hgb] at XG hE0 ⊢
    obtain ⟨b1, hb1⟩ : ∃ b1, b1 = wr.heap.size := ⟨_, rfl⟩
    obtain ⟨b2, hb2⟩ : ∃ b2, b2 = wr.heap.size + 1 := ⟨_, rfl⟩
    obtain ⟨b3, hb3⟩ : ∃ b3, b3 = wr.heap.size + 1 + 1 := ⟨_, rfl⟩
    rw [← hb3] at XG ⊢
    rw [← hb2] at XG ⊢
    rw [← hb1] at XG ⊢
    have hDg : D ≤ gb := by omega
    have HGB := hide hgb
    clear hgb hbs hb1 hb2 hb3
    obtain ⟨E, hE⟩ : ∃ E, E = w2.heap.size := ⟨_, rfl⟩
    have hgE : gb < E := by omega
    go_loopw [6] (fun i wr => ∃ (j : Nat) (v : Value) (l : List NV), j ≤ m ∧ i = .int .i64 (j : Int) ∧ Hid (Blk wr gb [v, .slice (some ⟨b1, 0, none⟩) 0 0, .slice (some ⟨b2, 0, none⟩) 0 0, .slice (some ⟨b3, 0, none⟩) 0 0]) ∧ Hid (Ns nvS E wr v j l) ∧ Hid (∀ (i : Nat) (x : NV), l[i]? = some x → isG m i x) ∧ Hid (Touch (fun k => k = gb) w2 wr)) (fun i _ => m - (intOf i).toNat)
    case atStart => exact ⟨0, .slice none 0 0, [], Nat.zero_le _, rfl, XG, hide (Ns.nil nvS _ _), hide (fun i x h => by simp at h), hide (Touch.refl _ _)⟩
    case round =>
      obtain ⟨j, v, l, hjm, rfl, XR, NR, GR, TR⟩ := hrel
      have hrs := (unhide TR).size
      by_cases hlt : j < m
      · have q1 : (j : Int) < (m : Int) := by omega
        have HMr := hide (OwnI.ints ((unhide HM2).kept (unhide TR) (fun k hk e => by have := unhide HMB k hk; have := unhide HGB; omega)))
        have hvg : ∀ k, v.ownBlock = some k → gb ≠ k := fun k hk e => by have := (World.ownsRow.lt (unhide NR).row k hk).1; omega
        have hvs : ∀ k, v.ownBlock = some k → E ≤ k ∧ k < wr.heap.size := World.ownsRow.lt (unhide NR).row
        have hdb := below_drewN (Below.refl wr.heap.size wr) 1
        change Below wr.heap.size wr wr.drew at hdb
        have NQ := hide ((unhide NR).below hdb)
        have XQ := hide ((unhide XR).below hdb)
        have HMq := hide ((unhide HMr).below hdb)
        have TQ := hide ((unhide TR).trans (T' := fun _ => False) (Touch.ofBelow hdb) (fun _ _ e => e.elim))
        have hqs : w2.heap.size ≤ wr.drew.heap.size := (unhide TQ).size
        have hqe : wr.drew.heap.size = wr.heap.size := rfl
        have g0q := (unhide XQ).cell 0 rfl
        have HLN := hide (unhide NR).ln
        clear hdb NR XR HMr TR
        go_upto_region 10 with fail
        refine wp_region_noPanic ?_
        refine wp_region_held_drew (S := (fun _ => True)) (by kernel_rfl) ?_ (fun hHeld => ?_)
        · trivial
        refine wpAnyH_take (i := 0) (oi := _) (v := ?_) rfl (by kernel_rfl) (by kernel_rfl) (by kernel_rfl) (fun _ _ _ h => h) (Or.inl ⟨by rfl, ?_⟩) (by assumption) ?_
        rotate_left 1
        · (intro wq hSw; (try dsimp only at hSw); (try simp only [List.getElem_toArray, List.getElem_cons_succ, List.getElem_cons_zero]); go_simp; try with_reducible rfl)
        (try simp only [Act.put, List.getElem_toArray, List.getElem_cons_succ, List.getElem_cons_zero, List.setIfInBounds_toArray, List.set_cons_zero, List.set_cons_succ])
        refine wpAnyH_take (i := 2) (oi := _) (v := ?_) rfl (by kernel_rfl) (by kernel_rfl) (by kernel_rfl) (fun _ _ _ h => h) (Or.inl ⟨by rfl, ?_⟩) (by assumption) ?_
        rotate_left 1
        · (intro wq hSw; (try dsimp only at hSw); (try simp only [List.getElem_toArray, List.getElem_cons_succ, List.getElem_cons_zero]); go_simp; try with_reducible rfl)
        (try simp only [Act.put, List.getElem_toArray, List.getElem_cons_succ, List.getElem_cons_zero, List.setIfInBounds_toArray, List.set_cons_zero, List.set_cons_succ])
        refine wpAnyH_take (i := 3) (oi := _) (v := ?_) rfl (by kernel_rfl) (by kernel_rfl) (by kernel_rfl) (fun _ _ _ h => h) (Or.inl ⟨by rfl, ?_⟩) (by assumption) ?_
        rotate_left 1
        · (intro wq hSw; (try dsimp only at hSw); (try simp only [List.getElem_toArray, List.getElem_cons_succ, List.getElem_cons_zero]); go_simp; try with_reducible rfl)
        (try simp only [Act.put, List.getElem_toArray, List.getElem_cons_succ, List.getElem_cons_zero, List.setIfInBounds_toArray, List.set_cons_zero, List.set_cons_succ])
        obtain ⟨wq, hwq⟩ : ∃ wq, wq = wr.drew := ⟨_, rfl⟩
        rw [← hwq] at NQ XQ HMq TQ hqs hqe g0q ⊢
        clear hwq
        refine wpAnyH_ready (rs := [1, 4]) (by kernel_rfl) (by simp) ?_
        refine AllReadyH.cons (o := _) rfl (fun K hK => ?_) (AllReadyH.cons (o := _) rfl (fun K hK => ?_) AllReadyH.nil)
        · skip
          have gc := g0q
          go_simp
          refine hK.out _ _ trivial (fun hHeld => ?_)
          clear hK K
          (try simp only [Act.put, List.getElem_toArray, List.getElem_cons_succ, List.getElem_cons_zero, List.setIfInBounds_toArray, List.set_cons_zero, List.set_cons_succ])
          clear gc
          refine wpAnyH_ready (rs := [4]) (by kernel_rfl) (by simp) ?_
          refine AllReadyH.cons (o := _) rfl (fun K hK => ?_) AllReadyH.nil
          go_simp
          refine (l10New_any (j : Int) (by omega) (by omega) a8 c8 (msG m) wq (unhide HMq) (by omega)).mono ?_
          rintro e w3 ⟨g8, a1, c1, g12, g15, an, cn, rfl, hO3, hb3⟩
          have X3 := hide ((unhide XQ).below hb3)
          have HO3 := hide hO3
          have HB3 := hide hb3
          have HRow3 := hide (own_kept (T := fun _ => False) (unhide NQ).row (Touch.ofBelow hb3) (fun _ _ e => e))
          have h3s := hb3.size
          clear hO3 hb3
          go_wp2_with fail
          refine hK.out _ _ trivial (fun hHeld => ?_)
          clear hK K
          (try simp only [Act.put, List.getElem_toArray, List.getElem_cons_succ, List.getElem_cons_zero, List.setIfInBounds_toArray, List.set_cons_zero, List.set_cons_succ])
          refine wpAnyH_ready (rs := [5]) (by kernel_rfl) (by simp) ?_
          refine AllReadyH.cons (o := _) rfl (fun K hK => ?_) AllReadyH.nil
          go_simp
          have BB := (Below.refl w3.heap.size w3).alloc (Nat.le_refl _) (.cells #[.int .i64 (j : Int), .int .i64 0, .int .i64 (-1), .slice (some ⟨g8, 0, none⟩) 0 0, .slice a1 (msG m).length c1, .int .i64 0, .slice (some ⟨g12, 0, none⟩) 0 0, .slice an 7 cn, .slice (some ⟨g15, 0, none⟩) 7 7, .int .i64 0, .int .i64 0, .int .i64 (5 + (j : Int)), .bool true] 42)
          have X4 := hide ((unhide X3).below BB)
          have HB4 := hide BB
          have HRow4 := hide (own_kept (T := fun _ => False) (unhide HRow3) (Touch.ofBelow BB) (fun _ _ e => e))
          have HNB := hide (heap_alloc_new w3 (.cells #[.int .i64 (j : Int), .int .i64 0, .int .i64 (-1), .slice (some ⟨g8, 0, none⟩) 0 0, .slice a1 (msG m).length c1, .int .i64 0, .slice (some ⟨g12, 0, none⟩) 0 0, .slice an 7 cn, .slice (some ⟨g15, 0, none⟩) 7 7, .int .i64 0, .int .i64 0, .int .i64 (5 + (j : Int)), .bool true] 42))
          have h4s := BB.size
          clear BB
          refine hK.out _ _ trivial (fun hHeld => ?_)
          clear hK K
          (try simp only [Act.put, List.getElem_toArray, List.getElem_cons_succ, List.getElem_cons_zero, List.setIfInBounds_toArray, List.set_cons_zero, List.set_cons_succ])
          generalize w3.alloc (.cells #[.int .i64 (j : Int), .int .i64 0, .int .i64 (-1), .slice (some ⟨g8, 0, none⟩) 0 0, .slice a1 (msG m).length c1, .int .i64 0, .slice (some ⟨g12, 0, none⟩) 0 0, .slice an 7 cn, .slice (some ⟨g15, 0, none⟩) 7 7, .int .i64 0, .int .i64 0, .int .i64 (5 + (j : Int)), .bool true] 42) = w4 at *
          obtain ⟨bg, hbg⟩ : ∃ bg, bg = w3.heap.size := ⟨_, rfl⟩
          rw [← hbg] at HNB ⊢
          clear hbg
          refine wpAnyH_ready (rs := [6]) (by kernel_rfl) (by simp) ?_
          refine AllReadyH.cons (o := _) rfl (fun K hK => ?_) AllReadyH.nil
          refine step_append_lies _ rfl _ _ _ rfl E 42 i1 _ 13 184 Try.underlying22 hj hy0 hy1 hy2 rfl (by omega) v j _ rfl (unhide HRow4) ⟨bg, 0, none⟩ 1 1 [_, _, _, _, _, _, _, _, _, _, _, _, _] rfl rfl (World.news_of_block (cs := #[_, _, _, _, _, _, _, _, _, _, _, _, _]) (t := 42) (fr := (0, 0)) (unhide HNB)) (by simp [Value.oneCell']) (by omega) (by unfold maxLen; omega) (by omega) (by omega) _ rfl ?_
          intro g5 cap5 w5 hown5 hgrow5 hat5 hlt5
          have R5 := hide (And.intro hown5 (And.intro hgrow5 hat5))
          have XB5 := hide ((unhide X4).kept ((Touch.refl (fun k => v.ownBlock = some k) _).grown hgrow5 (fun k e _ => e)) (fun e => hvg gb e rfl))
          have C5 := (unhide XB5).cell 0 rfl
          have F5 := (unhide XB5).fro 0
          clear hown5 hgrow5 hat5 hlt5
          refine hK.out _ _ trivial (fun hHeld => ?_)
          clear hK K
          (try simp only [Act.put, List.getElem_toArray, List.getElem_cons_succ, List.getElem_cons_zero, List.setIfInBounds_toArray, List.set_cons_zero, List.set_cons_succ])
          refine wpAnyH_take (i := 7) (oi := _) (v := ?_) rfl (by kernel_rfl) (by kernel_rfl) (by kernel_rfl) (fun _ _ _ h => h) (Or.inl ⟨by rfl, ?_⟩) (by assumption) ?_
          rotate_left 1
          · (intro wq hSw; (try dsimp only at hSw); (try simp only [List.getElem_toArray, List.getElem_cons_succ, List.getElem_cons_zero]); go_simp; try with_reducible rfl)
          (try simp only [Act.put, List.getElem_toArray, List.getElem_cons_succ, List.getElem_cons_zero, List.setIfInBounds_toArray, List.set_cons_zero, List.set_cons_succ])
          refine wpAnyH_ready (rs := [8]) (by kernel_rfl) (by simp) ?_
          refine AllReadyH.cons (o := _) rfl (fun K hK => ?_) AllReadyH.nil
          go_simp
          refine hK.out _ _ trivial (fun hHeld => ?_)
          clear hK K
          (try simp only [Act.put, List.getElem_toArray, List.getElem_cons_succ, List.getElem_cons_zero, List.setIfInBounds_toArray, List.set_cons_zero, List.set_cons_succ])
          refine wpAnyH_done (by kernel_rfl) (NoPanic.normal ?_) _
          have NS := Ns.pushed (S := nvS) (x := (⟨(j : Int), 0, -1, 0, 0, 0, 5 + (j : Int), true, [], msG m, [], List.replicate 7 1, List.replicate 7 0, .slice (some ⟨g8, 0, none⟩) 0 0, .slice a1 (msG m).length c1, .slice (some ⟨g12, 0, none⟩) 0 0, .slice an 7 cn, .slice (some ⟨g15, 0, none⟩) 7 7⟩ : NV)) (u := .slice (some ⟨g5, 0, none⟩) (j + 1) cap5) (unhide NQ) (unhide HB3) (noO_subs (unhide HO3)) (unhide HO3).ap (unhide HB4) (unhide R5).1 (unhide R5).2.1 ((unhide R5).2.2) hgE (by omega)
          have TF := (((((unhide TQ).trans (T' := fun _ => False) (Touch.ofBelow (unhide HB3)) (fun _ _ e => e.elim)).trans (T' := fun _ => False) (Touch.ofBelow (unhide HB4)) (fun _ _ e => e.elim))).grown (unhide R5).2.1 (fun k e hk => by have := hvs k e; omega)).setCell ⟨gb, 0, none⟩ (.slice (some ⟨g5, 0, none⟩) (j + 1) cap5) (fun _ => rfl)
          have FIN := hide (And.intro ((unhide XB5).set 0 (.slice (some ⟨g5, 0, none⟩) (j + 1) cap5) (by simp)) (And.intro NS (And.intro (isG_push (unhide GR) (unhide HLN) (y := (⟨(j : Int), 0, -1, 0, 0, 0, 5 + (j : Int), true, [], msG m, [], List.replicate 7 1, List.replicate 7 0, .slice (some ⟨g8, 0, none⟩) 0 0, .slice a1 (msG m).length c1, .slice (some ⟨g12, 0, none⟩) 0 0, .slice an 7 cn, .slice (some ⟨g15, 0, none⟩) 7 7⟩ : NV)) ⟨rfl, rfl, rfl, rfl, rfl, rfl, rfl, rfl, rfl, rfl, rfl, rfl, rfl⟩) TF)))
          clear NS TF
          go_wp2_with fail
          refine ⟨⟨j + 1, _, l ++ [(⟨(j : Int), 0, -1, 0, 0, 0, 5 + (j : Int), true, [], msG m, [], List.replicate 7 1, List.replicate 7 0, .slice (some ⟨g8, 0, none⟩) 0 0, .slice a1 (msG m).length c1, .slice (some ⟨g12, 0, none⟩) 0 0, .slice an 7 cn, .slice (some ⟨g15, 0, none⟩) 7 7⟩ : NV)], by omega, by go_num, hide (unhide FIN).1, hide (unhide FIN).2.1, hide (unhide FIN).2.2.1, hide (unhide FIN).2.2.2⟩, ?_⟩
          simp [intOf]; omega
        · skip
          go_simp
          refine (l10New_any (j : Int) (by omega) (by omega) a8 c8 (msG m) wq (unhide HMq) (by omega)).mono ?_
          rintro e w3 ⟨g8, a1, c1, g12, g15, an, cn, rfl, hO3, hb3⟩
          have X3 := hide ((unhide XQ).below hb3)
          have HO3 := hide hO3
          have HB3 := hide hb3
          have HRow3 := hide (own_kept (T := fun _ => False) (unhide NQ).row (Touch.ofBelow hb3) (fun _ _ e => e))
          have h3s := hb3.size
          clear hO3 hb3
          go_wp2_with fail
          refine hK.out _ _ trivial (fun hHeld => ?_)
          clear hK K
          (try simp only [Act.put, List.getElem_toArray, List.getElem_cons_succ, List.getElem_cons_zero, List.setIfInBounds_toArray, List.set_cons_zero, List.set_cons_succ])
          refine wpAnyH_ready (rs := [1, 5]) (by kernel_rfl) (by simp) ?_
          refine AllReadyH.cons (o := _) rfl (fun K hK => ?_) (AllReadyH.cons (o := _) rfl (fun K hK => ?_) AllReadyH.nil)
          · skip
            have gc := (unhide X3).cell 0 rfl
            go_simp
            refine hK.out _ _ trivial (fun hHeld => ?_)
            clear hK K
            (try simp only [Act.put, List.getElem_toArray, List.getElem_cons_succ, List.getElem_cons_zero, List.setIfInBounds_toArray, List.set_cons_zero, List.set_cons_succ])
            clear gc
            refine wpAnyH_ready (rs := [5]) (by kernel_rfl) (by simp) ?_
            refine AllReadyH.cons (o := _) rfl (fun K hK => ?_) AllReadyH.nil
            go_simp
            have BB := (Below.refl w3.heap.size w3).alloc (Nat.le_refl _) (.cells #[.int .i64 (j : Int), .int .i64 0, .int .i64 (-1), .slice (some ⟨g8, 0, none⟩) 0 0, .slice a1 (msG m).length c1, .int .i64 0, .slice (some ⟨g12, 0, none⟩) 0 0, .slice an 7 cn, .slice (some ⟨g15, 0, none⟩) 7 7, .int .i64 0, .int .i64 0, .int .i64 (5 + (j : Int)), .bool true] 42)
            have X4 := hide ((unhide X3).below BB)
            have HB4 := hide BB
            have HRow4 := hide (own_kept (T := fun _ => False) (unhide HRow3) (Touch.ofBelow BB) (fun _ _ e => e))
            have HNB := hide (heap_alloc_new w3 (.cells #[.int .i64 (j : Int), .int .i64 0, .int .i64 (-1), .slice (some ⟨g8, 0, none⟩) 0 0, .slice a1 (msG m).length c1, .int .i64 0, .slice (some ⟨g12, 0, none⟩) 0 0, .slice an 7 cn, .slice (some ⟨g15, 0, none⟩) 7 7, .int .i64 0, .int .i64 0, .int .i64 (5 + (j : Int)), .bool true] 42))
            have h4s := BB.size
            clear BB
            refine hK.out _ _ trivial (fun hHeld => ?_)
            clear hK K
            (try simp only [Act.put, List.getElem_toArray, List.getElem_cons_succ, List.getElem_cons_zero, List.setIfInBounds_toArray, List.set_cons_zero, List.set_cons_succ])
            generalize w3.alloc (.cells #[.int .i64 (j : Int), .int .i64 0, .int .i64 (-1), .slice (some ⟨g8, 0, none⟩) 0 0, .slice a1 (msG m).length c1, .int .i64 0, .slice (some ⟨g12, 0, none⟩) 0 0, .slice an 7 cn, .slice (some ⟨g15, 0, none⟩) 7 7, .int .i64 0, .int .i64 0, .int .i64 (5 + (j : Int)), .bool true] 42) = w4 at *
            obtain ⟨bg, hbg⟩ : ∃ bg, bg = w3.heap.size := ⟨_, rfl⟩
            rw [← hbg] at HNB ⊢
            clear hbg
            refine wpAnyH_ready (rs := [6]) (by kernel_rfl) (by simp) ?_
            refine AllReadyH.cons (o := _) rfl (fun K hK => ?_) AllReadyH.nil
            refine step_append_lies _ rfl _ _ _ rfl E 42 i1 _ 13 184 Try.underlying22 hj hy0 hy1 hy2 rfl (by omega) v j _ rfl (unhide HRow4) ⟨bg, 0, none⟩ 1 1 [_, _, _, _, _, _, _, _, _, _, _, _, _] rfl rfl (World.news_of_block (cs := #[_, _, _, _, _, _, _, _, _, _, _, _, _]) (t := 42) (fr := (0, 0)) (unhide HNB)) (by simp [Value.oneCell']) (by omega) (by unfold maxLen; omega) (by omega) (by omega) _ rfl ?_
            intro g5 cap5 w5 hown5 hgrow5 hat5 hlt5
            have R5 := hide (And.intro hown5 (And.intro hgrow5 hat5))
            have XB5 := hide ((unhide X4).kept ((Touch.refl (fun k => v.ownBlock = some k) _).grown hgrow5 (fun k e _ => e)) (fun e => hvg gb e rfl))
            have C5 := (unhide XB5).cell 0 rfl
            have F5 := (unhide XB5).fro 0
            clear hown5 hgrow5 hat5 hlt5
            refine hK.out _ _ trivial (fun hHeld => ?_)
            clear hK K
            (try simp only [Act.put, List.getElem_toArray, List.getElem_cons_succ, List.getElem_cons_zero, List.setIfInBounds_toArray, List.set_cons_zero, List.set_cons_succ])
            refine wpAnyH_take (i := 7) (oi := _) (v := ?_) rfl (by kernel_rfl) (by kernel_rfl) (by kernel_rfl) (fun _ _ _ h => h) (Or.inl ⟨by rfl, ?_⟩) (by assumption) ?_
            rotate_left 1
            · (intro wq hSw; (try dsimp only at hSw); (try simp only [List.getElem_toArray, List.getElem_cons_succ, List.getElem_cons_zero]); go_simp; try with_reducible rfl)
            (try simp only [Act.put, List.getElem_toArray, List.getElem_cons_succ, List.getElem_cons_zero, List.setIfInBounds_toArray, List.set_cons_zero, List.set_cons_succ])
            refine wpAnyH_ready (rs := [8]) (by kernel_rfl) (by simp) ?_
            refine AllReadyH.cons (o := _) rfl (fun K hK => ?_) AllReadyH.nil
            go_simp
            refine hK.out _ _ trivial (fun hHeld => ?_)
            clear hK K
            (try simp only [Act.put, List.getElem_toArray, List.getElem_cons_succ, List.getElem_cons_zero, List.setIfInBounds_toArray, List.set_cons_zero, List.set_cons_succ])
            refine wpAnyH_done (by kernel_rfl) (NoPanic.normal ?_) _
            have NS := Ns.pushed (S := nvS) (x := (⟨(j : Int), 0, -1, 0, 0, 0, 5 + (j : Int), true, [], msG m, [], List.replicate 7 1, List.replicate 7 0, .slice (some ⟨g8, 0, none⟩) 0 0, .slice a1 (msG m).length c1, .slice (some ⟨g12, 0, none⟩) 0 0, .slice an 7 cn, .slice (some ⟨g15, 0, none⟩) 7 7⟩ : NV)) (u := .slice (some ⟨g5, 0, none⟩) (j + 1) cap5) (unhide NQ) (unhide HB3) (noO_subs (unhide HO3)) (unhide HO3).ap (unhide HB4) (unhide R5).1 (unhide R5).2.1 ((unhide R5).2.2) hgE (by omega)
            have TF := (((((unhide TQ).trans (T' := fun _ => False) (Touch.ofBelow (unhide HB3)) (fun _ _ e => e.elim)).trans (T' := fun _ => False) (Touch.ofBelow (unhide HB4)) (fun _ _ e => e.elim))).grown (unhide R5).2.1 (fun k e hk => by have := hvs k e; omega)).setCell ⟨gb, 0, none⟩ (.slice (some ⟨g5, 0, none⟩) (j + 1) cap5) (fun _ => rfl)
            have FIN := hide (And.intro ((unhide XB5).set 0 (.slice (some ⟨g5, 0, none⟩) (j + 1) cap5) (by simp)) (And.intro NS (And.intro (isG_push (unhide GR) (unhide HLN) (y := (⟨(j : Int), 0, -1, 0, 0, 0, 5 + (j : Int), true, [], msG m, [], List.replicate 7 1, List.replicate 7 0, .slice (some ⟨g8, 0, none⟩) 0 0, .slice a1 (msG m).length c1, .slice (some ⟨g12, 0, none⟩) 0 0, .slice an 7 cn, .slice (some ⟨g15, 0, none⟩) 7 7⟩ : NV)) ⟨rfl, rfl, rfl, rfl, rfl, rfl, rfl, rfl, rfl, rfl, rfl, rfl, rfl⟩) TF)))
            clear NS TF
            go_wp2_with fail
            refine ⟨⟨j + 1, _, l ++ [(⟨(j : Int), 0, -1, 0, 0, 0, 5 + (j : Int), true, [], msG m, [], List.replicate 7 1, List.replicate 7 0, .slice (some ⟨g8, 0, none⟩) 0 0, .slice a1 (msG m).length c1, .slice (some ⟨g12, 0, none⟩) 0 0, .slice an 7 cn, .slice (some ⟨g15, 0, none⟩) 7 7⟩ : NV)], by omega, by go_num, hide (unhide FIN).1, hide (unhide FIN).2.1, hide (unhide FIN).2.2.1, hide (unhide FIN).2.2.2⟩, ?_⟩
            simp [intOf]; omega
          · skip
            go_simp
            have BB := (Below.refl w3.heap.size w3).alloc (Nat.le_refl _) (.cells #[.int .i64 (j : Int), .int .i64 0, .int .i64 (-1), .slice (some ⟨g8, 0, none⟩) 0 0, .slice a1 (msG m).length c1, .int .i64 0, .slice (some ⟨g12, 0, none⟩) 0 0, .slice an 7 cn, .slice (some ⟨g15, 0, none⟩) 7 7, .int .i64 0, .int .i64 0, .int .i64 (5 + (j : Int)), .bool true] 42)
            have X4 := hide ((unhide X3).below BB)
            have HB4 := hide BB
            have HRow4 := hide (own_kept (T := fun _ => False) (unhide HRow3) (Touch.ofBelow BB) (fun _ _ e => e))
            have HNB := hide (heap_alloc_new w3 (.cells #[.int .i64 (j : Int), .int .i64 0, .int .i64 (-1), .slice (some ⟨g8, 0, none⟩) 0 0, .slice a1 (msG m).length c1, .int .i64 0, .slice (some ⟨g12, 0, none⟩) 0 0, .slice an 7 cn, .slice (some ⟨g15, 0, none⟩) 7 7, .int .i64 0, .int .i64 0, .int .i64 (5 + (j : Int)), .bool true] 42))
            have h4s := BB.size
            clear BB
            refine hK.out _ _ trivial (fun hHeld => ?_)
            clear hK K
            (try simp only [Act.put, List.getElem_toArray, List.getElem_cons_succ, List.getElem_cons_zero, List.setIfInBounds_toArray, List.set_cons_zero, List.set_cons_succ])
            generalize w3.alloc (.cells #[.int .i64 (j : Int), .int .i64 0, .int .i64 (-1), .slice (some ⟨g8, 0, none⟩) 0 0, .slice a1 (msG m).length c1, .int .i64 0, .slice (some ⟨g12, 0, none⟩) 0 0, .slice an 7 cn, .slice (some ⟨g15, 0, none⟩) 7 7, .int .i64 0, .int .i64 0, .int .i64 (5 + (j : Int)), .bool true] 42) = w4 at *
            obtain ⟨bg, hbg⟩ : ∃ bg, bg = w3.heap.size := ⟨_, rfl⟩
            rw [← hbg] at HNB ⊢
            clear hbg
            refine wpAnyH_ready (rs := [1]) (by kernel_rfl) (by simp) ?_
            refine AllReadyH.cons (o := _) rfl (fun K hK => ?_) AllReadyH.nil
            have gc := (unhide X4).cell 0 rfl
            go_simp
            refine hK.out _ _ trivial (fun hHeld => ?_)
            clear hK K
            (try simp only [Act.put, List.getElem_toArray, List.getElem_cons_succ, List.getElem_cons_zero, List.setIfInBounds_toArray, List.set_cons_zero, List.set_cons_succ])
            clear gc
            refine wpAnyH_ready (rs := [6]) (by kernel_rfl) (by simp) ?_
            refine AllReadyH.cons (o := _) rfl (fun K hK => ?_) AllReadyH.nil
            refine step_append_lies _ rfl _ _ _ rfl E 42 i1 _ 13 184 Try.underlying22 hj hy0 hy1 hy2 rfl (by omega) v j _ rfl (unhide HRow4) ⟨bg, 0, none⟩ 1 1 [_, _, _, _, _, _, _, _, _, _, _, _, _] rfl rfl (World.news_of_block (cs := #[_, _, _, _, _, _, _, _, _, _, _, _, _]) (t := 42) (fr := (0, 0)) (unhide HNB)) (by simp [Value.oneCell']) (by omega) (by unfold maxLen; omega) (by omega) (by omega) _ rfl ?_
            intro g5 cap5 w5 hown5 hgrow5 hat5 hlt5
            have R5 := hide (And.intro hown5 (And.intro hgrow5 hat5))
            have XB5 := hide ((unhide X4).kept ((Touch.refl (fun k => v.ownBlock = some k) _).grown hgrow5 (fun k e _ => e)) (fun e => hvg gb e rfl))
            have C5 := (unhide XB5).cell 0 rfl
            have F5 := (unhide XB5).fro 0
            clear hown5 hgrow5 hat5 hlt5
            refine hK.out _ _ trivial (fun hHeld => ?_)
            clear hK K
            (try simp only [Act.put, List.getElem_toArray, List.getElem_cons_succ, List.getElem_cons_zero, List.setIfInBounds_toArray, List.set_cons_zero, List.set_cons_succ])
            refine wpAnyH_take (i := 7) (oi := _) (v := ?_) rfl (by kernel_rfl) (by kernel_rfl) (by kernel_rfl) (fun _ _ _ h => h) (Or.inl ⟨by rfl, ?_⟩) (by assumption) ?_
            rotate_left 1
            · (intro wq hSw; (try dsimp only at hSw); (try simp only [List.getElem_toArray, List.getElem_cons_succ, List.getElem_cons_zero]); go_simp; try with_reducible rfl)
            (try simp only [Act.put, List.getElem_toArray, List.getElem_cons_succ, List.getElem_cons_zero, List.setIfInBounds_toArray, List.set_cons_zero, List.set_cons_succ])
            refine wpAnyH_ready (rs := [8]) (by kernel_rfl) (by simp) ?_
            refine AllReadyH.cons (o := _) rfl (fun K hK => ?_) AllReadyH.nil
            go_simp
            refine hK.out _ _ trivial (fun hHeld => ?_)
            clear hK K
            (try simp only [Act.put, List.getElem_toArray, List.getElem_cons_succ, List.getElem_cons_zero, List.setIfInBounds_toArray, List.set_cons_zero, List.set_cons_succ])
            refine wpAnyH_done (by kernel_rfl) (NoPanic.normal ?_) _
            have NS := Ns.pushed (S := nvS) (x := (⟨(j : Int), 0, -1, 0, 0, 0, 5 + (j : Int), true, [], msG m, [], List.replicate 7 1, List.replicate 7 0, .slice (some ⟨g8, 0, none⟩) 0 0, .slice a1 (msG m).length c1, .slice (some ⟨g12, 0, none⟩) 0 0, .slice an 7 cn, .slice (some ⟨g15, 0, none⟩) 7 7⟩ : NV)) (u := .slice (some ⟨g5, 0, none⟩) (j + 1) cap5) (unhide NQ) (unhide HB3) (noO_subs (unhide HO3)) (unhide HO3).ap (unhide HB4) (unhide R5).1 (unhide R5).2.1 ((unhide R5).2.2) hgE (by omega)
            have TF := (((((unhide TQ).trans (T' := fun _ => False) (Touch.ofBelow (unhide HB3)) (fun _ _ e => e.elim)).trans (T' := fun _ => False) (Touch.ofBelow (unhide HB4)) (fun _ _ e => e.elim))).grown (unhide R5).2.1 (fun k e hk => by have := hvs k e; omega)).setCell ⟨gb, 0, none⟩ (.slice (some ⟨g5, 0, none⟩) (j + 1) cap5) (fun _ => rfl)
            have FIN := hide (And.intro ((unhide XB5).set 0 (.slice (some ⟨g5, 0, none⟩) (j + 1) cap5) (by simp)) (And.intro NS (And.intro (isG_push (unhide GR) (unhide HLN) (y := (⟨(j : Int), 0, -1, 0, 0, 0, 5 + (j : Int), true, [], msG m, [], List.replicate 7 1, List.replicate 7 0, .slice (some ⟨g8, 0, none⟩) 0 0, .slice a1 (msG m).length c1, .slice (some ⟨g12, 0, none⟩) 0 0, .slice an 7 cn, .slice (some ⟨g15, 0, none⟩) 7 7⟩ : NV)) ⟨rfl, rfl, rfl, rfl, rfl, rfl, rfl, rfl, rfl, rfl, rfl, rfl, rfl⟩) TF)))
            clear NS TF
            go_wp2_with fail
            refine ⟨⟨j + 1, _, l ++ [(⟨(j : Int), 0, -1, 0, 0, 0, 5 + (j : Int), true, [], msG m, [], List.replicate 7 1, List.replicate 7 0, .slice (some ⟨g8, 0, none⟩) 0 0, .slice a1 (msG m).length c1, .slice (some ⟨g12, 0, none⟩) 0 0, .slice an 7 cn, .slice (some ⟨g15, 0, none⟩) 7 7⟩ : NV)], by omega, by go_num, hide (unhide FIN).1, hide (unhide FIN).2.1, hide (unhide FIN).2.2.1, hide (unhide FIN).2.2.2⟩, ?_⟩
            simp [intOf]; omega
      · obtain rfl : j = m := by omega
        obtain ⟨gq, cq, hvv⟩ : ∃ gq cq, v = .slice (some ⟨gq, 0, none⟩) j cq := by
          rcases own_shape (unhide NR).row with ⟨_, h0⟩ | ⟨gq, cq, hq, _⟩
          · omega
          · exact ⟨gq, cq, hq⟩
        subst hvv
        have RX := (unhide HX2).kept (unhide TR) (fun e => by omega)
        have r0 := RX.cell 0 rfl
        have r1 := RX.cell 1 rfl
        have r2 := RX.cell 2 rfl
        have r3 := RX.cell 3 rfl
        have f0 := RX.fro 0
        have f1 := RX.fro 1
        have f2 := RX.fro 2
        have f3 := RX.fro 3
        have g0 := (unhide XR).cell 0 rfl
        have g1 := (unhide XR).cell 1 rfl
        have g2 := (unhide XR).cell 2 rfl
        have g3 := (unhide XR).cell 3 rfl
        have HR9 := hide ((((RX.set 0 (.slice (some ⟨gq, 0, none⟩) j cq) (by simp)).set 1 (.slice (some ⟨b1, 0, none⟩) 0 0) (by simp)).set 2 (.slice (some ⟨b2, 0, none⟩) 0 0) (by simp)).set 3 (.slice (some ⟨b3, 0, none⟩) 0 0) (by simp))
        have T9 := ((((Touch.refl (fun q => q = w.heap.size) wr).setCell ⟨w.heap.size, 0, none⟩ (.slice (some ⟨gq, 0, none⟩) j cq) (fun _ => rfl)).setCell ⟨w.heap.size, 1, none⟩ (.slice (some ⟨b1, 0, none⟩) 0 0) (fun _ => rfl)).setCell ⟨w.heap.size, 2, none⟩ (.slice (some ⟨b2, 0, none⟩) 0 0) (fun _ => rfl)).setCell ⟨w.heap.size, 3, none⟩ (.slice (some ⟨b3, 0, none⟩) 0 0) (fun _ => rfl)
        have FN := hide (((unhide NR).kept T9 (fun k e _ => by omega)).down (show w.heap.size ≤ E by omega))
        have hBr := (unhide BW2).trans ((unhide TR).below (show w.heap.size ≤ w2.heap.size by omega) (fun k hk e => by omega))
        have K9 := hide (hBr.trans (T9.below hBr.size (fun k hk e => by omega)))
        clear T9 RX hBr
        go_wp2_with fail
        have R9 := unhide HR9
        have z0 := R9.cell 0 rfl
        have z1 := R9.cell 1 rfl
        have z2 := R9.cell 2 rfl
        have z3 := R9.cell 3 rfl
        refine bodyPost_ret (v := .agg #[.slice (some ⟨gq, 0, none⟩) j cq, .slice (some ⟨b1, 0, none⟩) 0 0, .slice (some ⟨b2, 0, none⟩) 0 0, .slice (some ⟨b3, 0, none⟩) 0 0]) (by simp [results, Try.results39, go_sem, z0, z1, z2, z3]) rfl ?_
        exact ⟨_, _, _, _, l, rfl, unhide FN, unhide GR, unhide K9⟩
end Go.Proofs.Ytafbdjcoimopfaa
