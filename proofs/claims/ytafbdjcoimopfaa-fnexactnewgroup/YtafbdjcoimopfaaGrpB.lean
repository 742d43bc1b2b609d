/- impl.NewGroup, walked. -/
import Derived.Test.YtafbdjcoimopfaaGrpA
import Derived.Test.YtafbdjcoimopfaaNodW
import Derived.Test.YtafbdjcoimopfaaAppR
import Derived.Test.YtafbdjcoimopfaaNesu
import Derived.Deep.DeepCutAuto
import Derived.Deep.RegionHeld3
namespace Go.Proofs.Ytafbdjcoimopfaa
open Go.ChangeShapes Go.WideShapes Go.ChangeAt Go.RowKit Go.Deep
set_option linter.unusedVariables false
set_option linter.unusedSimpArgs false

/-- The members of a new group. -/
def msG (n : Nat) : List Int := (List.range (min n 3)).map (fun i : Nat => (i : Int))
/-- Node i of a new group of n. -/
def isG (n i : Nat) (x : NV) : Prop := x.id = (i : Int) ∧ x.tm = 0 ∧ x.vo = -1 ∧ x.ro = 0 ∧ x.cm = 0 ∧ x.el = 0 ∧ x.wt = 5 + (i : Int) ∧ x.up = true ∧ x.lg = [] ∧ x.st = msG n ∧ x.vs = [] ∧ x.nx = List.replicate 7 1 ∧ x.mt = List.replicate 7 0
def grOut (n : Int) : Nat × Int := if inB n 1 5 then (n.toNat, 0) else (0, 4)
/-- A new group and a code come out. -/
def GAns (k : Nat) (code : Int) (w : World) (e : Ending) (w' : World) : Prop :=
  ∃ v a1 c1 a2 c2 a3 c3 l, e = .returned (.tuple #[.agg #[v, .slice a1 0 c1, .slice a2 0 c2, .slice a3 0 c3], .int .i64 code]) ∧ Ns nvS w.heap.size w' v k l ∧ (∀ (i : Nat) (x : NV), l[i]? = some x → isG k i x) ∧ Below w.heap.size w w'
theorem msG_len (n : Nat) : (msG n).length = min n 3 := by simp [msG]
theorem msG_fault (n : Nat) (h : 1 ≤ n) : mFault (msG n) = 0 := by
  have : min n 3 = 1 ∨ min n 3 = 2 ∨ min n 3 = 3 := by omega
  unfold msG
  rcases this with h | h | h <;> rw [h] <;> decide
theorem grOut_bad {n : Int} (h : inB n 1 5 = false) : grOut n = (0, 4) := by unfold grOut; rw [h]; rfl
theorem grOut_ok {n : Nat} (h : inB (n : Int) 1 5 = true) : grOut n = (n, 0) := by unfold grOut; rw [h]; rfl
theorem nnOut_g (n i : Nat) (h : 1 ≤ n) (hi : i ≤ 6) : nnOut (i : Int) (msG n) = (⟨(i : Int), 0, -1, 0, 0, 0, 5 + (i : Int), true, [], msG n, [], List.replicate 7 1, List.replicate 7 0⟩, 0) := by
  have h1 : ¬ 4096 < (msG n).length := by rw [msG_len]; omega
  have h2 : inB (i : Int) 0 6 = true := inB_iff.2 ⟨by omega, by omega⟩
  unfold nnOut
  rw [if_neg h1, h2, msG_fault n h]
  rfl
theorem infoNod : (Try.prog.info? 42).map (fun i => (i.zero, i.size, i.bytes)) = some (some (.agg #[.int .i64 0, .int .i64 0, .int .i64 0, .slice none 0 0, .slice none 0 0, .int .i64 0, .slice none 0 0, .slice none 0 0, .slice none 0 0, .int .i64 0, .int .i64 0, .int .i64 0, .bool false]), 13, 184) := by kernel_rfl
theorem noO_subs {B : Nat} {w : World} {id tm vo ro cm el wt : Int} {up : Bool} {lv sv vv nv mv : Value} {lg : List En} {st vs nx mt : List Int} (h : NoO B w lv sv vv nv mv lg st vs nx mt) : ∀ p ∈ nvS.subs ⟨id, tm, vo, ro, cm, el, wt, up, lg, st, vs, nx, mt, lv, sv, vv, nv, mv⟩, OwnSub B w p.1 p.2 := by
  intro p hp
  simp only [nvS, nvSubs, List.mem_cons, List.not_mem_nil, or_false] at hp
  rcases hp with rfl | rfl | rfl | rfl | rfl
  · exact h.lg
  · exact h.st
  · exact h.vs
  · exact h.nx
  · exact h.mt
theorem range_push (j : Nat) : ((List.range (j + 1)).map (fun i : Nat => (i : Int))).map (Value.int .i64) = ((List.range j).map (fun i : Nat => (i : Int))).map (Value.int .i64) ++ [.int .i64 (j : Int)] := by
  rw [List.range_succ]; simp
set_option maxRecDepth 100000 in
set_option maxHeartbeats 4000000 in
theorem implNewGroup_any (n : Int) (w : World) :
    Calls Try.prog 9 #[.int .i64 n] w fun e w' => GAns (grOut n).1 (grOut n).2 w e w' := by
  obtain ⟨i0, hi, hz0, hz1, hz2⟩ := info_parts info3
  obtain ⟨i1, hj, hy0, hy1, hy2⟩ := info_parts infoNod
  have B0 := hide ((Below.refl w.heap.size w).alloc (Nat.le_refl _) (.cells #[.slice none 0 0, .slice none 0 0, .slice none 0 0, .slice none 0 0] 27))
  have X0 := hide (Blk.new w #[.slice none 0 0, .slice none 0 0, .slice none 0 0, .slice none 0 0] 27 w.heap.size rfl)
  cases hin : inB n 1 5
  · have HO := hide (grOut_bad hin)
    generalize grOut n = out at *
    go_enter Try.func9, Try.ntmps9
    have r0 := (unhide X0).cell 0 rfl
    have r1 := (unhide X0).cell 1 rfl
    have r2 := (unhide X0).cell 2 rfl
    have r3 := (unhide X0).cell 3 rfl
    go_wp2_with fail
    refine (within_any _ _ _ _).mono ?_
    rintro e w' ⟨rfl, hw'⟩
    have hw2 := hw'.symm
    clear hw'
    subst hw2
    rw [hin]
    go_wp2_with fail
    refine bodyPost_ret (v := .tuple #[.agg #[.slice none 0 0, .slice none 0 0, .slice none 0 0, .slice none 0 0], .int .i64 4]) (by simp [results, Try.results9, go_sem, r0, r1, r2, r3]) rfl ?_
    rw [unhide HO]
    exact ⟨_, none, 0, none, 0, none, 0, [], rfl, Ns.nil nvS _ _, fun i x h => by simp at h, unhide B0⟩
  obtain ⟨h1, h5⟩ := inB_iff.1 hin
  obtain ⟨m, rfl⟩ : ∃ m : Nat, n = (m : Int) := ⟨n.toNat, by omega⟩
  have HO := hide (grOut_ok hin)
  have HFN := hide (fun i hi => nnOut_g m i (by omega) hi)
  have HMS : Hid (msG m = (List.range (min m 3)).map (fun i : Nat => (i : Int))) := hide rfl
  have HML := hide (msG_len m)
  generalize grOut (m : Int) = out at *
  obtain ⟨p, hp⟩ : ∃ p : Nat, p = min m 3 := ⟨_, rfl⟩
  rw [← hp] at HMS HML
  have hp3 : p ≤ 3 ∧ 1 ≤ p := by omega
  have HP := hide hp
  clear hp
  go_enter Try.func9, Try.ntmps9
  go_wp2_with fail
  refine (within_any _ _ _ _).mono ?_
  rintro e w' ⟨rfl, hw'⟩
  have hw2 := hw'.symm
  clear hw'
  subst hw2
  rw [hin]
  go_upto_region 4 with fail
  obtain ⟨D, hD⟩ : ∃ D, D = (w.alloc (.cells #[.slice none 0 0, .slice none 0 0, .slice none 0 0, .slice none 0 0] 27)).heap.size := ⟨_, rfl⟩
  generalize w.alloc (.cells #[.slice none 0 0, .slice none 0 0, .slice none 0 0, .slice none 0 0] 27) = w0 at *
  have hDw : w.heap.size < D := by have := (unhide X0).1; omega
  go_cut [15, 16] (fun s t wx => s = .int .i64 (p : Int) ∧ t = .int .i64 0 ∧ wx = w0)
  case first =>
    go_wp2_with fail
    all_goals
      go_meet
      exact ⟨by have := unhide HP; congr 1; omega, rfl, rfl⟩
  case rest =>
    obtain ⟨rfl, rfl, hw⟩ := hcut
    have hw' := hw.symm
    clear hw
    subst hw'
    go_wp2_with fail
    go_loopw [4, 16] (fun l i wr => ∃ (j : Nat) (a8 : Option Addr) (c8 : Nat), j ≤ p ∧ i = .int .i64 (j : Int) ∧ l = .slice a8 j c8 ∧ Hid (wr.ownsRow D 3 1 (.slice a8 j c8) j (((List.range j).map (fun i : Nat => (i : Int))).map (Value.int .i64))) ∧ Hid (Below D w0 wr)) (fun _ i _ => p - (intOf i).toNat)
    case atStart => exact ⟨0, none, 0, Nat.zero_le _, rfl, rfl, hide (World.ownsRow_nil _ _ 3 1), hide (Below.refl _ _)⟩
    case round =>
      obtain ⟨j, a8, c8, hjp, rfl, rfl, HO8, HB8⟩ := hrel
      have hbs := (unhide HB8).size
      by_cases hlt : j < p
      · have HRg := hide (range_push j)
        have q1 : (j : Int) < (p : Int) := by omega
        go_wp2_with (at_builtin; refine wpList_append_lies _ rfl _ _ _ rfl D 3 i0 _ 1 8 Try.underlying34 hi hz0 hz1 hz2 rfl (by omega) (.slice a8 j c8) j _ rfl (World.ownsRow.alloc (unhide HO8) _) ⟨wr.heap.size, 0, none⟩ 1 1 [_] rfl rfl (World.news_of_block (cs := #[_]) (t := 3) (fr := (0, 0)) (heap_alloc_new wr _)) (by simp [Value.oneCell']) (by omega) (by unfold maxLen; omega) (by omega) (by simp; omega) _ rfl ?_; intro g5 cap5 w5 hown5 hgrow5 hat5 hlt5; have R5 := hide (And.intro hown5 (((unhide HB8).alloc (by omega) _).grown hgrow5 (by simp; omega) (fun r hr => (World.ownsRow.lt (unhide HO8) r hr).1))); clear hown5 hgrow5 hat5 hlt5)
        refine ⟨⟨j + 1, some ⟨g5, 0, none⟩, cap5, by omega, by go_num, rfl, ?_, hide (unhide R5).2⟩, ?_⟩
        · rw [unhide HRg]; exact hide (unhide R5).1
        · simp [intOf]; omega
      obtain rfl : j = p := by omega
      have hms := unhide HML
      have HM1 := hide (show OwnI D wr (.slice a8 (msG m).length c8) (msG m) by unfold OwnI; rw [unhide HMS, List.length_map, List.length_range]; exact unhide HO8)
      have hml : (msG m).length ≤ 3 := by omega
      rw [← hms]
      have HX1 := hide ((unhide X0).kept (Touch.ofBelow (T := fun _ => False) (by rw [← hD]; exact unhide HB8)) (fun e => e))
      clear HO8 HMS HML HP X0 hms
--LOOP2
      have BW := hide ((unhide B0).trans ((unhide HB8).mono (by omega)))
      have XG := hide (Blk.new wr #[.slice none 0 0, .slice none 0 0, .slice none 0 0, .slice none 0 0] 27 wr.heap.size rfl)
      have BB := (Below.refl wr.heap.size wr).alloc (Nat.le_refl _) (.cells #[.slice none 0 0, .slice none 0 0, .slice none 0 0, .slice none 0 0] 27)
      have HM2 := hide ((unhide HM1).below BB)
      have HX2 := hide ((unhide HX1).below BB)
      have BW2 := hide ((unhide BW).trans (BB.mono (unhide BW).size))
      have hE0 : wr.heap.size < (wr.alloc (.cells #[.slice none 0 0, .slice none 0 0, .slice none 0 0, .slice none 0 0] 27)).heap.size := by simp
      have hMB := fun k hk => World.ownsRow.lt (unhide HM1) k hk
      have HMB := hide hMB
      clear BB HM1 HX1 BW HB8 B0 hMB
      go_upto_region 11 with fail
      generalize wr.alloc (.cells #[.slice none 0 0, .slice none 0 0, .slice none 0 0, .slice none 0 0] 27) = w2 at *
      generalize hgb : wr.heap.size = gb at *
      have hDg : D ≤ gb := by omega
      have HGB := hide hgb
      clear hgb hbs
      obtain ⟨E, hE⟩ : ∃ E, E = w2.heap.size := ⟨_, rfl⟩
      have hgE : gb < E := by omega
      go_loopw [25] (fun i wr => ∃ (j : Nat) (v : Value) (l : List NV), j ≤ m ∧ i = .int .i64 (j : Int) ∧ Hid (Blk wr gb [v, .slice none 0 0, .slice none 0 0, .slice none 0 0]) ∧ Hid (Ns nvS E wr v j l) ∧ Hid (∀ (i : Nat) (x : NV), l[i]? = some x → isG m i x) ∧ Hid (Touch (fun k => k = gb) w2 wr)) (fun i _ => m - (intOf i).toNat)
      case atStart => exact ⟨0, .slice none 0 0, [], Nat.zero_le _, rfl, XG, hide (Ns.nil nvS _ _), hide (fun i x h => by simp at h), hide (Touch.refl _ _)⟩
      case round =>
        obtain ⟨j, v, l, hjm, rfl, XR, NR, GR, TR⟩ := hrel
        have hrs := (unhide TR).size
        by_cases hlt : j < m
        · have HC := hide (implNewNode_any (j : Int) a8 c8 (msG m) wr (OwnI.ints ((unhide HM2).kept (unhide TR) (fun k hk e => by have := unhide HMB k hk; have := unhide HGB; omega))) (by omega))
          rw [unhide HFN j (by omega)] at HC
          have q1 : (j : Int) < (m : Int) := by omega
          go_wp2_with fail
          refine (unhide HC).mono ?_
          rintro e w3 ⟨la, lc, sa, sc, va, vc, na, nc, ma, mc, rfl, hO3, hb3⟩
          dsimp only at hO3 ⊢
          simp only [List.length_nil, List.length_replicate] at hO3 ⊢
          have X3 := hide ((unhide XR).below hb3)
          have h3s := hb3.size
          have BB := (Below.refl w3.heap.size w3).alloc (Nat.le_refl _) (.cells #[.int .i64 (j : Int), .int .i64 0, .int .i64 (-1), .slice la 0 lc, .slice sa (msG m).length sc, .int .i64 0, .slice va 0 vc, .slice na 7 nc, .slice ma 7 mc, .int .i64 0, .int .i64 0, .int .i64 (5 + (j : Int)), .bool true] 42)
          have X4 := hide ((unhide X3).below BB)
          have Y4 := Blk.new w3 #[.int .i64 (j : Int), .int .i64 0, .int .i64 (-1), .slice la 0 lc, .slice sa (msG m).length sc, .int .i64 0, .slice va 0 vc, .slice na 7 nc, .slice ma 7 mc, .int .i64 0, .int .i64 0, .int .i64 (5 + (j : Int)), .bool true] 42 w3.heap.size rfl
          have HB4 := hide BB
          have HO3 := hide hO3
          have HB3 := hide hb3
          have HRow := hide (own_kept (T := fun _ => False) (own_kept (T := fun _ => False) (unhide NR).row (Touch.ofBelow hb3) (fun _ _ e => e)) (Touch.ofBelow BB) (fun _ _ e => e))
          have g0 := (unhide X4).cell 0 rfl
          have h4s : w3.heap.size < (w3.alloc (.cells #[.int .i64 (j : Int), .int .i64 0, .int .i64 (-1), .slice la 0 lc, .slice sa (msG m).length sc, .int .i64 0, .slice va 0 vc, .slice na 7 nc, .slice ma 7 mc, .int .i64 0, .int .i64 0, .int .i64 (5 + (j : Int)), .bool true] 42)).heap.size := by simp
          have y0 := Y4.cell 0 rfl
          have y1 := Y4.cell 1 rfl
          have y2 := Y4.cell 2 rfl
          have y3 := Y4.cell 3 rfl
          have y4 := Y4.cell 4 rfl
          have y5 := Y4.cell 5 rfl
          have y6 := Y4.cell 6 rfl
          have y7 := Y4.cell 7 rfl
          have y8 := Y4.cell 8 rfl
          have y9 := Y4.cell 9 rfl
          have y10 := Y4.cell 10 rfl
          have y11 := Y4.cell 11 rfl
          have y12 := Y4.cell 12 rfl
          have hvg : ∀ k, v.ownBlock = some k → gb ≠ k := fun k hk e => by have := (World.ownsRow.lt (unhide NR).row k hk).1; omega
          clear hO3 hb3 BB Y4 HC X3 XR
          go_upto_region 14 with fail
          generalize w3.alloc (.cells #[.int .i64 (j : Int), .int .i64 0, .int .i64 (-1), .slice la 0 lc, .slice sa (msG m).length sc, .int .i64 0, .slice va 0 vc, .slice na 7 nc, .slice ma 7 mc, .int .i64 0, .int .i64 0, .int .i64 (5 + (j : Int)), .bool true] 42) = w4 at *
          go_wp2_with (at_builtin; refine wpList_append_lies _ rfl _ _ _ rfl E 42 i1 _ 13 184 Try.underlying22 hj hy0 hy1 hy2 rfl (by omega) v j _ rfl (World.ownsRow.alloc (unhide HRow) _) ⟨w4.heap.size, 0, none⟩ 1 1 [_, _, _, _, _, _, _, _, _, _, _, _, _] rfl rfl (World.news_of_block (cs := #[_, _, _, _, _, _, _, _, _, _, _, _, _]) (t := 42) (fr := (0, 0)) (heap_alloc_new w4 _)) (by simp [Value.oneCell']) (by omega) (by unfold maxLen; omega) (by omega) (by simp; omega) _ rfl ?_; intro g5 cap5 w5 hown5 hgrow5 hat5 hlt5; have R5 := hide (And.intro hown5 (And.intro hgrow5 hat5)); have XB5 := hide ((Blk.alloc (unhide X4) (.cells #[.int .i64 (j : Int), .int .i64 0, .int .i64 (-1), .slice la 0 lc, .slice sa (msG m).length sc, .int .i64 0, .slice va 0 vc, .slice na 7 nc, .slice ma 7 mc, .int .i64 0, .int .i64 0, .int .i64 (5 + (j : Int)), .bool true] 42)).kept ((Touch.refl (fun k => v.ownBlock = some k) _).grown hgrow5 (fun k e _ => e)) (fun e => hvg gb e rfl)); have C5 := (unhide XB5).cell 0 rfl; have F5 := (unhide XB5).fro 0; clear hown5 hgrow5 hat5 hlt5)
          have NS := Ns.pushed (S := nvS) (x := (⟨(j : Int), 0, -1, 0, 0, 0, 5 + (j : Int), true, [], msG m, [], List.replicate 7 1, List.replicate 7 0, .slice la 0 lc, .slice sa (msG m).length sc, .slice va 0 vc, .slice na 7 nc, .slice ma 7 mc⟩ : NV)) (u := .slice (some ⟨g5, 0, none⟩) (j + 1) cap5) (unhide NR) (unhide HB3) (noO_subs (unhide HO3)) (unhide HO3).ap ((unhide HB4).trans ((Below.refl w3.heap.size w4).alloc (by omega) (.cells #[.int .i64 (j : Int), .int .i64 0, .int .i64 (-1), .slice la 0 lc, .slice sa (msG m).length sc, .int .i64 0, .slice va 0 vc, .slice na 7 nc, .slice ma 7 mc, .int .i64 0, .int .i64 0, .int .i64 (5 + (j : Int)), .bool true] 42))) (unhide R5).1 (unhide R5).2.1 ((unhide R5).2.2) hgE (by omega)
          refine ⟨⟨j + 1, _, l ++ [⟨(j : Int), 0, -1, 0, 0, 0, 5 + (j : Int), true, [], msG m, [], List.replicate 7 1, List.replicate 7 0, .slice la 0 lc, .slice sa (msG m).length sc, .slice va 0 vc, .slice na 7 nc, .slice ma 7 mc⟩], by omega, by go_num, hide ((unhide XB5).set 0 _ (by simp)), hide NS, hide (fun i x hx => ?_), hide ?_⟩, ?_⟩
          · by_cases hil : i < l.length
            · rw [List.getElem?_append_left hil] at hx
              exact unhide GR i x hx
            · have hle := (unhide NR).ln
              have hij : i = j := by
                have := (List.getElem?_eq_some_iff.1 hx).1
                rw [List.length_append, List.length_cons, List.length_nil] at this
                omega
              rw [List.getElem?_append_right (by omega), show i - l.length = 0 by omega] at hx
              simp only [List.getElem?_cons_zero, Option.some.injEq] at hx
              subst hx hij
              exact ⟨rfl, rfl, rfl, rfl, rfl, rfl, rfl, rfl, rfl, rfl, rfl, rfl, rfl⟩
          · have hvl := World.ownsRow.lt (unhide NR).row
            exact (((((unhide TR).trans (T' := fun _ => False) (Touch.ofBelow (unhide HB3)) (fun _ _ e => e.elim)).trans (T' := fun _ => False) (Touch.ofBelow (unhide HB4)) (fun _ _ e => e.elim)).alloc (.cells #[.int .i64 (j : Int), .int .i64 0, .int .i64 (-1), .slice la 0 lc, .slice sa (msG m).length sc, .int .i64 0, .slice va 0 vc, .slice na 7 nc, .slice ma 7 mc, .int .i64 0, .int .i64 0, .int .i64 (5 + (j : Int)), .bool true] 42)).grown (unhide R5).2.1 (fun k e hk => by have := hvl k e; omega)).setCell _ _ (fun _ => rfl)
          · simp [intOf]; omega
        · obtain rfl : j = m := by omega
          obtain ⟨gq, cq, hvv⟩ : ∃ gq cq, v = .slice (some ⟨gq, 0, none⟩) j cq := by
            rcases own_shape (unhide NR).row with ⟨_, h0⟩ | ⟨gq, cq, hq, _⟩
            · omega
            · exact ⟨gq, cq, hq⟩
          subst hvv
          have RX := (unhide HX2).kept (unhide TR) (fun e => by omega)
          have r0 := RX.cell 0 rfl
          have r1 := RX.cell 1 rfl
          have r2 := RX.cell 2 rfl
          have r3 := RX.cell 3 rfl
          have f0 := RX.fro 0
          have f1 := RX.fro 1
          have f2 := RX.fro 2
          have f3 := RX.fro 3
          have g0 := (unhide XR).cell 0 rfl
          have g1 := (unhide XR).cell 1 rfl
          have g2 := (unhide XR).cell 2 rfl
          have g3 := (unhide XR).cell 3 rfl
          have HR9 := hide ((((RX.set 0 (.slice (some ⟨gq, 0, none⟩) j cq) (by simp)).set 1 (.slice none 0 0) (by simp)).set 2 (.slice none 0 0) (by simp)).set 3 (.slice none 0 0) (by simp))
          have T9 := ((((Touch.refl (fun q => q = w.heap.size) wr).setCell ⟨w.heap.size, 0, none⟩ (.slice (some ⟨gq, 0, none⟩) j cq) (fun _ => rfl)).setCell ⟨w.heap.size, 1, none⟩ (.slice none 0 0) (fun _ => rfl)).setCell ⟨w.heap.size, 2, none⟩ (.slice none 0 0) (fun _ => rfl)).setCell ⟨w.heap.size, 3, none⟩ (.slice none 0 0) (fun _ => rfl)
          have FN := hide (((unhide NR).kept T9 (fun k e _ => by omega)).down (show w.heap.size ≤ E by omega))
          have hBr := (unhide BW2).trans ((unhide TR).below (show w.heap.size ≤ w2.heap.size by omega) (fun k hk e => by omega))
          have K9 := hide (hBr.trans (T9.below hBr.size (fun k hk e => by omega)))
          clear T9 RX hBr
          go_wp2_with fail
          have R9 := unhide HR9
          have z0 := R9.cell 0 rfl
          have z1 := R9.cell 1 rfl
          have z2 := R9.cell 2 rfl
          have z3 := R9.cell 3 rfl
          refine bodyPost_ret (v := .tuple #[.agg #[.slice (some ⟨gq, 0, none⟩) j cq, .slice none 0 0, .slice none 0 0, .slice none 0 0], .int .i64 0]) (by simp [results, Try.results9, go_sem, z0, z1, z2, z3]) rfl ?_
          rw [unhide HO]
          exact ⟨_, none, 0, none, 0, none, 0, l, rfl, unhide FN, unhide GR, unhide K9⟩
end Go.Proofs.Ytafbdjcoimopfaa
