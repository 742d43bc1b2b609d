/- spec.l02Frames, spec.ReadFrames, walked. -/
import Derived.Test.YtlicgahjdgipkakFrS
import Derived.Test.YtlicgahjdgipkakFrP
import Derived.Test.YtlicgahjdgipkakStrO
import Derived.Deep.Onto
namespace Go.Proofs.Ytlicgahjdgipkak
open Go.ChangeShapes Go.WideShapes Go.ChangeAt Go.RowKit fnExactCheck32
set_option linter.unusedVariables false

theorem infoS : (Try.prog.info? 9).map (fun i => (i.zero, i.size, i.bytes)) = some (some (.string ByteArray.empty), 1, 16) := by kernel_rfl
theorem toList_inj {a b : ByteArray} (h : a.toList = b.toList) : a = b := by
  rw [ByteArray.toList_eq, ByteArray.toList_eq] at h
  obtain ⟨x⟩ := a
  obtain ⟨y⟩ := b
  exact congrArg ByteArray.mk (Array.toList_inj.1 h)
theorem ownS_empty (w : World) (B g : Nat) (hg : w.heap.size = g) (hB : B ≤ w.heap.size) : OwnS B (w.alloc (.cells #[] 9)) (.slice (some ⟨g, 0, none⟩) 0 0) [] := by
  subst hg
  exact ⟨rfl, .inr ⟨w.heap.size, 0, #[], rfl, hB, heap_new rfl, Nat.le_refl _, by unfold maxLen; omega, rfl, rfl⟩⟩

set_option maxRecDepth 100000 in
set_option maxHeartbeats 1600000 in
theorem l02Frames_any (a : Option Addr) (cap : Nat) (l : List Int) (w : World) (h : RdV w w.heap.size (.slice a l.length cap) l) (hl : l.length ≤ 65536) :
    Calls Try.prog 44 #[.slice a l.length cap] w fun e w' => ∃ dv, e = .returned (.tuple #[dv, .int .i64 (frP l 0).2.1, .int .i64 (frP l 0).2.2]) ∧ OwnS w.heap.size w' dv ((frP l 0).1.map strOfNums) ∧ Below w.heap.size w w' := by
  obtain ⟨i0, hi, hz0, hz1, hz2⟩ := info_parts infoS
  obtain ⟨a', cap', hv, hq1, hq2, hc, hr⟩ := h
  cases hv
  have HC := hide hc
  have HR := hide hr
  clear hc hr
  go_enter Try.func44, Try.ntmps44
  go_wp2_with fail
  have B0 := hide ((Below.refl w.heap.size w).alloc (Nat.le_refl _) (.cells #[] 9))
  have O0 := hide (ownS_empty w w.heap.size w.heap.size rfl (Nat.le_refl _))
  generalize w.alloc (.cells #[] 9) = w0 at *
  go_loopw [5, 6] (fun o pv wr => ∃ (p : Nat) (ds : List (List Int)), pv = .int .i64 p ∧ FrAt l p ds ∧ OwnS w.heap.size wr o (ds.map strOfNums) ∧ Below w.heap.size w wr) (fun _ pv _ => l.length - (intOf pv).toNat)
  case atStart => exact ⟨0, [], rfl, FrAt.zero l, unhide O0, unhide B0⟩
  case round =>
    obtain ⟨p, ds, rfl, hat, hO, hb⟩ := hrel
    have HA := hide hat
    have HO := hide hO
    have HB := hide hb
    have hple := hat.2.1
    have hdle := hat.2.2.1
    clear hat hO hb
    by_cases hp : p < l.length
    · obtain ⟨c, off, rfl, hcl, hcell⟩ : ∃ c off, a = some ⟨c, off, none⟩ ∧ c < w.heap.size ∧ ∀ i, i < l.length → w.cell? ⟨c, off + i, none⟩ = some (.int .u8 (l.getD i 0)) := by
        rcases unhide HC with h0 | h0
        · omega
        · exact h0
      have HC0 := hide (fun (wx : World) (hbx : Below w.heap.size w wx) (i : Nat) (hi : i < l.length) => (hbx.cell (p := ⟨c, off + i, none⟩) hcl).trans (hcell i hi))
      have HC2 := hide (fun i (hi : i < l.length) => ((unhide HB).cell (p := ⟨c, off + i, none⟩) hcl).trans (hcell i hi))
      clear hcell HC
      have hRl : (l.drop p).length = l.length - p := List.length_drop ..
      have HRr := hide (range_drop p (unhide HR))
      have HSt := hide (fun h => (unhide HA).stop hp h)
      have HNx := hide (fun d h => (unhide HA).next (d := d) hp h)
      have p1 : (p : Int) < (l.length : Int) := by omega
      by_cases h6 : l.length - p < 6
      · have E := hide (show frStep (l.drop p) = (16, []) by unfold frStep; rw [if_pos (by omega)])
        have q6 : (l.length : Int) - (p : Int) < 6 := by omega
        go_wp2_with fail
        refine bodyPost_ret (v := .tuple #[_, .int .i64 p, .int .i64 16]) (by simp [results, Try.results44, go_sem]; rfl) rfl ?_
        have hst := unhide HSt (by rw [unhide E]; decide)
        rw [unhide E] at hst
        rw [hst]
        exact ⟨_, rfl, unhide HO, unhide HB⟩
      · have q6 : ¬ (l.length : Int) - (p : Int) < 6 := by omega
        have q7 : (p : Int) + 1 < (l.length : Int) := by omega
        have hs0 := unhide HC2 p (by omega)
        have hs1 := unhide HC2 (p + 1) (by omega)
        have hx0 := unhide HR p
        have hx1 := unhide HR (p + 1)
        have hN : dec ((l.drop p).take 2) = l.getD p 0 * 256 + l.getD (p + 1) 0 := by
          obtain ⟨x0, x1, x2, x3, x4, x5, r, he⟩ := six (show 6 ≤ (l.drop p).length by omega)
          have e0 : (l.drop p).getD 0 0 = l.getD (p + 0) 0 := getD_drop
          have e1 : (l.drop p).getD 1 0 = l.getD (p + 1) 0 := getD_drop
          rw [he] at e0 e1 ⊢
          rw [Nat.add_zero] at e0
          rw [← e0, ← e1]
          exact dec2 x0 x1
        have HN := hide hN
        clear hN
        generalize l.getD p 0 = x0 at *
        generalize l.getD (p + 1) 0 = x1 at *
        have m1 : IntKind.i64.wrap (x0 * 256) = x0 * 256 := wrapI _ (by omega) (by omega)
        have m2 : IntKind.i64.wrap (x0 * 256 + x1) = x0 * 256 + x1 := wrapI _ (by omega) (by omega)
        obtain ⟨N, hNe⟩ : ∃ N : Nat, x0 * 256 + x1 = (N : Int) := ⟨(x0 * 256 + x1).toNat, by omega⟩
        have hNlt : N < 65536 := by omega
        rw [hNe] at m2 HN
        go_wp2_with fail
        go_quiet (fail)
        have HO2 := hide ((unhide HO).drewN nq)
        have HB2 := hide (below_drewN (unhide HB) nq)
        have HC3 : Hid (∀ i, i < l.length → (wr.drewN nq).cell? ⟨c, off + i, none⟩ = some (.int .u8 (l.getD i 0))) := hide (fun i hi => unhide HC2 i hi)
        clear HO HB HC2 hs0 hs1 m1 m2 hx0 hx1 hNe
        generalize wr.drewN nq = wr2 at *
        by_cases hin : inB N 1 200 = true
        · obtain ⟨g0, g1⟩ := inB_iff.1 hin
          have z1 : ((N : Int) == 0) = false := by rw [beq_eq_false_iff_ne]; omega
          have z2 : ¬ (200 : Int) < (N : Int) := by omega
          by_cases hle : N ≤ l.length - p - 6
          · have z3 : ¬ (l.length : Int) - (p : Int) - 6 < (N : Int) := by omega
            have y1 : (p : Int) + 6 + (N : Int) ≤ (cap : Int) := by omega
            have y2 : (p : Int) + 6 + (N : Int) ≤ (l.length : Int) := by omega
            have y3 : (p : Int) + 6 ≤ (p : Int) + 6 + (N : Int) := by omega
            have y4 : (0 : Int) ≤ (p : Int) + 6 := by omega
            unfold maxLen at hq2
            obtain ⟨dd, hdd⟩ : ∃ dd, dd = ((l.drop p).drop 6).take N := ⟨_, rfl⟩
            obtain ⟨tt, htt⟩ : ∃ tt, tt = (l.drop p).take (6 + N) := ⟨_, rfl⟩
            have hddl : dd.length = N := by rw [hdd, List.length_take, List.length_drop]; omega
            have httl : tt.length = 6 + N := by rw [htt, List.length_take]; omega
            have HDg : Hid (∀ i, i < N → dd.getD i 0 = l.getD (p + 6 + i) 0) := hide (fun i hi => by rw [hdd, getD_take hi, getD_drop, getD_drop, Nat.add_assoc])
            have HTg : Hid (∀ i, i < 6 + N → tt.getD i 0 = l.getD (p + i) 0) := hide (fun i hi => by rw [htt, getD_take hi, getD_drop])
            have HDr : Hid (∀ i, 0 ≤ dd.getD i 0 ∧ dd.getD i 0 ≤ 255) := hide (by rw [hdd]; exact range_take N (range_drop 6 (unhide HRr)))
            have HTr : Hid (∀ i, 0 ≤ tt.getD i 0 ∧ tt.getD i 0 ≤ 255) := hide (by rw [htt]; exact range_take _ (unhide HRr))
            have HFi : Hid (frameL dd = tt ↔ sumF dd = dec (((l.drop p).drop 2).take 4)) := hide (by rw [hdd, htt]; exact frame_iff (unhide HRr) (by omega) (unhide HN) (by omega))
            have HFs : Hid (frStep (l.drop p) = if sumF dd = dec (((l.drop p).drop 2).take 4) then (0, dd) else (8, [])) := hide (by
              unfold frStep; rw [if_neg (by omega), unhide HN, if_neg (by rw [hin]; simp), Int.toNat_natCast, if_neg (by omega), hdd])
            clear hdd htt
            have HCT : Hid (∀ wx, Below w.heap.size w wx → (convert 78 9 (.slice (some ⟨c, off + p, none⟩) (6 + N) (cap - p))).run Try.prog wx = .ok (.string (strOfNums tt)) wx) := hide (fun wx hbx =>
              run_convert_bytes_arg wx 78 5 Try.underlying78 Try.underlying5 c (off + p) (6 + N) (cap - p) tt httl (fun i hi => by rw [Nat.add_assoc, unhide HC0 wx hbx (p + i) (by omega), unhide HTg i hi]) 9 Try.underlying9)
            have HCD : Hid (∀ wx, Below w.heap.size w wx → (convert 78 9 (.slice (some ⟨c, off + (p + 6), none⟩) N (cap - (p + 6)))).run Try.prog wx = .ok (.string (strOfNums dd)) wx) := hide (fun wx hbx =>
              run_convert_bytes_arg wx 78 5 Try.underlying78 Try.underlying5 c (off + (p + 6)) N (cap - (p + 6)) dd hddl (fun i hi => by rw [Nat.add_assoc, unhide HC0 wx hbx (p + 6 + i) (by omega), unhide HDg i hi]) 9 Try.underlying9)
            have HLF := hide (fun wx (hbx : Below w.heap.size w wx) => l02Frame_any c (off + (p + 6)) (cap - (p + 6)) dd wx (Nat.lt_of_lt_of_le hcl hbx.size) (fun i hi => by rw [Nat.add_assoc, unhide HC0 wx hbx (p + 6 + i) (by omega), unhide HDg i (by omega)]) (unhide HDr) (by omega) (by omega))
            rw [hddl] at HLF
            have y5 : (p : Int) ≤ (p : Int) + 6 + (N : Int) := by omega
            have y6 : ¬ cap = p := by omega
            have y11 : ¬ p = cap := by omega
            have hS0 := unhide HCT wr2 (unhide HB2)
            have hS1 := unhide HCT wr2.drew (below_drewN (unhide HB2) 1)
            go_wp2_with fail
            obtain ⟨M, hM⟩ : ∃ M : Nat, (p : Int) + 6 + (N : Int) = (M : Int) := ⟨p + 6 + N, by omega⟩
            have y7 : (M : Int) ≤ (cap : Int) := by omega
            have y8 : (p : Int) ≤ (M : Int) := by omega
            have y9 : p ≤ M := by omega
            have y10 : M ≤ cap := by omega
            have y12 : M - p = 6 + N := by omega
            have y13 : IntKind.i64.wrap (M : Int) = (M : Int) := wrapI _ (by omega) (by omega)
            have y15 : IntKind.i64.wrap ((p : Int) + 6) = (p : Int) + 6 := wrapI _ (by omega) (by omega)
            have y14 : IntKind.i64.wrap ((p : Int) + 6 + (N : Int)) = (M : Int) := by rw [hM]; exact y13
            clear y1 y2 y3 y4 y5 hq1 hq2 z2 z3 q6 q7 p1
            go_region_with ((go_at_call 51; refine (unhide HLF _ (below_drewN (unhide HB2) 1)).mono ?_; rintro e w4 ⟨v4, rfl, hO4, hb4⟩; have hcv4 := conv_own (P := Try.prog) 78 9 5 Try.underlying78 Try.underlying5 Try.underlying9 hO4.1; have hS4 := unhide HCT _ ((below_drewN (unhide HB2) 1).trans (hb4.mono (below_drewN (unhide HB2) 1).size))))
            all_goals
              have HB4 := hide ((below_drewN (unhide HB2) 1).trans (hb4.mono (below_drewN (unhide HB2) 1).size))
              have HO4 := hide ((unhide HO2).below (show Below wr2.heap.size wr2 w4 from (below_drewN (Below.refl _ wr2) 1).trans hb4))
              have hSI := hide (str_inj hO4.2 (unhide HTr))
              clear hO4 hb4 hcv4 hS4 hS0 hS1 HLF HCT HO2 HB2
              by_cases heq : frameL dd = tt
              · have hbq : ((strOfNums (frameL dd)).toList == (strOfNums tt).toList) = true := by rw [heq]; simp
                have hE : frStep (l.drop p) = (0, dd) := by rw [unhide HFs, if_pos ((unhide HFi).1 heq)]
                have HAn := hide (unhide HNx dd hE)
                rw [hddl] at HAn
                have hcd := unhide HCD w4 (unhide HB4)
                have hB4s := (unhide HB4).size
                clear hE heq
                generalize (strOfNums (frameL dd)).toList = s1 at *
                generalize (strOfNums tt).toList = s2 at *
                obtain rfl : s1 = s2 := by simpa using hbq
                clear hbq
                go_wp2_with (at_builtin; refine wpList_append_lies _ rfl _ _ _ rfl w.heap.size 9 i0 _ 1 16 Try.underlying26 hi hz0 hz1 hz2 rfl (by omega) u5 (ds.map strOfNums).length _ rfl (World.ownsRow.alloc (unhide HO4) _) ⟨w4.heap.size, 0, none⟩ 1 1 [_] rfl rfl (World.news_of_block (cs := #[_]) (t := 9) (fr := (0, 0)) (heap_alloc_new w4 _)) (by simp [Value.oneCell']) (by omega) (by unfold maxLen; simp; omega) (by simp; omega) (by simp; omega) _ rfl ?_; intro g5 cap5 w5 hown5 hgrow5 hat5 hlt5; have R5 := hide (And.intro hown5 (((unhide HB4).alloc hB4s _).grown hgrow5 (by simp; omega) (fun r hr => ((unhide HO4).lt r hr).1))); clear hown5 hgrow5 hat5 hlt5)
                all_goals try (exfalso; rename_i hbad; simp at hbad; done)
                refine ⟨⟨p + 6 + N, ds ++ [dd], by go_num, unhide HAn, ?_, (unhide R5).2⟩, ?_⟩
                · have hR5 := (unhide R5).1
                  rw [List.length_map] at hR5
                  unfold OwnS
                  rw [List.map_append, List.map_append, List.length_append, List.length_map]
                  exact hR5
                · simp [intOf]; omega
              · have hbq : ((strOfNums (frameL dd)).toList == (strOfNums tt).toList) = false := by rw [beq_eq_false_iff_ne]; exact fun e => heq ((unhide hSI).1 (toList_inj e))
                have hE : frStep (l.drop p) = (8, []) := by rw [unhide HFs, if_neg (fun e => heq ((unhide HFi).2 e))]
                have hst := hide (unhide HSt (by rw [hE]; decide))
                rw [hE] at hst
                clear hE heq
                generalize (strOfNums (frameL dd)).toList = s1 at *
                generalize (strOfNums tt).toList = s2 at *
                have hs12 : ¬ s1 = s2 := by simpa using hbq
                have hs13 : (!(s1 == s2)) = true := by rw [hbq]; rfl
                go_wp2_with fail
                all_goals try (exfalso; have hz : (!(s1 == s2)) = false := by assumption
                               rw [hs13] at hz; cases hz; done)
                refine bodyPost_ret (v := .tuple #[_, .int .i64 p, .int .i64 8]) (by simp [results, Try.results44, go_sem]; rfl) rfl ?_
                rw [unhide hst]
                exact ⟨_, rfl, unhide HO4, unhide HB4⟩
          · have E := hide (show frStep (l.drop p) = (16, []) by unfold frStep; rw [if_neg (by omega), unhide HN, if_neg (by rw [hin]; simp), if_pos (by omega)])
            have z3 : (l.length : Int) - (p : Int) - 6 < (N : Int) := by omega
            go_wp2_with fail
            refine bodyPost_ret (v := .tuple #[_, .int .i64 p, .int .i64 16]) (by simp [results, Try.results44, go_sem]; rfl) rfl ?_
            have hst := unhide HSt (by rw [unhide E]; decide)
            rw [unhide E] at hst
            rw [hst]
            exact ⟨_, rfl, unhide HO2, unhide HB2⟩
        · have E := hide (show frStep (l.drop p) = (8, []) by unfold frStep; rw [if_neg (by omega), unhide HN, if_pos (by simpa using hin)])
          have hN2 := inB_no (by simpa using hin)
          by_cases hN0 : N = 0
          · subst hN0
            go_wp2_with fail
            refine bodyPost_ret (v := .tuple #[_, .int .i64 p, .int .i64 8]) (by simp [results, Try.results44, go_sem]; rfl) rfl ?_
            have hst := unhide HSt (by rw [unhide E]; decide)
            rw [unhide E] at hst
            rw [hst]
            exact ⟨_, rfl, unhide HO2, unhide HB2⟩
          · have z1 : ((N : Int) == 0) = false := by rw [beq_eq_false_iff_ne]; omega
            have z2 : (200 : Int) < (N : Int) := by omega
            go_wp2_with fail
            refine bodyPost_ret (v := .tuple #[_, .int .i64 p, .int .i64 8]) (by simp [results, Try.results44, go_sem]; rfl) rfl ?_
            have hst := unhide HSt (by rw [unhide E]; decide)
            rw [unhide E] at hst
            rw [hst]
            exact ⟨_, rfl, unhide HO2, unhide HB2⟩
    · have HE := hide ((unhide HA).done hp)
      have p1 : ¬ (p : Int) < (l.length : Int) := by omega
      go_wp2_with fail
      refine bodyPost_ret (v := .tuple #[_, .int .i64 p, .int .i64 0]) (by simp [results, Try.results44, go_sem]; rfl) rfl ?_
      rw [unhide HE]
      exact ⟨_, rfl, unhide HO, unhide HB⟩

end Go.Proofs.Ytlicgahjdgipkak
