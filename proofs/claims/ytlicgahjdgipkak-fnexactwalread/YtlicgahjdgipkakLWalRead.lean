/- For every disk that can be read, laws.FnExactWalRead returns true, and the disk reads as it did. No condition. -/
import Derived.Test.YtlicgahjdgipkakSpW
import Derived.Test.YtlicgahjdgipkakOpenD
import Derived.Test.YtlicgahjdgipkakSmallD
import Derived.Test.YtlicgahjdgipkakLawW
import Derived.Test.YtlicgahjdgipkakMkD
import Derived.Deep.DeepCutAuto
namespace Go.Proofs.Ytlicgahjdgipkak.fnExactWalRead
open Go.ChangeShapes Go.WideShapes Go.ChangeAt Go.RowKit
open Go.ChangeMaps (open_string shut_string)
set_option linter.unusedVariables false

theorem run_fst (sg : List Fl) : ∀ n i, sg.length - i = n → (lgRun sg i).1 = lg0 ∨ ∃ j, (j ≤ sg.length ∨ j = i) ∧ (lgRun sg i).1 = lgAt sg j := by
  intro n
  induction n using Nat.strongRecOn with
  | ind n ih =>
    intro i hi
    rw [lgRun]
    by_cases h1 : i < sg.length
    · rw [dif_pos h1]
      by_cases h2 : lgCode sg i (lgAt sg i) = 0
      · rw [if_pos h2]
        rcases ih (sg.length - (i + 1)) (by omega) (i + 1) rfl with h | ⟨j, hj, h⟩
        · exact .inl h
        · exact .inr ⟨j, by omega, h⟩
      · rw [if_neg h2]; exact .inl rfl
    · rw [dif_neg h1]; exact .inr ⟨i, .inr rfl, rfl⟩
theorem out_small (room : Int) (l : List Fl) : (walOut room l).1.recs.length ≤ 24000 ∧ (walOut room l).1.names.length ≤ 8 := by
  unfold walOut
  by_cases hd : diskB room l = true
  · rw [if_pos hd]
    have h8 := segs_len l (disk_len hd)
    rcases run_fst (segsP l) _ 0 rfl with h | ⟨j, hj, h⟩
    · rw [h]; simp [lg0]
    · rw [h]
      have h1 := lgAt_recs (segsP l) (fun f hf => seg_small hd f (List.mem_filter.1 hf).1) j (by omega)
      have h2 := lgAt_names (segsP l) j
      omega
  · rw [if_neg hd]; simp [lg0]
/-- What is carried on: all that was there, the argument's box, the specification's answer. -/
structure Lw (w : World) (room : Int) (v : Value) (sb : Nat) (L : Lg) (s1 s2 : Value) (wx : World) : Prop where
  b : Below w.heap.size w wx
  x : Blk wx w.heap.size [.int .i64 room, v]
  y : Blk wx sb [.int .i64 L.first, s1, s2, .int .i64 L.torn]
  o1 : OwnS 0 wx s1 L.recs
  o2 : OwnS 0 wx s2 L.names
  h1 : ∀ k, s1.ownBlock = some k → k < sb
  h2 : ∀ k, s2.ownBlock = some k → k < sb
  p : w.heap.size < sb
theorem Lw.below {w : World} {room : Int} {v : Value} {sb : Nat} {L : Lg} {s1 s2 : Value} {wx wy : World} (h : Lw w room v sb L s1 s2 wx) (hb : Below wx.heap.size wx wy) : Lw w room v sb L s1 s2 wy :=
  ⟨h.b.trans (hb.mono h.b.size), h.x.below hb, h.y.below hb, h.o1.below hb, h.o2.below hb, h.h1, h.h2, h.p⟩
theorem Lw.kept {T : Nat → Prop} {w : World} {room : Int} {v : Value} {sb : Nat} {L : Lg} {s1 s2 : Value} {wx wy : World} (h : Lw w room v sb L s1 s2 wx) (ht : Touch T wx wy) (hT : ∀ k, T k → sb < k) : Lw w room v sb L s1 s2 wy :=
  ⟨h.b.trans (ht.below h.b.size (fun k hk e => by have := hT k e; have := h.p; omega)), h.x.kept ht (fun e => by have := hT _ e; have := h.p; omega), h.y.kept ht (fun e => by have := hT _ e; omega), h.o1.kept ht (fun k hk e => by have := hT _ e; have := h.h1 k hk; omega), h.o2.kept ht (fun k hk e => by have := hT _ e; have := h.h2 k hk; omega), h.h1, h.h2, h.p⟩

set_option maxRecDepth 100000 in
set_option maxHeartbeats 4000000 in
theorem walk (room : Int) (u : Value) (l : List Fl) (w : World) (hf : Fls w u l) (hz : ∀ i, i < l.length → (l.getD i default).n.size ≤ maxLen ∧ (l.getD i default).d.size ≤ maxLen) :
    Calls Try.prog 3 #[.agg #[.int .i64 room, u]] w fun e w' => e = .returned (.bool true) ∧ Below w.heap.size w w' := by
  have HF := hide hf
  have HZ := hide hz
  obtain ⟨a, cap, rfl, hn, hm, hc⟩ := hf
  clear hc hm hn hz
  have B0 := hide ((Below.refl w.heap.size w).alloc (Nat.le_refl _) (.cells #[.int .i64 room, .slice a l.length cap] 24))
  have X0 := hide (Blk.new w #[.int .i64 room, .slice a l.length cap] 24 w.heap.size rfl)
  go_enter Try.func3, Try.ntmps3
  go_wp2_with fail
  generalize w.alloc (.cells #[.int .i64 room, .slice a l.length cap] 24) = w0 at *
  refine (szDisk_any room _ l w0 ((unhide HF).below (unhide B0)) (unhide HZ)).mono ?_
  rintro e w1 ⟨rfl, hb1⟩
  have B1 := hide ((unhide B0).trans (hb1.mono (unhide B0).size))
  have X1 := hide ((unhide X0).below hb1)
  have hsm := hide (small_of l)
  clear hb1 B0 X0
  rcases szR_cases l with hr | hr
  · rw [hr]
    go_wp2_with fail
    go_ret
    exact ⟨rfl, unhide B1⟩
  have HSM := hide (unhide hsm hr)
  have hll := (unhide HSM).1
  clear hsm
  generalize szR l = r at *
  have x0 := (unhide X1).cell 0 rfl
  have x1 := (unhide X1).cell 1 rfl
  go_wp2_with fail
  clear x0 x1
  refine (toDisk_any room _ l _ ((unhide HF).below (unhide B1)) hll).mono ?_
  rintro e w2 ⟨g2, rfl, hO2, hb2⟩
  have B2 := hide ((unhide B1).trans (hb2.mono (unhide B1).size))
  have X2 := hide ((unhide X1).below hb2)
  have V2 := hide hO2
  clear hb2 hO2 B1 X1
  go_wp2_with fail
  refine (specWalRead_any room _ l w2 (unhide V2).fls (unhide HSM)).mono ?_
  rintro e w3 ⟨sa, sn, sc, ta, tn, tc, rfl, hA3, hb3⟩
  obtain ⟨hos1, hos2⟩ := out_small room l
  generalize hout : walOut room l = out at *
  have HOUT := hide hout
  clear hout
  obtain ⟨L, cd⟩ := out
  dsimp only at *
  have HL3 : Hid (Lw w room (.slice a l.length cap) w3.heap.size L (.slice sa sn sc) (.slice ta tn tc) (w3.alloc (.cells #[.int .i64 L.first, .slice sa sn sc, .slice ta tn tc, .int .i64 L.torn] 28))) := by
    have AA := (Below.refl w3.heap.size w3).alloc (Nat.le_refl _) (.cells #[.int .i64 L.first, .slice sa sn sc, .slice ta tn tc, .int .i64 L.torn] 28)
    have hx := (unhide X2).1
    have := hb3.size
    exact hide ⟨((unhide B2).trans (hb3.mono (unhide B2).size)).trans (AA.mono (Nat.le_trans (unhide B2).size hb3.size)), ((unhide X2).below hb3).below AA, Blk.new w3 #[.int .i64 L.first, .slice sa sn sc, .slice ta tn tc, .int .i64 L.torn] 28 w3.heap.size rfl, (hA3.1.below AA).mono (Nat.zero_le _), (hA3.2.1.below AA).mono (Nat.zero_le _), fun k hk => (hA3.1.lt k hk).2, fun k hk => (hA3.2.1.lt k hk).2, by omega⟩
  clear hA3 hb3 B2 X2 V2
  go_upto_region 6 with fail
  generalize w3.alloc (.cells #[.int .i64 L.first, .slice sa sn sc, .slice ta tn tc, .int .i64 L.torn] 28) = w4 at *
  generalize w3.heap.size = sb at *
  have x0 := (unhide HL3).x.cell 0 rfl
  have x1 := (unhide HL3).x.cell 1 rfl
  go_wp2_with fail
  clear x0 x1
  refine (toDisk_any room _ l _ ((unhide HF).below (unhide HL3).b) hll).mono ?_
  rintro e w5 ⟨g5, rfl, hO5, hb5⟩
  have AA := (Below.refl w5.heap.size w5).alloc (Nat.le_refl _) (.cells #[.int .i64 room, .slice (some ⟨g5, 0, none⟩) l.length l.length] 33)
  have HL5 := hide (((unhide HL3).below hb5).below AA)
  have HV5 := hide (hO5.below AA)
  have HD5 := hide (Blk.new w5 #[.int .i64 room, .slice (some ⟨g5, 0, none⟩) l.length l.length] 33 w5.heap.size rfl)
  have hg5 := World.ownsRow.lt hO5 g5 rfl
  have hsb4 := (unhide HL3).y.1
  clear hO5 hb5 AA HL3
  go_upto_region 7 with fail
  have HZ5 : Hid ((w5.alloc (.cells #[.int .i64 room, .slice (some ⟨g5, 0, none⟩) l.length l.length] 33)).heap.size = w5.heap.size + 1) := hide (by simp)
  generalize w5.alloc (.cells #[.int .i64 room, .slice (some ⟨g5, 0, none⟩) l.length l.length] 33) = w6 at *
  generalize w5.heap.size = db at *
  have d0 := (unhide HD5).cell 0 rfl
  have d1 := (unhide HD5).cell 1 rfl
  go_wp2_with fail
  clear d0 d1
  have HIM := hide (implWalRead_any room _ l w6 (unhide HV5).fls (unhide HSM))
  rw [unhide HOUT] at HIM
  refine (unhide HIM).mono ?_
  clear HIM
  rintro e w7 ⟨ia, iN, ic, ja, jn, jc, rfl, hA7, hb7⟩
  dsimp only at hA7 ⊢
  have AA := (Below.refl w7.heap.size w7).alloc (Nat.le_refl _) (.cells #[.int .i64 L.first, .slice ia iN ic, .slice ja jn jc, .int .i64 L.torn] 28)
  have HL7 := hide (((unhide HL5).below hb7).below AA)
  have HV7 := hide (((unhide HV5).below hb7).below AA)
  have HD7 := hide (((unhide HD5).below hb7).below AA)
  have HA7 := hide (hA7.below AA)
  have HI7 := hide (Blk.new w7 #[.int .i64 L.first, .slice ia iN ic, .slice ja jn jc, .int .i64 L.torn] 28 w7.heap.size rfl)
  have hz7 := hb7.size
  have hIB : Hid (∀ k, ((Value.slice ia iN ic).ownBlock = some k ∨ (Value.slice ja jn jc).ownBlock = some k) → db + 2 < k ∧ k < w7.heap.size) := hide (fun k hk => by
    have h1 := unhide HZ5
    rcases hk with hk | hk
    · have := hA7.1.lt k hk; omega
    · have := hA7.2.1.lt k hk; omega)
  have hz6 : db + 1 ≤ w7.heap.size := by have := unhide HZ5; omega
  clear hA7 hb7 AA HL5 HV5 HD5
  go_upto_region 8 with fail
  generalize w7.alloc (.cells #[.int .i64 L.first, .slice ia iN ic, .slice ja jn jc, .int .i64 L.torn] 28) = w8 at *
  generalize w7.heap.size = ib at *
  have i0 := (unhide HI7).cell 0 rfl
  have i1 := (unhide HI7).cell 1 rfl
  have i2 := (unhide HI7).cell 2 rfl
  have i3 := (unhide HI7).cell 3 rfl
  have s0 := (unhide HL7).y.cell 0 rfl
  have s1 := (unhide HL7).y.cell 1 rfl
  have s2 := (unhide HL7).y.cell 2 rfl
  have s3 := (unhide HL7).y.cell 3 rfl
  have hcc : (cd == cd) = true := by simp
  go_wp2_with fail
  clear i0 i1 i2 i3 s0 s1 s2 s3
  refine (eqWal_any L.first L.torn _ _ _ _ L.recs L.names w8 (unhide HA7).1.strs (unhide HA7).2.1.strs (unhide HL7).o1.strs (unhide HL7).o2.strs (by omega) (by omega)).mono ?_
  rintro e w9 ⟨rfl, hb9⟩
  have HL9 := hide ((unhide HL7).below hb9)
  have HV9 := hide ((unhide HV7).below hb9)
  have HD9 := hide ((unhide HD7).below hb9)
  have HA9 := hide ((unhide HA7).below hb9)
  have HI9 := hide ((unhide HI7).below hb9)
  clear hb9 HL7 HV7 HD7 HA7 HI7
  go_wp2_with fail
  go_cut [45] (fun s wx => s = .bool false ∧ Below w9.heap.size w9 wx)
  case first =>
    have hb0 := below_drewN (Below.refl w9.heap.size w9) 1
    have hT := (unhide HL9).below hb0
    have hO := (unhide HV9).below hb0
    have hY := (unhide HD9).below hb0
    clear HL9 HV9 HD9 HA9 HI9
    go_region_held3 (fun wx => wx.cell? ⟨w.heap.size, 0, none⟩ = some (.int .i64 room) ∧ wx.cell? ⟨w.heap.size, 1, none⟩ = some (.slice a l.length cap) ∧ wx.cell? ⟨db, 0, none⟩ = some (.int .i64 room) ∧ wx.cell? ⟨db, 1, none⟩ = some (.slice (some ⟨g5, 0, none⟩) l.length l.length))
      (exact ⟨hT.x.cell 0 rfl, hT.x.cell 1 rfl, hY.cell 0 rfl, hY.cell 1 rfl⟩)
      (first
        | (go_at_call 10; refine (eqDisk_any room _ _ l _ hO.fls hOA.fls hll).mono ?_; rintro e wz ⟨rfl, hbz⟩; have hT2 := hT.below hbz; clear hT; have hT := hT2; clear hT2; have hY2 := hY.below hbz; clear hY; have hY := hY2; clear hY2; have hb2 := hb0.trans (hbz.mono hb0.size); clear hb0; have hb0 := hb2; clear hb2)
        | (go_at_call 7; refine (toDisk_any room (.slice a l.length cap) l _ ((unhide HF).below hT.b) hll).mono ?_; rintro e wA ⟨gC, rfl, hOA, hbA⟩; have hT2 := hT.below hbA; clear hT; have hT := hT2; clear hT2; have hY2 := hY.below hbA; clear hY; have hY := hY2; clear hY2; have hO2 := hO.below hbA; clear hO; have hO := hO2; clear hO2; have hb2 := hb0.trans (hbA.mono hb0.size); clear hb0; have hb0 := hb2; clear hb2))
    all_goals
      go_wp2_with fail
      go_meet
      exact ⟨rfl, hb0⟩
  case rest =>
    obtain ⟨rfl, hb⟩ := hcut
    have HL := hide ((unhide HL9).below hb)
    have HV := hide ((unhide HV9).below hb)
    have HDD := hide ((unhide HD9).below hb)
    have HA := hide ((unhide HA9).below hb)
    have HI := hide ((unhide HI9).below hb)
    clear hb HL9 HV9 HD9 HA9 HI9
    generalize wc = w10 at *
    have d0 := (unhide HDD).cell 0 rfl
    have d1 := (unhide HDD).cell 1 rfl
    go_wp2_with fail
    clear d0 d1
    refine (markDisk_any room _ g5 l.length l w10 (unhide HV) hll).mono ?_
    rintro e w11 ⟨rfl, hT11⟩
    have HL11 := hide ((unhide HL).kept hT11 (fun k hk => by subst hk; omega))
    have HA11 : Hid (WalA 0 w11 L (.slice ia iN ic) (.slice ja jn jc)) := hide ⟨((unhide HA).1.kept hT11 (fun k hk e => by have := unhide hIB k (.inl hk); subst e; omega)).mono (Nat.zero_le _), ((unhide HA).2.1.kept hT11 (fun k hk e => by have := unhide hIB k (.inr hk); subst e; omega)).mono (Nat.zero_le _), (unhide HA).2.2⟩
    have HI11 := hide ((unhide HI).kept hT11 (fun e => by omega))
    clear hT11 HL HV HDD HA HI
    have i0 := (unhide HI11).cell 0 rfl
    have i1 := (unhide HI11).cell 1 rfl
    have i2 := (unhide HI11).cell 2 rfl
    have i3 := (unhide HI11).cell 3 rfl
    have s0 := (unhide HL11).y.cell 0 rfl
    have s1 := (unhide HL11).y.cell 1 rfl
    have s2 := (unhide HL11).y.cell 2 rfl
    have s3 := (unhide HL11).y.cell 3 rfl
    have hmk : decide ((1 : Int) + 3 * (l.length : Int) < 0) = false := by rw [decide_eq_false_iff_not]; omega
    have hmk2 : ¬ (1 : Int) + 3 * (l.length : Int) < 0 := by omega
    go_wp2_with fail
    clear s0 s1 s2 s3 hmk hmk2
    refine (eqWal_any L.first L.torn _ _ _ _ L.recs L.names w11 (unhide HA11).1.strs (unhide HA11).2.1.strs (unhide HL11).o1.strs (unhide HL11).o2.strs (by omega) (by omega)).mono ?_
    rintro e w12 ⟨rfl, hb12⟩
    have HL12 := hide ((unhide HL11).below hb12)
    have HA12 := hide ((unhide HA11).below hb12)
    have HI12 := hide ((unhide HI11).below hb12)
    clear hb12 HL11 HA11 HI11 i0 i1 i2 i3
    have i0 := (unhide HI12).cell 0 rfl
    have i1 := (unhide HI12).cell 1 rfl
    have i2 := (unhide HI12).cell 2 rfl
    have i3 := (unhide HI12).cell 3 rfl
    go_wp2_with fail
    clear i0 i1 i2 i3
    refine (markWal_any L.first L.torn _ _ L.recs L.names 0 w12 (unhide HA12).1 (unhide HA12).2.1 (unhide HA12).2.2.1 (by omega) (by omega)).mono ?_
    rintro e w13 ⟨rfl, hM1, hM2, hT13⟩
    have HL13 := hide ((unhide HL12).kept hT13 (fun k hk => by have := unhide hIB k hk; omega))
    have HI13 := hide ((unhide HI12).kept hT13 (fun e => by have := unhide hIB ib e; omega))
    have HM := hide (And.intro hM1 hM2)
    clear hM1 hM2 hT13 HL12 HA12 HI12
    obtain ⟨p, hp⟩ : ∃ p, p = L.recs.length := ⟨_, rfl⟩
    obtain ⟨q, hq⟩ : ∃ q, q = L.names.length := ⟨_, rfl⟩
    rw [← hp, ← hq] at HM ⊢
    rw [← hp] at hos1
    rw [← hq] at hos2
    clear hp hq
    have i0 := (unhide HI13).cell 0 rfl
    have i1 := (unhide HI13).cell 1 rfl
    have i2 := (unhide HI13).cell 2 rfl
    have i3 := (unhide HI13).cell 3 rfl
    go_wp2_with fail
    clear i0 i1 i2 i3
    refine (heldWal_any L.first L.torn _ _ p q 0 w13 (unhide HM).1 (unhide HM).2 (by omega) (by omega)).mono ?_
    rintro e w14 ⟨rfl, hb14⟩
    have HL14 := hide ((unhide HL13).below hb14)
    have HI14 := hide ((unhide HI13).below hb14)
    have HM14 := hide (And.intro ((unhide HM).1.below hb14) ((unhide HM).2.below hb14))
    clear hb14 HL13 HI13 HM
    have hpos : ¬ (1 : Int) + (p : Int) + (q : Int) < 0 := by omega
    have hself : ((1 : Int) + (p : Int) + (q : Int) == (1 : Int) + (p : Int) + (q : Int)) = true := by simp
    have x0 := (unhide HL14).x.cell 0 rfl
    have x1 := (unhide HL14).x.cell 1 rfl
    go_wp2_with fail
    clear x0 x1
    refine (toDisk_any room _ l _ ((unhide HF).below (unhide HL14).b) hll).mono ?_
    rintro e w15 ⟨g15, rfl, hO15, hb15⟩
    have HL15 := hide ((unhide HL14).below hb15)
    have HI15 := hide ((unhide HI14).below hb15)
    have HM15 := hide (And.intro ((unhide HM14).1.below hb15) ((unhide HM14).2.below hb15))
    have HV15 := hide hO15
    clear hb15 hO15 HL14 HI14 HM14
    go_wp2_with fail
    have HIM := hide (implWalRead_any room _ l w15 (unhide HV15).fls (unhide HSM))
    rw [unhide HOUT] at HIM
    refine (unhide HIM).mono ?_
    clear HIM
    rintro e w16 ⟨ka, kn, kc, ma, mn, mc, rfl, hA16, hb16⟩
    dsimp only at hA16 ⊢
    have AA := (Below.refl w16.heap.size w16).alloc (Nat.le_refl _) (.cells #[.int .i64 L.first, .slice ka kn kc, .slice ma mn mc, .int .i64 L.torn] 28)
    have HL16 := hide (((unhide HL15).below hb16).below AA)
    have HI16 := hide (((unhide HI15).below hb16).below AA)
    have HM16 := hide (And.intro (((unhide HM15).1.below hb16).below AA) (((unhide HM15).2.below hb16).below AA))
    have HA16 := hide (hA16.below AA)
    have HJ16 := hide (Blk.new w16 #[.int .i64 L.first, .slice ka kn kc, .slice ma mn mc, .int .i64 L.torn] 28 w16.heap.size rfl)
    clear hA16 hb16 AA HL15 HI15 HM15 HV15
    go_upto_region 25 with fail
    generalize w16.alloc (.cells #[.int .i64 L.first, .slice ka kn kc, .slice ma mn mc, .int .i64 L.torn] 28) = w17 at *
    generalize w16.heap.size = jb at *
    have i0 := (unhide HJ16).cell 0 rfl
    have i1 := (unhide HJ16).cell 1 rfl
    have i2 := (unhide HJ16).cell 2 rfl
    have i3 := (unhide HJ16).cell 3 rfl
    have s0 := (unhide HL16).y.cell 0 rfl
    have s1 := (unhide HL16).y.cell 1 rfl
    have s2 := (unhide HL16).y.cell 2 rfl
    have s3 := (unhide HL16).y.cell 3 rfl
    obtain ⟨hos1, hos2⟩ := out_small room l
    rw [unhide HOUT] at hos1 hos2
    dsimp only at hos1 hos2
    go_wp2_with fail
    clear i0 i1 i2 i3 s0 s1 s2 s3
    refine (eqWal_any L.first L.torn _ _ _ _ L.recs L.names w17 (unhide HA16).1.strs (unhide HA16).2.1.strs (unhide HL16).o1.strs (unhide HL16).o2.strs (by omega) (by omega)).mono ?_
    rintro e w18 ⟨rfl, hb18⟩
    have HL18 := hide ((unhide HL16).below hb18)
    have HI18 := hide ((unhide HI16).below hb18)
    have HM18 := hide (And.intro ((unhide HM16).1.below hb18) ((unhide HM16).2.below hb18))
    clear hb18 HL16 HI16 HM16 HA16 HJ16
    have i0 := (unhide HI18).cell 0 rfl
    have i1 := (unhide HI18).cell 1 rfl
    have i2 := (unhide HI18).cell 2 rfl
    have i3 := (unhide HI18).cell 3 rfl
    go_wp2_with fail
    clear i0 i1 i2 i3
    refine (heldWal_any L.first L.torn _ _ p q 0 w18 (unhide HM18).1 (unhide HM18).2 (by omega) (by omega)).mono ?_
    rintro e w19 ⟨rfl, hb19⟩
    have HL19 := hide ((unhide HL18).below hb19)
    clear hb19 HL18 HI18 HM18
    go_wp2_with fail
    go_ret
    exact ⟨rfl, (unhide HL19).b⟩

theorem own : ownKnob Try.prog.godebug = none := by kernel_rfl
theorem laidOut : laidOutB Try.prog = true := by kernel_rfl
set_option maxRecDepth 100000 in
theorem lifted (os : Os) (started : os.Started) (H : Type) (enc : TypeId × Value → H) :
    ReturnsInHanded {} Try.checked os 3 .any (Rows.fnExactWalReadSpec.pre6 enc Try.prog Try.f3 Rows.fnExactWalReadRow.domain false) (Rows.fnExactWalReadSpec.post enc Try.prog Try.f3 false true false false) := by
  refine returnsInHanded_of_change (C := Try.checked) own started (by kernel_rfl) Try.func3
    (ChangeSpec.witness6 (enc := enc) (C := Try.checked) false ⟨#[], #[.agg #[.int .i64 0, .slice none 0 0]], []⟩ 8 (by kernel_rfl) (by kernel_rfl) (by kernel_rfl) (by kernel_rfl)) ?_
  intro W base args ds gs before hval0 hW hcnd _
  have hval : ∀ (j : Nat) t v, Try.f3.params[j]? = some t → args[j]? = some v → Value.okWide Try.prog W .any base t v := hval0
  have hW' := hW
  obtain ⟨p, q, hA0, hV, rfl, hfz, hnd⟩ := hW
  have hA : DataW.TrodAll enc Try.prog W 0 (fun _ => true) true Try.f3.params.toList args.toList ds p := hA0
  rw [Try.params3] at hA hval
  obtain ⟨v0, vs0, d0, ds0, p0, q0, hargs, rfl, rfl, h0, r0⟩ := trodAll_cons hA
  obtain ⟨rfl, rfl, rfl⟩ := trodAll_nil r0
  obtain rfl : args = #[v0] := by cases args; simp_all
  obtain ⟨rfl, rfl⟩ := trodVars_none hV
  have k0 := h0
  have lt0 : ∀ x ∈ p0, x.block < W.heap.size := by obtain ⟨m, hm⟩ := k0; exact DataW.trod_lt m _ _ _ hm
  obtain ⟨room0, u0, l0, rfl, wr0, hf0, hz0⟩ := open_disk (hval 0 24 v0 rfl rfl) h0
  clear hA0 hval0
  refine (walk room0 u0 l0 W hf0 hz0).mono fun e W' ⟨he, bel⟩ => ?_
  subst he
  exact ⟨_, rfl, _, _, _, [], _, [], hW', trodAll_mk1 (shut_bool Try.underlying4 _), (trodAll_cons_mk (Below.trod laidOut (by kernel_rfl) (of_decide_eq_true (by kernel_rfl)) k0 bel lt0) trodAll_mk0), rfl, bel.frame _, fun h => by cases h⟩

theorem over : Rows.fnExactWalReadRow.holds Try.pinned (OpenSpec.ofChange Rows.fnExactWalReadSpec) :=
  OpenClaim.holds_of_wide 3 Try.f3 rfl rfl rfl rfl rfl rfl rfl ⟨rfl, rfl, rfl, rfl, rfl⟩ rfl rfl rfl rfl rfl (by kernel_rfl) Try.func3 (by kernel_rfl)
    (of_decide_eq_true (by kernel_rfl)) (by unfold Func.isWrapper; first | (rw [if_pos (by decide +kernel)]; kernel_rfl) | (rw [if_neg (by decide +kernel)]; exact ⟨rfl, rfl⟩))
    (fun os started H enc _ => lifted os started H enc)

end Go.Proofs.Ytlicgahjdgipkak.fnExactWalRead
namespace Go.Proofs.Ytlicgahjdgipkak
theorem fnExactWalRead_holds : Rows.FnExactWalReadSaid := fnExactWalRead.over
#print axioms fnExactWalRead_holds
end Go.Proofs.Ytlicgahjdgipkak
