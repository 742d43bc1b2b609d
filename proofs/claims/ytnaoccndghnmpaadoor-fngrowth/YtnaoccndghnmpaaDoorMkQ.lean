/- The fold that carries two hashes; impl.ConsistencyRoots. -/
import Derived.Test.YtnaoccndghnmpaaDoorMkZ
import Derived.Test.YtnaoccndghnmpaaDoorMkY
namespace Go.Proofs.YtnaoccndghnmpaaDoor.Sha
open Go.ChangeShapes Go.WideShapes Go.ChangeAt Go.RowKit
set_option linter.unusedVariables false
set_option linter.unusedSimpArgs false

theorem stepG_size {g : ByteArray × ByteArray} {t : Int × ByteArray} (h1 : g.1.size = 32) (h2 : g.2.size = 32) (ht : t.2.size = 32) : (stepG g t).1.size = 32 ∧ (stepG g t).2.size = 32 := by
  unfold stepG
  refine ⟨?_, climb_size h2 ht⟩
  dsimp only
  split
  · exact climb_size h1 ht
  · exact h1
theorem foldG_size (l : List (Int × ByteArray)) (g : ByteArray × ByteArray) (h1 : g.1.size = 32) (h2 : g.2.size = 32) (hs : ∀ i, i < l.length → (l.getD i (0, ByteArray.empty)).2.size = 32) : ∀ k, k ≤ l.length → ((l.take k).foldl stepG g).1.size = 32 ∧ ((l.take k).foldl stepG g).2.size = 32 := by
  intro k
  induction k with
  | zero => intro _; exact ⟨h1, h2⟩
  | succ k ih =>
    intro hk
    rw [foldl_next stepG g l (0, ByteArray.empty) k (by omega)]
    have := ih (by omega)
    exact stepG_size this.1 this.2 (hs k (by omega))
set_option maxRecDepth 100000 in
set_option maxHeartbeats 4000000 in
theorem foldG_any (v : Value) (l : List (Int × ByteArray)) (a c : ByteArray) (B : Nat) (w : World) (hO : OwnT B w v l) (hll : l.length ≤ 64) (hs : ∀ i, i < l.length → (l.getD i (0, ByteArray.empty)).2.size = 32) (ha : a.size = 32) (hc : c.size = 32) (ht : Tab w) :
    Calls Tryd.prog 50 #[v, .agg #[.string a, .string c], .func (.func 51) #[] #[]] w fun e w' => e = .returned (.agg #[.string (l.foldl stepG (a, c)).1, .string (l.foldl stepG (a, c)).2]) ∧ Below w.heap.size w w' := by
  have HF := hide (foldG_size l (a, c) ha hc hs)
  have B0 := hide (((Below.refl w.heap.size w).alloc (Nat.le_refl _) (.cells #[.string a, .string c] 72)).alloc (by simp) (.cells #[.string ⟨#[]⟩, .string ⟨#[]⟩] 72))
  have X0 := hide ((Blk.new w #[.string a, .string c] 72 w.heap.size rfl).alloc (.cells #[.string ⟨#[]⟩, .string ⟨#[]⟩] 72))
  have Y0 := hide (Blk.new (w.alloc (.cells #[.string a, .string c] 72)) #[.string ⟨#[]⟩, .string ⟨#[]⟩] 72 (w.heap.size + 1) (by simp))
  have HS := hide hs
  have HT := hide ht
  have HW := hide hO
  obtain ⟨va, vc, hv⟩ : ∃ va vc, v = .slice va l.length vc := by
    rcases _root_.Go.Proofs.YtnaoccndghnmpaaDoor.own_shape hO with ⟨rfl, h0⟩ | ⟨g, wc, rfl, _⟩
    · exact ⟨none, 0, by rw [h0]⟩
    · exact ⟨_, _, rfl⟩
  subst hv
  have HSH : Hid (0 < l.length → ∃ g, va = some ⟨g, 0, none⟩ ∧ g < w.heap.size) := hide (fun hp => by
    rcases _root_.Go.Proofs.YtnaoccndghnmpaaDoor.own_shape hO with ⟨h, h0⟩ | ⟨g, wc, h, _, hlt, _⟩
    · omega
    · simp only [Value.slice.injEq] at h
      exact ⟨g, h.1, hlt⟩)
  clear hO hs ht ha hc
  generalize hBB : w.heap.size = BB at *
  have HBB := hide hBB
  go_enter Tryd.func50, Tryd.ntmps50
  go_upto_region 1 with fail
  have hz0 : BB + 2 ≤ ((w.alloc (.cells #[.string a, .string c] 72)).alloc (.cells #[.string ⟨#[]⟩, .string ⟨#[]⟩] 72)).heap.size := by simp; omega
  generalize (w.alloc (.cells #[.string a, .string c] 72)).alloc (.cells #[.string ⟨#[]⟩, .string ⟨#[]⟩] 72) = w0 at *
  clear hBB
  go_wp2_with fail
  go_loopw [11] (fun i wr => ∃ (k : Nat) (g1 g2 : ByteArray), k ≤ l.length ∧ i = .int .i64 k ∧ (l.take k).foldl stepG (a, c) = (g1, g2) ∧ Blk wr BB [.string g1, .string g2] ∧ Blk wr (BB + 1) [.string ⟨#[]⟩, .string ⟨#[]⟩] ∧ Below BB w wr ∧ BB + 2 ≤ wr.heap.size) (fun i _ => l.length - (intOf i).toNat)
  case atStart => exact ⟨0, a, c, Nat.zero_le _, rfl, rfl, unhide X0, unhide Y0, unhide B0, hz0⟩
  case round =>
    obtain ⟨k, g1, g2, hk, rfl, hg, hX, hY, hb, hzs⟩ := hrel
    by_cases hlt : k < l.length
    · obtain ⟨g, rfl, hgl⟩ := unhide HSH (by omega)
      obtain ⟨d0, d1⟩ := (unhide HW).cell k hlt
      have c0 := (hb.cell (p := ⟨g, k * 2, none⟩) hgl).trans d0
      have c1 := (hb.cell (p := ⟨g, k * 2 + 1, none⟩) hgl).trans d1
      have hk0 : (0 : Int) ≤ (k : Int) := by omega
      have hk1 : (k : Int) < (l.length : Int) := by omega
      have HE := hide (foldl_next stepG (a, c) l (0, ByteArray.empty) k hlt)
      rw [hg] at HE
      have z1 := unhide HF k (by omega)
      rw [hg] at z1
      have z2 := unhide HS k hlt
      have HZ := hide (And.intro z1 z2)
      generalize l.getD k (0, ByteArray.empty) = t at *
      obtain ⟨s, x⟩ := t
      dsimp only at c0 c1 HE HZ
      have B1 := hide (hb.alloc (by omega) (.cells #[.int .i64 s, .string x] 60))
      have X1 := hide (hX.alloc (.cells #[.int .i64 s, .string x] 60))
      have Y1 := hide (hY.alloc (.cells #[.int .i64 s, .string x] 60))
      have T1 := hide (Blk.new wr #[.int .i64 s, .string x] 60 wr.heap.size rfl)
      have hs1 : BB + 2 ≤ (wr.alloc (.cells #[.int .i64 s, .string x] 60)).heap.size := by simp; omega
      clear hX hY hb d0 d1 z1 z2 hg
      go_upto_region 4 with fail
      clear c0 c1
      generalize wr.alloc (.cells #[.int .i64 s, .string x] 60) = w1 at *
      have p0 := (unhide X1).cell 0 rfl
      have p1 := (unhide X1).cell 1 rfl
      have q0 := (unhide T1).cell 0 rfl
      have q1 := (unhide T1).cell 1 rfl
      have HC := hide (climbG_any g1 g2 s x w1 (unhide HZ).1.1 (unhide HZ).1.2 (unhide HZ).2 ((unhide HT).below (by rw [unhide HBB]; exact unhide B1)))
      generalize stepG (g1, g2) (s, x) = r at *
      obtain ⟨r1, r2⟩ := r
      dsimp only at HC
      go_wp2_with fail
      refine (unhide HC).mono ?_
      rintro e w2 ⟨rfl, hb2⟩
      have X2 := (unhide X1).below hb2
      have Y2 := (unhide Y1).below hb2
      have B2 := (unhide B1).trans (hb2.mono (by omega))
      have hs2 := hb2.size
      have m0 := X2.cell 0 rfl
      have m1 := X2.cell 1 rfl
      have f0 := X2.fro 0
      have f1 := X2.fro 1
      have R := hide (And.intro ((X2.set 0 (.string r1) (by simp)).set 1 (.string r2) (by simp)) (And.intro ((Y2.other (C := BB) 0 (.string r1) (by omega)).other (C := BB) 1 (.string r2) (by omega)) ((B2.setCell (p := ⟨BB, 0, none⟩) (Nat.le_refl _) (.string r1)).setCell (p := ⟨BB, 1, none⟩) (Nat.le_refl _) (.string r2))))
      have hs3 : Hid (BB + 2 ≤ ((w2.setCell ⟨BB, 0, none⟩ (.string r1)).setCell ⟨BB, 1, none⟩ (.string r2)).heap.size) := hide (by simp; omega)
      clear X2 Y2 B2 hb2 p0 p1 q0 q1
      go_wp2_with fail
      refine ⟨⟨k + 1, r1, r2, by omega, by go_num, unhide HE, (unhide R).1, (unhide R).2.1, (unhide R).2.2, unhide hs3⟩, ?_⟩
      simp [intOf]; omega
    · obtain rfl : k = l.length := by omega
      rw [List.take_length] at hg
      have HGG := hide hg
      have p0 := hX.cell 0 rfl
      have p1 := hX.cell 1 rfl
      have m0 := hY.cell 0 rfl
      have m1 := hY.cell 1 rfl
      have f0 := hY.fro 0
      have f1 := hY.fro 1
      have R := hide (And.intro ((hY.set 0 (.string g1) (by simp)).set 1 (.string g2) (by simp)) ((hb.setCell (p := ⟨BB + 1, 0, none⟩) (by show BB ≤ BB + 1; omega) (.string g1)).setCell (p := ⟨BB + 1, 1, none⟩) (by show BB ≤ BB + 1; omega) (.string g2)))
      clear hX hY hb hg
      go_wp2_with fail
      generalize (wr.setCell ⟨BB + 1, 0, none⟩ (.string g1)).setCell ⟨BB + 1, 1, none⟩ (.string g2) = wf at *
      have y0 := (unhide R).1.cell 0 rfl
      have y1 := (unhide R).1.cell 1 rfl
      refine bodyPost_ret (v := .agg #[.string g1, .string g2]) (by simp [results, Tryd.results50, go_sem, y0, y1]) rfl ?_
      exact ⟨by rw [unhide HGG], (unhide R).2⟩
set_option maxRecDepth 100000 in
set_option maxHeartbeats 4000000 in
theorem implCR_any (m n : Int) (root : ByteArray) (pr : List ByteArray) (b off cap : Nat) (w : World) (hz : root.size ≤ 1048576) (hs : SA w b off cap pr) (hpz : ∀ i, (pr.getD i ByteArray.empty).size ≤ 1048576) (ht : Tab w) :
    Calls Tryd.prog 18 #[.int .i64 m, .int .i64 n, .string root, .slice (some ⟨b, off, none⟩) pr.length cap] w fun e w' => e = .returned (.tuple #[.string (crOut m n root pr).1.1, .string (crOut m n root pr).1.2, .int .i64 (crOut m n root pr).2]) ∧ Below w.heap.size w w' := by
  have hle : pr.length ≤ 9223372036854775807 := by have := hs.le; have := hs.mx; unfold maxLen at this; omega
  have H1 := hide (hashFault_any root w (by unfold maxLen; omega))
  have H2 := hide (hashesFault_any pr b off cap w hs hpz)
  have HO : Hid (crOut m n root pr = if mxI (hfC root) (codeL pr) = 0 then
    (if inB n 1 64 = true ∧ inB m 1 n = true then
      (if (bothV root m.toNat n.toNat pr true).2 = true then ((bothV root m.toNat n.toNat pr true).1, 0) else ((⟨#[]⟩, ⟨#[]⟩), 10))
    else ((⟨#[]⟩, ⟨#[]⟩), 4))
    else ((⟨#[]⟩, ⟨#[]⟩), mxI (hfC root) (codeL pr))) := rfl
  have l1 := hfC_lo root
  have l2 := codeL_lo pr
  have HK := hide (fun h : mxI (hfC root) (codeL pr) = 0 => And.intro (hfC_ok (mxI_zero l1 l2 h).1) (codeL_ok (mxI_zero l1 l2 h).2))
  have HT := hide ht
  have HS := hide hs
  clear ht hs hpz
  generalize hfC root = c1 at *
  generalize codeL pr = c2 at *
  have B0 := hide ((Below.refl w.heap.size w).alloc (Nat.le_refl _) (.cells #[.int .i64 c1, .int .i64 c2] 3))
  have HW := hide (worst_any c1 c2 w.heap.size (w.alloc (.cells #[.int .i64 c1, .int .i64 c2] 3)) l1 l2 (by rw [World.cell?_alloc_at _ _ _ _ rfl]; rfl) (by rw [World.cell?_alloc_at _ _ _ _ rfl]; rfl))
  generalize mxI c1 c2 = c at *
  go_enter Tryd.func18, Tryd.ntmps18
  go_wp2_with fail
  refine (unhide H1).mono ?_
  rintro e w9 ⟨rfl, hw⟩
  subst w9
  go_wp2_with fail
  refine (unhide H2).mono ?_
  rintro e w9 ⟨rfl, hw⟩
  subst w9
  go_wp2_with fail
  refine (unhide HW).mono ?_
  rintro e w9 ⟨rfl, hw⟩
  subst w9
  generalize w.alloc (.cells #[.int .i64 c1, .int .i64 c2] 3) = w1 at *
  rcases (show ¬ c = 0 ∨ c = 0 by omega) with hc | hc
  · rw [if_neg hc] at HO
    go_wp2_with fail
    refine bodyPost_ret (v := .tuple #[.string ⟨#[]⟩, .string ⟨#[]⟩, .int .i64 c]) (by simp [results, Tryd.results18, go_sem]) rfl ?_
    exact ⟨by rw [unhide HO], unhide B0⟩
  have HG := hide (unhide HK hc)
  subst hc
  rw [if_pos rfl] at HO
  have I1 := hide (within_any n 1 64 w1)
  have I2 := hide (inB_iff (n := n) (lo := 1) (hi := 64))
  generalize inB n 1 64 = b1 at *
  go_wp2_with fail
  refine (unhide I1).mono ?_
  rintro e w9 ⟨rfl, hw⟩
  subst w9
  cases b1
  · rw [if_neg (by simp)] at HO
    go_wp2_with fail
    refine bodyPost_ret (v := .tuple #[.string ⟨#[]⟩, .string ⟨#[]⟩, .int .i64 4]) (by simp [results, Tryd.results18, go_sem]) rfl ?_
    exact ⟨by rw [unhide HO], unhide B0⟩
  obtain ⟨n0, n1⟩ := (unhide I2).1 rfl
  have I3 := hide (within_any m 1 n w1)
  have I4 := hide (inB_iff (n := m) (lo := 1) (hi := n))
  generalize inB m 1 n = b2 at *
  go_wp2_with fail
  refine (unhide I3).mono ?_
  rintro e w9 ⟨rfl, hw⟩
  subst w9
  cases b2
  · rw [if_neg (by simp)] at HO
    go_wp2_with fail
    refine bodyPost_ret (v := .tuple #[.string ⟨#[]⟩, .string ⟨#[]⟩, .int .i64 4]) (by simp [results, Tryd.results18, go_sem]) rfl ?_
    exact ⟨by rw [unhide HO], unhide B0⟩
  obtain ⟨p0, p1⟩ := (unhide I4).1 rfl
  rw [if_pos (by simp)] at HO
  obtain ⟨mn, rfl⟩ : ∃ q : Nat, m = (q : Int) := ⟨m.toNat, by omega⟩
  obtain ⟨nn, rfl⟩ : ∃ q : Nat, n = (q : Int) := ⟨n.toNat, by omega⟩
  rw [Int.toNat_natCast, Int.toNat_natCast] at HO
  have HY := hide (growthWay_any mn nn w1 (by omega) (by omega) (by omega))
  have hgl := gw_len nn mn (by omega)
  have HBW0 := hide (both_way nn root mn pr true (by omega) (by omega) (by omega))
  clear I1 I2 I3 I4 H1 H2 HW HK
  have HHS : Hid (hashesV root mn nn pr true = if ¬ (0 : Int) ∈ gwV mn nn then root :: pr else pr) := hide (by unfold hashesV; simp)
  generalize gwV mn nn = gw at *
  have HBW1 : Hid (hashesV root mn nn pr true = hashesV root mn nn pr true) := rfl
  generalize bothV root mn nn pr true = bv at *
  generalize hashesV root mn nn pr true = hs at *
  clear HBW1
  go_wp2_with fail
  refine (unhide HY).mono ?_
  rintro e w2 ⟨wv, rfl, hO2, hb2⟩
  have B2 := hide ((unhide B0).trans (hb2.mono (unhide B0).size))
  have O2 := hide hO2
  obtain ⟨wa, wc, rfl, hwcl, _, _⟩ := id hO2
  have HCO := hide (containsSide_any _ gw w2 hO2 (by omega))
  clear hO2 hb2 B0 HY
  go_wp2_with fail
  refine (unhide HCO).mono ?_
  rintro e w9 ⟨rfl, hw⟩
  subst w9
  clear HCO
  have HBW := HBW0
  by_cases hin : (0 : Int) ∈ gw
  · rw [decide_eq_true hin]
    have hse : hs = pr := by rw [unhide HHS, if_neg (by simpa using hin)]
    have HAS : Hid (AllH hs) := hide (by rw [hse]; exact (unhide HG).2.2)
    have HSA : Hid (SA w2 b off cap hs) := hide (by rw [hse]; exact (unhide HS).below (unhide B2))
    have HLN : Hid (hs.length = pr.length) := hide (by rw [hse])
    have HSD := O2
    have B3 := B2
    have hpl64 := (unhide HG).2.1
    clear hse hin HHS HBW0 HS HG O2
    generalize pr.length = L at *
    generalize w2 = w3 at *
    generalize b = hb at *
    generalize off = hoff at *
    generalize cap = hcap at *
    have hca := (unhide HSA).le
    have hcb := (unhide HSA).mx
    unfold maxLen at hcb
    rw [unhide HLN] at hca
    by_cases hpl : L = gw.length + 1
    · have HBV : Hid (bv.2 = true ∧ bv.1 = (gw.zip (hs.drop 1)).foldl stepG (hs.getD 0 ByteArray.empty, hs.getD 0 ByteArray.empty)) := hide ⟨by rw [(unhide HBW).1]; exact decide_eq_true (by rw [unhide HLN]; exact hpl), (unhide HBW).2 (by rw [unhide HLN]; exact hpl)⟩
      rw [if_pos (unhide HBV).1, (unhide HBV).2] at HO
      have z0 := unhide HAS 0 (by rw [unhide HLN]; omega)
      have hdl : (hs.drop 1).length = L - 1 := by rw [List.length_drop, unhide HLN]
      have hzs : ∀ i, i < (gw.zip (hs.drop 1)).length → ((gw.zip (hs.drop 1)).getD i (0, ByteArray.empty)).2.size = 32 := zip_size (AllH.drop (unhide HAS) 1) (by omega)
      have hzl : (gw.zip (hs.drop 1)).length ≤ 64 := by rw [List.length_zip]; omega
      have c0 := (unhide HSA).cell 0 (by rw [unhide HLN]; omega)
      rw [Nat.add_zero] at c0
      obtain ⟨ho2, he2, hsa2⟩ : ∃ ho2, (if hcap = 1 then some (⟨hb, hoff, none⟩ : Addr) else some ⟨hb, hoff + 1, none⟩) = some ⟨hb, ho2, none⟩ ∧ SA w3 hb ho2 (hcap - 1) (hs.drop 1) := by
        have hd := (unhide HSA).drop 1 (by rw [unhide HLN]; omega)
        by_cases e1 : hcap = 1
        · exact ⟨hoff, by rw [if_pos e1], ⟨hd.le, hd.mx, hd.lt, fun i hi => by omega⟩⟩
        · exact ⟨hoff + 1, by rw [if_neg e1], hd⟩
      have HTO := hide (fun wx (hbx : Below w3.heap.size w3 wx) => turnsOf2_any (.slice wa gw.length wc) gw (hs.drop 1) (L - 1) hb ho2 (hcap - 1) wx ((unhide HSD).below hbx) hdl (hsa2.below hbx) (by omega) (by omega))
      have HFO := hide (fun tv bb wx hx hy => foldG_any tv (gw.zip (hs.drop 1)) (hs.getD 0 ByteArray.empty) (hs.getD 0 ByteArray.empty) bb wx hx hzl hzs z0 z0 hy)
      clear hzs hzl hdl z0 HBV HBW HAS hsa2
      generalize gw.zip (hs.drop 1) = zz at *
      generalize hs.getD 0 ByteArray.empty = h0 at *
      generalize zz.foldl stepG (h0, h0) = res at *
      obtain ⟨r1, r2⟩ := res
      dsimp only at HFO HO
      have k1 : (0 : Int) < (L : Int) := by omega
      have k2 : (1 : Int) ≤ (L : Int) := by omega
      have k3 : (1 : Int) ≤ (hcap : Int) := by omega
      have k4 : (L : Int) ≤ (hcap : Int) := by omega
      have hpi : ((L : Int) != (gw.length : Int) + 1) = false := by simp; omega
      have HPL := hide hpl
      have B4 := hide (((unhide B3).alloc (unhide B3).size (.cells #[.string h0, .string h0] 72)).drew)
      have X4 := hide ((Blk.new w3 #[.string h0, .string h0] 72 w3.heap.size rfl).kept (T := fun _ => False) ((Touch.refl _ _).drew) (fun h => h))
      have K34 := hide (((Below.refl w3.heap.size w3).alloc (Nat.le_refl _) (.cells #[.string h0, .string h0] 72)).drew)
      have hz4 : w3.heap.size < (w3.alloc (.cells #[.string h0, .string h0] 72)).drew.heap.size := by simp
      have hbl := (unhide HSA).lt
      have c1 := ((((Below.refl w3.heap.size w3).alloc (Nat.le_refl _) (.cells #[.string ⟨#[]⟩, .string ⟨#[]⟩] 72)).cell (p := ⟨hb, hoff, none⟩) hbl)).trans c0
      clear hpl
      go_upto_region 12 with fail
      go_big_region
      generalize (w3.alloc (.cells #[.string h0, .string h0] 72)).drew = w4 at *
      clear c0 c1
      have x0 := (unhide X4).cell 0 rfl
      have x1 := (unhide X4).cell 1 rfl
      generalize w3.heap.size = SB at *
      go_wp2_with fail
      have hz9 : w4.drew.heap.size = w4.heap.size := rfl
      have xa0 := (((Below.refl _ w4).alloc (Nat.le_refl _) (.cells #[.string ⟨#[]⟩, .string ⟨#[]⟩] 72)).cell (p := ⟨SB, 0, none⟩) hz4).trans x0
      have xa1 := (((Below.refl _ w4).alloc (Nat.le_refl _) (.cells #[.string ⟨#[]⟩, .string ⟨#[]⟩] 72)).cell (p := ⟨SB, 1, none⟩) hz4).trans x1
      have BD := hide ((unhide B4).drew)
      have BDA := hide (((unhide B4).alloc (unhide B4).size (.cells #[.string ⟨#[]⟩, .string ⟨#[]⟩] 72)).drew)
      have KD := hide ((unhide K34).drew)
      have KDA := hide (((unhide K34).alloc (Nat.le_of_lt hz4) (.cells #[.string ⟨#[]⟩, .string ⟨#[]⟩] 72)).drew)
      have ZC := hide ((Blk.new w4 #[.string ⟨#[]⟩, .string ⟨#[]⟩] 72 w4.heap.size rfl).kept (T := fun _ => False) ((Touch.refl _ _).drew) (fun h => h))
      have hsB := (unhide B4).size
      clear hz9
      go_region_held3 (fun wx => wx.cell? ⟨SB, 0, none⟩ = some (.string h0) ∧ wx.cell? ⟨SB, 1, none⟩ = some (.string h0))
        (first | go_keep | exact ⟨xa0, xa1⟩ | exact ⟨x50, x51⟩ | exact ⟨xb0, xb1⟩ | exact ⟨x60, x61⟩ | exact ⟨(World.cell?_setCell_other _ _ _ _ (by simp <;> omega)).trans ((World.cell?_setCell_other _ _ _ _ (by simp <;> omega)).trans x60), (World.cell?_setCell_other _ _ _ _ (by simp <;> omega)).trans ((World.cell?_setCell_other _ _ _ _ (by simp <;> omega)).trans x61)⟩ | exact ⟨(((Below.refl _ w6).alloc (Nat.le_refl _) _).cell (p := ⟨SB, 0, none⟩) hz6).trans x60, (((Below.refl _ w6).alloc (Nat.le_refl _) _).cell (p := ⟨SB, 1, none⟩) hz6).trans x61⟩)
        (first
          | (go_at_call 50; guard_target =~ Calls _ _ _ (World.alloc _ _) _; refine (unhide HFO tv _ _ (OwnT.below hO5 ((Below.refl _ w5).alloc (Nat.le_refl _) (.cells #[.string ⟨#[]⟩, .string ⟨#[]⟩] 72))) ((unhide HT).below (unhide b5a))).mono ?_; rintro e w6 ⟨rfl, hb6b⟩; have x60 := (hb6b.cell (p := ⟨SB, 0, none⟩) hz5a).trans xb0; have x61 := (hb6b.cell (p := ⟨SB, 1, none⟩) hz5a).trans xb1; have Y6 := hide ((Blk.new w5 #[.string ⟨#[]⟩, .string ⟨#[]⟩] 72 w5.heap.size rfl).below hb6b); have y0 := (unhide Y6).cell 0 rfl; have y1 := (unhide Y6).cell 1 rfl; have f0 := (unhide Y6).fro 0; have f1 := (unhide Y6).fro 1; have hz6 : SB < w6.heap.size := (Nat.lt_of_lt_of_le hz5a hb6b.size); have E6 := hide ((unhide b5a).trans (hb6b.mono hz5c)))
          | (go_at_call 50; refine (unhide HFO tv _ w5 hO5 ((unhide HT).below (unhide b5))).mono ?_; rintro e w6 ⟨rfl, hb6⟩; have x60 := (hb6.cell (p := ⟨SB, 0, none⟩) hz5).trans x50; have x61 := (hb6.cell (p := ⟨SB, 1, none⟩) hz5).trans x51; have hz6 : SB < w6.heap.size := (Nat.lt_of_lt_of_le hz5 hb6.size); have E6 := hide ((unhide b5).trans (hb6.mono hz5d)); try (have Y6 := hide ((unhide Y5).below hb6); have y0 := (unhide Y6).cell 0 rfl; have y1 := (unhide Y6).cell 1 rfl; have f0 := (unhide Y6).fro 0; have f1 := (unhide Y6).fro 1))
          | (go_at_call 40; guard_target =~ Calls _ _ _ (World.drew (World.alloc _ _)) _; refine (unhide HTO _ (unhide KDA)).mono ?_; rintro e w5 ⟨tv, rfl, hO5, hb5⟩; have hz5 : SB < w5.heap.size := (Nat.lt_of_lt_of_le hz4 (Nat.le_trans (Nat.le_succ _) (by have := hb5.size; simpa using this))); have x50 := (hb5.cell (p := ⟨SB, 0, none⟩) (by simp; omega)).trans xa0; have x51 := (hb5.cell (p := ⟨SB, 1, none⟩) (by simp; omega)).trans xa1; have b5 := hide ((unhide BDA).trans (hb5.mono (by simp; omega))); have hz5d := (unhide b5).size; have Y5 := hide ((unhide ZC).below hb5))
          | (go_at_call 40; refine (unhide HTO _ (unhide KD)).mono ?_; rintro e w5 ⟨tv, rfl, hO5, hb5⟩; have hz5 : SB < w5.heap.size := (Nat.lt_of_lt_of_le hz4 hb5.size); have x50 := (hb5.cell (p := ⟨SB, 0, none⟩) hz4).trans x0; have x51 := (hb5.cell (p := ⟨SB, 1, none⟩) hz4).trans x1; have b5 := hide ((unhide BD).trans (hb5.mono hsB)); have hz5d := (unhide b5).size; have b5a := hide ((unhide b5).alloc hz5d (.cells #[.string ⟨#[]⟩, .string ⟨#[]⟩] 72)); have xb0 := (((Below.refl _ w5).alloc (Nat.le_refl _) (.cells #[.string ⟨#[]⟩, .string ⟨#[]⟩] 72)).cell (p := ⟨SB, 0, none⟩) hz5).trans x50; have xb1 := (((Below.refl _ w5).alloc (Nat.le_refl _) (.cells #[.string ⟨#[]⟩, .string ⟨#[]⟩] 72)).cell (p := ⟨SB, 1, none⟩) hz5).trans x51; have hz5a : SB < (w5.alloc (.cells #[.string ⟨#[]⟩, .string ⟨#[]⟩] 72)).heap.size := (Nat.lt_of_lt_of_le hz5 ((Below.refl _ w5).alloc (Nat.le_refl _) (.cells #[.string ⟨#[]⟩, .string ⟨#[]⟩] 72)).size); have hz5c : w.heap.size ≤ (w5.alloc (.cells #[.string ⟨#[]⟩, .string ⟨#[]⟩] 72)).heap.size := (unhide b5a).size))
      · have RZ := hide (And.intro (Blk.new w6 #[.string r1, .string r2] 72 w6.heap.size rfl) ((unhide E6).alloc (unhide E6).size (.cells #[.string r1, .string r2] 72)))
        generalize w6.alloc (.cells #[.string r1, .string r2] 72) = wz at *
        have z0 := (unhide RZ).1.cell 0 rfl
        have z1 := (unhide RZ).1.cell 1 rfl
        generalize w6.heap.size = zb at *
        clear hz6 x60 x61 x50 x51 x0 x1
        go_wp2_with fail
        go_quiet (fail)
        go_wp2_with fail
        refine bodyPost_ret (v := .tuple #[.string r1, .string r2, .int .i64 0]) (by simp [results, Tryd.results18, go_sem]) rfl ?_
        exact ⟨by rw [unhide HO], below_drewN (unhide RZ).2 _⟩
      · have RZ := hide (And.intro (((unhide Y6).set 0 (.string r1) (by simp)).set 1 (.string r2) (by simp)) (((unhide E6).setCell (p := ⟨w5.heap.size, 0, none⟩) hz5d (.string r1)).setCell (p := ⟨w5.heap.size, 1, none⟩) hz5d (.string r2)))
        generalize (w6.setCell ⟨w5.heap.size, 0, none⟩ (.string r1)).setCell ⟨w5.heap.size, 1, none⟩ (.string r2) = wz at *
        have z0 := (unhide RZ).1.cell 0 rfl
        have z1 := (unhide RZ).1.cell 1 rfl
        generalize w5.heap.size = zb at *
        clear y0 y1 f0 f1 hz6 x60 x61 x50 x51 x0 x1
        go_wp2_with fail
        go_quiet (fail)
        go_wp2_with fail
        refine bodyPost_ret (v := .tuple #[.string r1, .string r2, .int .i64 0]) (by simp [results, Tryd.results18, go_sem]) rfl ?_
        exact ⟨by rw [unhide HO], below_drewN (unhide RZ).2 _⟩
      · have RZ := hide (And.intro (((unhide Y6).set 0 (.string r1) (by simp)).set 1 (.string r2) (by simp)) (((unhide E6).setCell (p := ⟨w4.heap.size, 0, none⟩) hsB (.string r1)).setCell (p := ⟨w4.heap.size, 1, none⟩) hsB (.string r2)))
        generalize (w6.setCell ⟨w4.heap.size, 0, none⟩ (.string r1)).setCell ⟨w4.heap.size, 1, none⟩ (.string r2) = wz at *
        have z0 := (unhide RZ).1.cell 0 rfl
        have z1 := (unhide RZ).1.cell 1 rfl
        generalize w4.heap.size = zb at *
        clear y0 y1 f0 f1 hz6 x60 x61 x50 x51 x0 x1
        go_wp2_with fail
        go_quiet (fail)
        go_wp2_with fail
        refine bodyPost_ret (v := .tuple #[.string r1, .string r2, .int .i64 0]) (by simp [results, Tryd.results18, go_sem]) rfl ?_
        exact ⟨by rw [unhide HO], below_drewN (unhide RZ).2 _⟩
    · have HBV : Hid (bv.2 = false) := hide (by rw [(unhide HBW).1]; exact decide_eq_false (by rw [unhide HLN]; exact hpl))
      rw [if_neg (by rw [unhide HBV]; simp)] at HO
      have hpi : ((L : Int) != (gw.length : Int) + 1) = true := by simp; omega
      go_wp2_with fail
      refine bodyPost_ret (v := .tuple #[.string ⟨#[]⟩, .string ⟨#[]⟩, .int .i64 10]) (by simp [results, Tryd.results18, go_sem]) rfl ?_
      exact ⟨by rw [unhide HO], unhide B3⟩
  · rw [decide_eq_false hin]
    have hse : hs = root :: pr := by rw [unhide HHS, if_pos hin]
    have HR32 := hide (unhide HG).1
    have HAS : Hid (AllH hs) := hide (by
      rw [hse]
      intro j hj
      cases j with
      | zero => exact unhide HR32
      | succ j => exact (unhide HG).2.2 j (by simpa using hj))
    have hpl64 := (unhide HG).2.1
    have BA := hide (((unhide B2).alloc (unhide B2).size (.cells #[.string root] 9)).alloc (by have := (unhide B2).size; simp; omega) (.cells #[.slice (some ⟨w2.heap.size, 0, none⟩) 1 1, .slice (some ⟨b, off, none⟩) pr.length cap] 23))
    have K1 := hide ((Blk.new w2 #[.string root] 9 w2.heap.size rfl).alloc (.cells #[.slice (some ⟨w2.heap.size, 0, none⟩) 1 1, .slice (some ⟨b, off, none⟩) pr.length cap] 23))
    have K2 := hide (Blk.new (w2.alloc (.cells #[.string root] 9)) #[.slice (some ⟨w2.heap.size, 0, none⟩) 1 1, .slice (some ⟨b, off, none⟩) pr.length cap] 23 (w2.heap.size + 1) (by simp))
    have K3 := hide (((Below.refl w2.heap.size w2).alloc (Nat.le_refl _) (.cells #[.string root] 9)).alloc (by simp) (.cells #[.slice (some ⟨w2.heap.size, 0, none⟩) 1 1, .slice (some ⟨b, off, none⟩) pr.length cap] 23))
    have SD := hide ((unhide O2).below (unhide K3))
    have SP := hide ((unhide HS).below (unhide BA))
    clear hin HHS HBW0 HS HG O2 K3
    go_upto_region 9 with fail
    go_wp2_with fail
    generalize (w2.alloc (.cells #[.string root] 9)).alloc (.cells #[.slice (some ⟨w2.heap.size, 0, none⟩) 1 1, .slice (some ⟨b, off, none⟩) pr.length cap] 23) = wA at *
    generalize w2.heap.size = X1 at *
    have HCC := hide (concatS_any (some ⟨X1, 0, none⟩) (some ⟨b, off, none⟩) 1 pr.length 1 cap (X1 + 1) [.string root] (pr.map Value.string) wA ((unhide K2).cell 0 rfl) ((unhide K2).cell 1 rfl) (unhide K2).1 rfl (by simp) (by simp [Value.oneCell']) (by intro u hu; obtain ⟨s, _, rfl⟩ := List.mem_map.1 hu; rfl)
      (fun wx hbx => ⟨_, _, rfl, .inr ⟨_, rfl, fun j u hu => by
        match j, hu with
        | 0, hu => obtain rfl := Option.some.inj hu; exact ((unhide K1).below hbx).cell 0 rfl⟩⟩) (fun wx hbx => ((unhide SP).below hbx).strs.rw) (by omega) (by omega) (by omega))
    refine (unhide HCC).mono ?_
    rintro e w3 ⟨ga, hcap, rfl, hO3, hb3⟩
    have hO : OwnS wA.heap.size w3 (.slice ga (1 + pr.length) hcap) hs := by
      unfold OwnS
      rw [hse]
      rw [show (root :: pr).length = 1 + pr.length by simp; omega]
      simpa using hO3
    obtain ⟨hb, rfl⟩ : ∃ g, ga = some ⟨g, 0, none⟩ := by
      rcases _root_.Go.Proofs.YtnaoccndghnmpaaDoor.own_shape hO3 with ⟨_, h0⟩ | ⟨g, c, hv, _⟩
      · omega
      · simp only [Value.slice.injEq] at hv; exact ⟨g, hv.1⟩
    have HLN : Hid (hs.length = 1 + pr.length) := hide (by rw [hse]; simp; omega)
    have HSA : Hid (SA w3 hb 0 hcap hs) := hide (SA.own (by rw [unhide HLN]; exact hO))
    have HSD := hide ((unhide SD).below hb3)
    have B3 := hide ((unhide BA).trans (hb3.mono (unhide BA).size))
    have hL65 : 1 + pr.length ≤ 65 := by omega
    clear hse hO hO3 hb3 HCC K1 K2 SD SP BA HR32
    generalize 1 + pr.length = L at *
    generalize pr.length = Lp at *
    have hca := (unhide HSA).le
    have hcb := (unhide HSA).mx
    unfold maxLen at hcb
    rw [unhide HLN] at hca
    by_cases hpl : L = gw.length + 1
    · have HBV : Hid (bv.2 = true ∧ bv.1 = (gw.zip (hs.drop 1)).foldl stepG (hs.getD 0 ByteArray.empty, hs.getD 0 ByteArray.empty)) := hide ⟨by rw [(unhide HBW).1]; exact decide_eq_true (by rw [unhide HLN]; exact hpl), (unhide HBW).2 (by rw [unhide HLN]; exact hpl)⟩
      rw [if_pos (unhide HBV).1, (unhide HBV).2] at HO
      have z0 := unhide HAS 0 (by rw [unhide HLN]; omega)
      have hdl : (hs.drop 1).length = L - 1 := by rw [List.length_drop, unhide HLN]
      have hzs : ∀ i, i < (gw.zip (hs.drop 1)).length → ((gw.zip (hs.drop 1)).getD i (0, ByteArray.empty)).2.size = 32 := zip_size (AllH.drop (unhide HAS) 1) (by omega)
      have hzl : (gw.zip (hs.drop 1)).length ≤ 64 := by rw [List.length_zip]; omega
      have c0 := (unhide HSA).cell 0 (by rw [unhide HLN]; omega)
      rw [Nat.add_zero] at c0
      obtain ⟨ho2, he2, hsa2⟩ : ∃ ho2, (if hcap = 1 then some (⟨hb, 0, none⟩ : Addr) else some ⟨hb, 1, none⟩) = some ⟨hb, ho2, none⟩ ∧ SA w3 hb ho2 (hcap - 1) (hs.drop 1) := by
        have hd := (unhide HSA).drop 1 (by rw [unhide HLN]; omega)
        by_cases e1 : hcap = 1
        · exact ⟨0, by rw [if_pos e1], ⟨hd.le, hd.mx, hd.lt, fun i hi => by omega⟩⟩
        · exact ⟨1, by rw [if_neg e1], by simpa using hd⟩
      have HTO := hide (fun wx (hbx : Below w3.heap.size w3 wx) => turnsOf2_any (.slice wa gw.length wc) gw (hs.drop 1) (L - 1) hb ho2 (hcap - 1) wx ((unhide HSD).below hbx) hdl (hsa2.below hbx) (by omega) (by omega))
      have HFO := hide (fun tv bb wx hx hy => foldG_any tv (gw.zip (hs.drop 1)) (hs.getD 0 ByteArray.empty) (hs.getD 0 ByteArray.empty) bb wx hx hzl hzs z0 z0 hy)
      clear hzs hzl hdl z0 HBV HBW HAS hsa2
      generalize gw.zip (hs.drop 1) = zz at *
      generalize hs.getD 0 ByteArray.empty = h0 at *
      generalize zz.foldl stepG (h0, h0) = res at *
      obtain ⟨r1, r2⟩ := res
      dsimp only at HFO HO
      have k1 : (0 : Int) < (L : Int) := by omega
      have k2 : (1 : Int) ≤ (L : Int) := by omega
      have k3 : (1 : Int) ≤ (hcap : Int) := by omega
      have k4 : (L : Int) ≤ (hcap : Int) := by omega
      have hpi : ((L : Int) != (gw.length : Int) + 1) = false := by simp; omega
      have HPL := hide hpl
      have B4 := hide (((unhide B3).alloc (unhide B3).size (.cells #[.string h0, .string h0] 72)).drew)
      have X4 := hide ((Blk.new w3 #[.string h0, .string h0] 72 w3.heap.size rfl).kept (T := fun _ => False) ((Touch.refl _ _).drew) (fun h => h))
      have K34 := hide (((Below.refl w3.heap.size w3).alloc (Nat.le_refl _) (.cells #[.string h0, .string h0] 72)).drew)
      have hz4 : w3.heap.size < (w3.alloc (.cells #[.string h0, .string h0] 72)).drew.heap.size := by simp
      have hbl := (unhide HSA).lt
      have c1 := ((((Below.refl w3.heap.size w3).alloc (Nat.le_refl _) (.cells #[.string ⟨#[]⟩, .string ⟨#[]⟩] 72)).cell (p := ⟨hb, 0, none⟩) hbl)).trans c0
      clear hpl
      go_upto_region 12 with fail
      go_big_region
      generalize (w3.alloc (.cells #[.string h0, .string h0] 72)).drew = w4 at *
      clear c0 c1
      have x0 := (unhide X4).cell 0 rfl
      have x1 := (unhide X4).cell 1 rfl
      generalize w3.heap.size = SB at *
      go_wp2_with fail
      have hz9 : w4.drew.heap.size = w4.heap.size := rfl
      have xa0 := (((Below.refl _ w4).alloc (Nat.le_refl _) (.cells #[.string ⟨#[]⟩, .string ⟨#[]⟩] 72)).cell (p := ⟨SB, 0, none⟩) hz4).trans x0
      have xa1 := (((Below.refl _ w4).alloc (Nat.le_refl _) (.cells #[.string ⟨#[]⟩, .string ⟨#[]⟩] 72)).cell (p := ⟨SB, 1, none⟩) hz4).trans x1
      have BD := hide ((unhide B4).drew)
      have BDA := hide (((unhide B4).alloc (unhide B4).size (.cells #[.string ⟨#[]⟩, .string ⟨#[]⟩] 72)).drew)
      have KD := hide ((unhide K34).drew)
      have KDA := hide (((unhide K34).alloc (Nat.le_of_lt hz4) (.cells #[.string ⟨#[]⟩, .string ⟨#[]⟩] 72)).drew)
      have ZC := hide ((Blk.new w4 #[.string ⟨#[]⟩, .string ⟨#[]⟩] 72 w4.heap.size rfl).kept (T := fun _ => False) ((Touch.refl _ _).drew) (fun h => h))
      have hsB := (unhide B4).size
      clear hz9
      go_region_held3 (fun wx => wx.cell? ⟨SB, 0, none⟩ = some (.string h0) ∧ wx.cell? ⟨SB, 1, none⟩ = some (.string h0))
        (first | go_keep | exact ⟨xa0, xa1⟩ | exact ⟨x50, x51⟩ | exact ⟨xb0, xb1⟩ | exact ⟨x60, x61⟩ | exact ⟨(World.cell?_setCell_other _ _ _ _ (by simp <;> omega)).trans ((World.cell?_setCell_other _ _ _ _ (by simp <;> omega)).trans x60), (World.cell?_setCell_other _ _ _ _ (by simp <;> omega)).trans ((World.cell?_setCell_other _ _ _ _ (by simp <;> omega)).trans x61)⟩ | exact ⟨(((Below.refl _ w6).alloc (Nat.le_refl _) _).cell (p := ⟨SB, 0, none⟩) hz6).trans x60, (((Below.refl _ w6).alloc (Nat.le_refl _) _).cell (p := ⟨SB, 1, none⟩) hz6).trans x61⟩)
        (first
          | (go_at_call 50; guard_target =~ Calls _ _ _ (World.alloc _ _) _; refine (unhide HFO tv _ _ (OwnT.below hO5 ((Below.refl _ w5).alloc (Nat.le_refl _) (.cells #[.string ⟨#[]⟩, .string ⟨#[]⟩] 72))) ((unhide HT).below (unhide b5a))).mono ?_; rintro e w6 ⟨rfl, hb6b⟩; have x60 := (hb6b.cell (p := ⟨SB, 0, none⟩) hz5a).trans xb0; have x61 := (hb6b.cell (p := ⟨SB, 1, none⟩) hz5a).trans xb1; have Y6 := hide ((Blk.new w5 #[.string ⟨#[]⟩, .string ⟨#[]⟩] 72 w5.heap.size rfl).below hb6b); have y0 := (unhide Y6).cell 0 rfl; have y1 := (unhide Y6).cell 1 rfl; have f0 := (unhide Y6).fro 0; have f1 := (unhide Y6).fro 1; have hz6 : SB < w6.heap.size := (Nat.lt_of_lt_of_le hz5a hb6b.size); have E6 := hide ((unhide b5a).trans (hb6b.mono hz5c)))
          | (go_at_call 50; refine (unhide HFO tv _ w5 hO5 ((unhide HT).below (unhide b5))).mono ?_; rintro e w6 ⟨rfl, hb6⟩; have x60 := (hb6.cell (p := ⟨SB, 0, none⟩) hz5).trans x50; have x61 := (hb6.cell (p := ⟨SB, 1, none⟩) hz5).trans x51; have hz6 : SB < w6.heap.size := (Nat.lt_of_lt_of_le hz5 hb6.size); have E6 := hide ((unhide b5).trans (hb6.mono hz5d)); try (have Y6 := hide ((unhide Y5).below hb6); have y0 := (unhide Y6).cell 0 rfl; have y1 := (unhide Y6).cell 1 rfl; have f0 := (unhide Y6).fro 0; have f1 := (unhide Y6).fro 1))
          | (go_at_call 40; guard_target =~ Calls _ _ _ (World.drew (World.alloc _ _)) _; refine (unhide HTO _ (unhide KDA)).mono ?_; rintro e w5 ⟨tv, rfl, hO5, hb5⟩; have hz5 : SB < w5.heap.size := (Nat.lt_of_lt_of_le hz4 (Nat.le_trans (Nat.le_succ _) (by have := hb5.size; simpa using this))); have x50 := (hb5.cell (p := ⟨SB, 0, none⟩) (by simp; omega)).trans xa0; have x51 := (hb5.cell (p := ⟨SB, 1, none⟩) (by simp; omega)).trans xa1; have b5 := hide ((unhide BDA).trans (hb5.mono (by simp; omega))); have hz5d := (unhide b5).size; have Y5 := hide ((unhide ZC).below hb5))
          | (go_at_call 40; refine (unhide HTO _ (unhide KD)).mono ?_; rintro e w5 ⟨tv, rfl, hO5, hb5⟩; have hz5 : SB < w5.heap.size := (Nat.lt_of_lt_of_le hz4 hb5.size); have x50 := (hb5.cell (p := ⟨SB, 0, none⟩) hz4).trans x0; have x51 := (hb5.cell (p := ⟨SB, 1, none⟩) hz4).trans x1; have b5 := hide ((unhide BD).trans (hb5.mono hsB)); have hz5d := (unhide b5).size; have b5a := hide ((unhide b5).alloc hz5d (.cells #[.string ⟨#[]⟩, .string ⟨#[]⟩] 72)); have xb0 := (((Below.refl _ w5).alloc (Nat.le_refl _) (.cells #[.string ⟨#[]⟩, .string ⟨#[]⟩] 72)).cell (p := ⟨SB, 0, none⟩) hz5).trans x50; have xb1 := (((Below.refl _ w5).alloc (Nat.le_refl _) (.cells #[.string ⟨#[]⟩, .string ⟨#[]⟩] 72)).cell (p := ⟨SB, 1, none⟩) hz5).trans x51; have hz5a : SB < (w5.alloc (.cells #[.string ⟨#[]⟩, .string ⟨#[]⟩] 72)).heap.size := (Nat.lt_of_lt_of_le hz5 ((Below.refl _ w5).alloc (Nat.le_refl _) (.cells #[.string ⟨#[]⟩, .string ⟨#[]⟩] 72)).size); have hz5c : w.heap.size ≤ (w5.alloc (.cells #[.string ⟨#[]⟩, .string ⟨#[]⟩] 72)).heap.size := (unhide b5a).size))
      · have RZ := hide (And.intro (Blk.new w6 #[.string r1, .string r2] 72 w6.heap.size rfl) ((unhide E6).alloc (unhide E6).size (.cells #[.string r1, .string r2] 72)))
        generalize w6.alloc (.cells #[.string r1, .string r2] 72) = wz at *
        have z0 := (unhide RZ).1.cell 0 rfl
        have z1 := (unhide RZ).1.cell 1 rfl
        generalize w6.heap.size = zb at *
        clear hz6 x60 x61 x50 x51 x0 x1
        go_wp2_with fail
        go_quiet (fail)
        go_wp2_with fail
        refine bodyPost_ret (v := .tuple #[.string r1, .string r2, .int .i64 0]) (by simp [results, Tryd.results18, go_sem]) rfl ?_
        exact ⟨by rw [unhide HO], below_drewN (unhide RZ).2 _⟩
      · have RZ := hide (And.intro (((unhide Y6).set 0 (.string r1) (by simp)).set 1 (.string r2) (by simp)) (((unhide E6).setCell (p := ⟨w5.heap.size, 0, none⟩) hz5d (.string r1)).setCell (p := ⟨w5.heap.size, 1, none⟩) hz5d (.string r2)))
        generalize (w6.setCell ⟨w5.heap.size, 0, none⟩ (.string r1)).setCell ⟨w5.heap.size, 1, none⟩ (.string r2) = wz at *
        have z0 := (unhide RZ).1.cell 0 rfl
        have z1 := (unhide RZ).1.cell 1 rfl
        generalize w5.heap.size = zb at *
        clear y0 y1 f0 f1 hz6 x60 x61 x50 x51 x0 x1
        go_wp2_with fail
        go_quiet (fail)
        go_wp2_with fail
        refine bodyPost_ret (v := .tuple #[.string r1, .string r2, .int .i64 0]) (by simp [results, Tryd.results18, go_sem]) rfl ?_
        exact ⟨by rw [unhide HO], below_drewN (unhide RZ).2 _⟩
      · have RZ := hide (And.intro (((unhide Y6).set 0 (.string r1) (by simp)).set 1 (.string r2) (by simp)) (((unhide E6).setCell (p := ⟨w4.heap.size, 0, none⟩) hsB (.string r1)).setCell (p := ⟨w4.heap.size, 1, none⟩) hsB (.string r2)))
        generalize (w6.setCell ⟨w4.heap.size, 0, none⟩ (.string r1)).setCell ⟨w4.heap.size, 1, none⟩ (.string r2) = wz at *
        have z0 := (unhide RZ).1.cell 0 rfl
        have z1 := (unhide RZ).1.cell 1 rfl
        generalize w4.heap.size = zb at *
        clear y0 y1 f0 f1 hz6 x60 x61 x50 x51 x0 x1
        go_wp2_with fail
        go_quiet (fail)
        go_wp2_with fail
        refine bodyPost_ret (v := .tuple #[.string r1, .string r2, .int .i64 0]) (by simp [results, Tryd.results18, go_sem]) rfl ?_
        exact ⟨by rw [unhide HO], below_drewN (unhide RZ).2 _⟩
    · have HBV : Hid (bv.2 = false) := hide (by rw [(unhide HBW).1]; exact decide_eq_false (by rw [unhide HLN]; exact hpl))
      rw [if_neg (by rw [unhide HBV]; simp)] at HO
      have hpi : ((L : Int) != (gw.length : Int) + 1) = true := by simp; omega
      go_wp2_with fail
      refine bodyPost_ret (v := .tuple #[.string ⟨#[]⟩, .string ⟨#[]⟩, .int .i64 10]) (by simp [results, Tryd.results18, go_sem]) rfl ?_
      exact ⟨by rw [unhide HO], unhide B3⟩
end Go.Proofs.YtnaoccndghnmpaaDoor.Sha
