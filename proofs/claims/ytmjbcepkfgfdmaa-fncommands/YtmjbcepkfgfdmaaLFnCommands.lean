/- For every slice of bytes that can be read, laws.FnCommands returns true, and the slice reads as it did. No condition. -/
import Derived.Test.YtmjbcepkfgfdmaaSrcD
import Derived.Test.YtmjbcepkfgfdmaaSrcG
import Derived.Test.YtmjbcepkfgfdmaaCmdQ
import Derived.Laws.Cover1
namespace Go.Proofs.Ytmjbcepkfgfdmaa.fnCommands
open Go.ChangeShapes Go.WideShapes Go.ChangeAt Go.RowKit
open Go.ChangeMaps (open_string shut_string)
set_option linter.unusedVariables false
set_option linter.unusedSimpArgs false

theorem cmd_drawn_all : CmdDrawn := fun w b a cap l M h hM => srcCommand_any w b a cap l M h hM
theorem rdv_row {w : World} {a : Option Addr} {len cap : Nat} {zs : List Int} (h : IsRow .u8 w a len cap zs) : RdV w w.heap.size (.slice a len cap) (zs.take len) := by
  have hB := bytes_of_row h
  rcases h with ⟨rfl, rfl, rfl, rfl⟩ | ⟨x, rfl, hl, hm, hz, hcell, hwz⟩
  · exact RdV.zero _ _ _
  · have hlen : (zs.take len).length = len := by rw [List.length_take]; omega
    obtain ⟨_, _, _, _, _, hr⟩ := hB
    refine ⟨some x, cap, by rw [hlen], by rw [hlen]; exact hl, hm, ?_, hr⟩
    by_cases h0 : cap = 0
    · exact .inl h0
    · obtain ⟨b, off, spot⟩ := x
      have hc := hcell 0 (by omega)
      have hspot : spot = none := by simpa [Addr.add] using World.cell?_spot hc
      subst hspot
      have hblk := World.block_lt_of_cell? w _ hc
      have e0 : ∀ i, (⟨b, off, none⟩ : Addr).add i = ⟨b, off + i, none⟩ := fun i => by unfold Addr.add; split <;> simp_all
      rw [e0] at hblk
      refine .inr ⟨b, off, rfl, hblk, fun i hi => ?_⟩
      rw [hlen] at hi
      have := hcell i (by omega)
      rw [e0] at this
      rw [this]
      simp [List.getD_eq_getElem?_getD, hi]
theorem RdV.up {w w' : World} {v : Value} {l : List Int} (h : RdV w w.heap.size v l) (hb : Below w.heap.size w w') : RdV w' w'.heap.size v l := by
  obtain ⟨a, cap, hv, h1, h2, hc, hr⟩ := h
  refine ⟨a, cap, hv, h1, h2, ?_, hr⟩
  rcases hc with h0 | ⟨c, off, ha, hlt, hcell⟩
  · exact .inl h0
  · exact .inr ⟨c, off, ha, Nat.lt_of_lt_of_le hlt hb.size, fun i hi => (hb.cell (p := ⟨c, off + i, none⟩) hlt).trans (hcell i hi)⟩
theorem own_shape3 {B : Nat} {e : TypeId} {sz n : Nat} {w : World} {v : Value} {xs : List Value} (h : w.ownsRow B e sz v n xs) : (v = .slice none 0 0 ∧ n = 0) ∨ ∃ g cap, v = .slice (some ⟨g, 0, none⟩) n cap ∧ B ≤ g ∧ g < w.heap.size ∧ n ≤ cap ∧ cap ≤ maxLen := by
  rcases h.2 with h0 | ⟨g, cap, cur, hv, hb, hg, hn, hm, _⟩
  · exact .inl h0
  · exact .inr ⟨g, cap, hv, hb, (Array.getElem?_eq_some_iff.1 hg).1, hn, hm⟩

/-- The value is a slice that holds these texts. -/
theorem OwnB.rdv3 {B : Nat} {w : World} {v : Value} {l : List Int} (h : OwnB B w v l) : ∃ a cap, v = .slice a l.length cap ∧ RdV w w.heap.size (.slice a l.length cap) l := by
  rcases own_shape3 h.1 with ⟨rfl, h0⟩ | ⟨g, cap, rfl, hB, hlt, hn, hm⟩
  · obtain rfl := List.eq_nil_of_length_eq_zero h0
    exact ⟨none, 0, rfl, RdV.nil _ _⟩
  · exact ⟨_, _, rfl, _, _, rfl, hn, hm, .inr ⟨g, 0, rfl, by omega, fun i hi => by rw [Nat.zero_add]; exact h.cell i hi⟩, h.2⟩
theorem cmdOut_ok {k s q : Int} {key val : ByteArray} (h : cmdOK k s q key val = true) : ∃ bs cc, cmdOut k s q key val = (bs, cc) ∧ bs = cmdBytes k s q key val ∧ cc = 0 := ⟨_, _, by unfold cmdOut; rw [if_pos h], rfl, rfl⟩
theorem entOut_ok {t k : Int} {d : ByteArray} (h : entOK t k d = true) : ∃ bs cc, entOut t k d = (bs, cc) ∧ bs = entBytes t k d ∧ cc = 0 := ⟨_, _, by unfold entOut; rw [if_pos h], rfl, rfl⟩
theorem cmdRead_ok {k s q : Int} {key val : ByteArray} {bs : List Int} (h : cmdOK k s q key val = true) (hb : bs = cmdBytes k s q key val) : ∃ dd, cmdRead bs = ((k, s, q, key, val), dd) ∧ dd = 0 := ⟨0, by rw [hb, cmdRead_bytes h], rfl⟩
theorem entRead_ok {t k : Int} {d : ByteArray} {bs : List Int} (h : entOK t k d = true) (hb : bs = entBytes t k d) : ∃ dd, entRead bs = ((t, k, d), dd) ∧ dd = 0 := ⟨0, by rw [hb, entRead_bytes h], rfl⟩

set_option maxRecDepth 100000 in
set_option maxHeartbeats 8000000 in
theorem walk (a0 : Option Addr) (len0 cap0 : Nat) (z0 : List Int) (w : World) (w0 : IsRow .u8 w a0 len0 cap0 z0) :
    Calls Try.prog 3 #[.slice a0 len0 cap0] w fun e w' => e = .returned (.bool true) ∧ Below w.heap.size w w' := by
  have hB := bytes_of_row w0
  have hR := rdv_row w0
  obtain ⟨a, cap, hv, hm, hc, hr⟩ := id hB
  have hlen : len0 = (z0.take len0).length := by simp only [Value.slice.injEq] at hv; exact hv.2.1
  have hmx : len0 ≤ 9223372036854775807 := by unfold maxLen at hm; omega
  have HB := hide hB
  have HR := hide hR
  have HRG := hide hr
  clear hv hc hr hm hB hR w0
  generalize z0.take len0 = l at *
  subst hlen
  by_cases h : l.length ≤ 1048576
  · have K0 := hide (Below.refl w.heap.size w)
    go_enter Try.func3, Try.ntmps3
    go_wp2_with fail
    refine (commandOf_any cmd_drawn_all a0 cap0 l w (unhide HB) (by omega)).mono ?_
    rintro e w1 ⟨k, s, q, key, val, rfl, hok, hb1⟩
    obtain ⟨g1, g2, g3, g4, g5, g6, g7, g8⟩ := cmdOK_bounds hok
    have hks : key.size ≤ maxLen := by unfold maxLen; omega
    have hvs : val.size ≤ maxLen := by unfold maxLen; omega
    have HOK := hide hok
    clear hok g1 g2 g3 g4 g5 g6
    have K1 := hide ((unhide K0).trans (hb1.mono (unhide K0).size))
    clear K0 hb1
    have hbA := (Below.refl w1.heap.size w1).alloc (Nat.le_refl _) (.cells #[.int .i64 k, .int .i64 s, .int .i64 q, .string key, .string val] 24)
    have NB := hide (Blk.new w1 #[.int .i64 k, .int .i64 s, .int .i64 q, .string key, .string val] 24 w1.heap.size rfl)
    have K2 := hide ((unhide K1).trans (hbA.mono (unhide K1).size))
    clear K1 hbA
    have NBx := NB
    clear NB
    go_wp2_with fail
    generalize w1.alloc (.cells #[.int .i64 k, .int .i64 s, .int .i64 q, .string key, .string val] 24) = w1b at *
    generalize w1.heap.size = hx at *
    refine (implCommandBytes_any k s q key val w1b hks hvs).mono ?_
    rintro e w2 ⟨vb, rfl, hO, hb2⟩
    obtain ⟨bs, cc, hco, hbs, hcc⟩ := cmdOut_ok (unhide HOK)
    rw [hco] at hO ⊢
    dsimp only at hO ⊢
    have HCO := hide hco
    have HBS := hide hbs
    have HCC := hide hcc
    have ob := hide hO
    clear hco hbs hcc hO
    have K3 := hide ((unhide K2).trans (hb2.mono (unhide K2).size))
    have Bx3 := hide ((unhide NBx).below hb2)
    clear K2 NBx hb2
    have cx0 := (unhide Bx3).cell 0 rfl
    have cx1 := (unhide Bx3).cell 1 rfl
    have cx2 := (unhide Bx3).cell 2 rfl
    have cx3 := (unhide Bx3).cell 3 rfl
    have cx4 := (unhide Bx3).cell 4 rfl
    go_wp2_with fail
    clear cx0 cx1 cx2 cx3 cx4
    refine (specCommandBytes_any k s q key val w2 hks hvs).mono ?_
    rintro e w3 ⟨vw, rfl, hO, hb3⟩
    rw [unhide HCO] at hO ⊢
    dsimp only at hO ⊢
    have ow := hide hO
    clear hO HCO
    have K4 := hide ((unhide K3).trans (hb3.mono (unhide K3).size))
    have Bx4 := hide ((unhide Bx3).below hb3)
    have Ob4 := hide ((unhide ob).below hb3)
    clear K3 Bx3 ob hb3
    obtain ⟨ab, capb, hub, hRd⟩ := OwnB.rdv3 (unhide Ob4)
    subst hub
    have HRd := hide hRd
    clear hRd
    go_wp2_with fail
    refine (implReadCommand_any ab capb bs w3 (unhide HRd)).mono ?_
    rintro e w4 ⟨rfl, hb4⟩
    obtain ⟨dd, hdd, hd0⟩ := cmdRead_ok (unhide HOK) (unhide HBS)
    rw [hdd]
    dsimp only [cmdVal]
    have HDD := hide hd0
    clear hdd hd0 HRd
    have K5 := hide ((unhide K4).trans (hb4.mono (unhide K4).size))
    have Bx5 := hide ((unhide Bx4).below hb4)
    have Ob5 := hide ((unhide Ob4).below hb4)
    have Ow5 := hide ((unhide ow).below hb4)
    clear K4 Bx4 Ob4 ow hb4
    have hbA := (Below.refl w4.heap.size w4).alloc (Nat.le_refl _) (.cells #[.int .i64 k, .int .i64 s, .int .i64 q, .string key, .string val] 24)
    have NB := hide (Blk.new w4 #[.int .i64 k, .int .i64 s, .int .i64 q, .string key, .string val] 24 w4.heap.size rfl)
    have K6 := hide ((unhide K5).trans (hbA.mono (unhide K5).size))
    have Bx6 := hide ((unhide Bx5).below hbA)
    have Ob6 := hide ((unhide Ob5).below hbA)
    have Ow6 := hide ((unhide Ow5).below hbA)
    clear K5 Bx5 Ob5 Ow5 hbA
    have NBy := NB
    clear NB
    go_wp2_with fail
    generalize w4.alloc (.cells #[.int .i64 k, .int .i64 s, .int .i64 q, .string key, .string val] 24) = w4b at *
    generalize w4.heap.size = hy at *
    refine (entryOf_any cmd_drawn_all a0 cap0 l w4b ((unhide HB).below (unhide K6)) (by omega)).mono ?_
    rintro e w5 ⟨t, kk, d, rfl, hek, hb5⟩
    obtain ⟨j1, j2, j3, j4, j5⟩ := entOK_bounds hek
    have hds : d.size ≤ maxLen := by unfold maxLen; omega
    have HEK := hide hek
    clear hek j1 j2 j3 j4
    have K7 := hide ((unhide K6).trans (hb5.mono (unhide K6).size))
    have Bx7 := hide ((unhide Bx6).below hb5)
    have By7 := hide ((unhide NBy).below hb5)
    have Ob7 := hide ((unhide Ob6).below hb5)
    have Ow7 := hide ((unhide Ow6).below hb5)
    clear K6 Bx6 NBy Ob6 Ow6 hb5
    have hbA := (Below.refl w5.heap.size w5).alloc (Nat.le_refl _) (.cells #[.int .i64 t, .int .i64 kk, .string d] 31)
    have NB := hide (Blk.new w5 #[.int .i64 t, .int .i64 kk, .string d] 31 w5.heap.size rfl)
    have K8 := hide ((unhide K7).trans (hbA.mono (unhide K7).size))
    have Bx8 := hide ((unhide Bx7).below hbA)
    have By8 := hide ((unhide By7).below hbA)
    have Ob8 := hide ((unhide Ob7).below hbA)
    have Ow8 := hide ((unhide Ow7).below hbA)
    clear K7 Bx7 By7 Ob7 Ow7 hbA
    have NBe := NB
    clear NB
    go_wp2_with fail
    generalize w5.alloc (.cells #[.int .i64 t, .int .i64 kk, .string d] 31) = w5b at *
    generalize w5.heap.size = he at *
    refine (implEntryBytes_any t kk d w5b hds).mono ?_
    rintro e w6 ⟨vg, rfl, hO, hb6⟩
    obtain ⟨es, ff, heo, hes, hff⟩ := entOut_ok (unhide HEK)
    rw [heo] at hO ⊢
    dsimp only at hO ⊢
    have HEO := hide heo
    have HES := hide hes
    have HFF := hide hff
    have og := hide hO
    clear heo hes hff hO
    have K9 := hide ((unhide K8).trans (hb6.mono (unhide K8).size))
    have Bx9 := hide ((unhide Bx8).below hb6)
    have By9 := hide ((unhide By8).below hb6)
    have Be9 := hide ((unhide NBe).below hb6)
    have Ob9 := hide ((unhide Ob8).below hb6)
    have Ow9 := hide ((unhide Ow8).below hb6)
    clear K8 Bx8 By8 NBe Ob8 Ow8 hb6
    have ce0 := (unhide Be9).cell 0 rfl
    have ce1 := (unhide Be9).cell 1 rfl
    have ce2 := (unhide Be9).cell 2 rfl
    go_wp2_with fail
    clear ce0 ce1 ce2
    refine (specEntryBytes_any t kk d w6 hds (by omega)).mono ?_
    rintro e w7 ⟨vi, rfl, hO, hb7⟩
    rw [unhide HEO] at hO ⊢
    dsimp only at hO ⊢
    have oi := hide hO
    clear hO HEO
    have K10 := hide ((unhide K9).trans (hb7.mono (unhide K9).size))
    have Bx10 := hide ((unhide Bx9).below hb7)
    have By10 := hide ((unhide By9).below hb7)
    have Be10 := hide ((unhide Be9).below hb7)
    have Ob10 := hide ((unhide Ob9).below hb7)
    have Ow10 := hide ((unhide Ow9).below hb7)
    have Og10 := hide ((unhide og).below hb7)
    clear K9 Bx9 By9 Be9 Ob9 Ow9 og hb7
    obtain ⟨ag, capg, hug, hRd⟩ := OwnB.rdv3 (unhide Og10)
    subst hug
    have HRd := hide hRd
    clear hRd
    go_wp2_with fail
    refine (implReadEntry_any ag capg es w7 (unhide HRd)).mono ?_
    rintro e w8 ⟨rfl, hb8⟩
    obtain ⟨ii, hii, hi0⟩ := entRead_ok (unhide HEK) (unhide HES)
    rw [hii]
    dsimp only [entVal]
    have HII := hide hi0
    clear hii hi0 HRd
    have K11 := hide ((unhide K10).trans (hb8.mono (unhide K10).size))
    have Bx11 := hide ((unhide Bx10).below hb8)
    have By11 := hide ((unhide By10).below hb8)
    have Be11 := hide ((unhide Be10).below hb8)
    have Ob11 := hide ((unhide Ob10).below hb8)
    have Ow11 := hide ((unhide Ow10).below hb8)
    have Og11 := hide ((unhide Og10).below hb8)
    have Oi11 := hide ((unhide oi).below hb8)
    clear K10 Bx10 By10 Be10 Ob10 Ow10 Og10 oi hb8
    have hbA := (Below.refl w8.heap.size w8).alloc (Nat.le_refl _) (.cells #[.int .i64 t, .int .i64 kk, .string d] 31)
    have NB := hide (Blk.new w8 #[.int .i64 t, .int .i64 kk, .string d] 31 w8.heap.size rfl)
    have K12 := hide ((unhide K11).trans (hbA.mono (unhide K11).size))
    have Bx12 := hide ((unhide Bx11).below hbA)
    have By12 := hide ((unhide By11).below hbA)
    have Be12 := hide ((unhide Be11).below hbA)
    have Ob12 := hide ((unhide Ob11).below hbA)
    have Ow12 := hide ((unhide Ow11).below hbA)
    have Og12 := hide ((unhide Og11).below hbA)
    have Oi12 := hide ((unhide Oi11).below hbA)
    clear K11 Bx11 By11 Be11 Ob11 Ow11 Og11 Oi11 hbA
    have NBh := NB
    clear NB
    have hcc := unhide HCC
    have hdd := unhide HDD
    have hff := unhide HFF
    have hii := unhide HII
    subst hcc hdd hff hii
    clear HCC HDD HFF HII
    have cx0 := (unhide Bx12).cell 0 rfl
    have cx1 := (unhide Bx12).cell 1 rfl
    have cx2 := (unhide Bx12).cell 2 rfl
    have cx3 := (unhide Bx12).cell 3 rfl
    have cx4 := (unhide Bx12).cell 4 rfl
    have cy0 := (unhide By12).cell 0 rfl
    have cy1 := (unhide By12).cell 1 rfl
    have cy2 := (unhide By12).cell 2 rfl
    have cy3 := (unhide By12).cell 3 rfl
    have cy4 := (unhide By12).cell 4 rfl
    have cvb := conv_own (P := Try.prog) 22 9 5 Try.underlying22 Try.underlying5 Try.underlying9 (unhide Ob12).1
    have cvw := conv_own (P := Try.prog) 22 9 5 Try.underlying22 Try.underlying5 Try.underlying9 (unhide Ow12).1
    generalize strOfNums bs = SB at *
    go_wp2_with fail
    generalize w8.alloc (.cells #[.int .i64 t, .int .i64 kk, .string d] 31) = w8b at *
    generalize w8.heap.size = hh at *
    refine (implCommandOK_any k s q key val w8b hks hvs).mono ?_
    rintro e w9 ⟨rfl, hb9⟩
    rw [unhide HOK]
    clear cx0 cx1 cx2 cx3 cx4
    clear cy0 cy1 cy2 cy3 cy4
    clear cvb cvw
    have K13 := hide ((unhide K12).trans (hb9.mono (unhide K12).size))
    have Bx13 := hide ((unhide Bx12).below hb9)
    have By13 := hide ((unhide By12).below hb9)
    have Be13 := hide ((unhide Be12).below hb9)
    have Bh13 := hide ((unhide NBh).below hb9)
    have Ob13 := hide ((unhide Ob12).below hb9)
    have Ow13 := hide ((unhide Ow12).below hb9)
    have Og13 := hide ((unhide Og12).below hb9)
    have Oi13 := hide ((unhide Oi12).below hb9)
    clear K12 Bx12 By12 Be12 NBh Ob12 Ow12 Og12 Oi12 hb9
    have ce0 := (unhide Be13).cell 0 rfl
    have ce1 := (unhide Be13).cell 1 rfl
    have ce2 := (unhide Be13).cell 2 rfl
    have ch0 := (unhide Bh13).cell 0 rfl
    have ch1 := (unhide Bh13).cell 1 rfl
    have ch2 := (unhide Bh13).cell 2 rfl
    have cvg := conv_own (P := Try.prog) 22 9 5 Try.underlying22 Try.underlying5 Try.underlying9 (unhide Og13).1
    have cvi := conv_own (P := Try.prog) 22 9 5 Try.underlying22 Try.underlying5 Try.underlying9 (unhide Oi13).1
    generalize strOfNums es = SE at *
    go_wp2_with fail
    clear ce0 ce1 ce2
    clear ch0 ch1 ch2
    clear cvg cvi
    refine (implReadCommand_any a0 cap0 l w9 (RdV.up (unhide HR) (unhide K13))).mono ?_
    rintro e w10 ⟨rfl, hb10⟩
    generalize hcr : cmdRead l = cr at *
    obtain ⟨⟨x1, x2, x3, s5, s7⟩, code⟩ := cr
    have HCR := hide hcr
    clear hcr
    dsimp only [cmdVal]
    clear Bx13
    clear By13
    clear Be13
    clear Bh13
    clear Ob13
    clear Ow13
    clear Og13
    clear Oi13
    have K14 := hide ((unhide K13).trans (hb10.mono (unhide K13).size))
    clear K13 hb10
    have hbA := (Below.refl w10.heap.size w10).alloc (Nat.le_refl _) (.cells #[.int .i64 x1, .int .i64 x2, .int .i64 x3, .string s5, .string s7] 24)
    have NB := hide (Blk.new w10 #[.int .i64 x1, .int .i64 x2, .int .i64 x3, .string s5, .string s7] 24 w10.heap.size rfl)
    have K15 := hide ((unhide K14).trans (hbA.mono (unhide K14).size))
    clear K14 hbA
    have NBz := NB
    clear NB
    go_wp2_with fail
    generalize w10.alloc (.cells #[.int .i64 x1, .int .i64 x2, .int .i64 x3, .string s5, .string s7] 24) = w10b at *
    generalize w10.heap.size = hz at *
    refine (specReadCommand_any a0 cap0 l w10b (RdV.up (unhide HR) (unhide K15))).mono ?_
    rintro e w11 ⟨rfl, hb11⟩
    rw [unhide HCR]
    dsimp only [cmdVal]
    have K16 := hide ((unhide K15).trans (hb11.mono (unhide K15).size))
    have Bz16 := hide ((unhide NBz).below hb11)
    clear K15 NBz hb11
    have hbA := (Below.refl w11.heap.size w11).alloc (Nat.le_refl _) (.cells #[.int .i64 x1, .int .i64 x2, .int .i64 x3, .string s5, .string s7] 24)
    have NB := hide (Blk.new w11 #[.int .i64 x1, .int .i64 x2, .int .i64 x3, .string s5, .string s7] 24 w11.heap.size rfl)
    have K17 := hide ((unhide K16).trans (hbA.mono (unhide K16).size))
    have Bz17 := hide ((unhide Bz16).below hbA)
    clear K16 Bz16 hbA
    have NBu := NB
    clear NB
    have cz0 := (unhide Bz17).cell 0 rfl
    have cz1 := (unhide Bz17).cell 1 rfl
    have cz2 := (unhide Bz17).cell 2 rfl
    have cz3 := (unhide Bz17).cell 3 rfl
    have cz4 := (unhide Bz17).cell 4 rfl
    by_cases hcode : code = 0
    · have HBK := hide (cmdRead_back (unhide HRG) (by rw [unhide HCR]; exact hcode))
      rw [unhide HCR] at HBK
      dsimp only at HBK
      obtain ⟨hok2, hl2⟩ := unhide HBK
      obtain ⟨_, _, _, _, _, _, r7, r8⟩ := cmdOK_bounds hok2
      have hks2 : s5.size ≤ maxLen := by unfold maxLen; omega
      have hvs2 : s7.size ≤ maxLen := by unfold maxLen; omega
      have HOK2 := hide hok2
      have HL2 := hide hl2
      clear hok2 hl2 HBK HCR
      subst hcode
      go_wp2_with fail
      generalize w11.alloc (.cells #[.int .i64 x1, .int .i64 x2, .int .i64 x3, .string s5, .string s7] 24) = w11b at *
      generalize w11.heap.size = hu at *
      clear cz0 cz1 cz2 cz3 cz4
      refine (implCommandBytes_any x1 x2 x3 s5 s7 w11b hks2 hvs2).mono ?_
      rintro e w12 ⟨va, rfl, hO, hb12⟩
      obtain ⟨bs2, cc2, hco, hbs2, hcc2⟩ := cmdOut_ok (unhide HOK2)
      rw [hco] at hO ⊢
      dsimp only at hO ⊢
      have hbl2 : bs2 = l := hbs2.trans (unhide HL2)
      rw [hbl2] at hO
      clear hco hbs2 hbl2
      subst hcc2
      have K18 := hide ((unhide K17).trans (hb12.mono (unhide K17).size))
      have Bz18 := hide ((unhide Bz17).below hb12)
      have Bu18 := hide ((unhide NBu).below hb12)
      clear K17 Bz17 NBu hb12
      have cva := conv_own (P := Try.prog) 22 9 5 Try.underlying22 Try.underlying5 Try.underlying9 hO.1
      have cvc := conv_rd (P := Try.prog) 22 9 5 Try.underlying22 Try.underlying5 Try.underlying9 (RdV.up (unhide HR) (unhide K18))
      clear hO
      generalize strOfNums l = SL2 at *
      go_wp2_with fail
      go_ret
      exact ⟨rfl, unhide K18⟩
    · have hcb : (code == 0) = false := by rw [beq_eq_false_iff_ne]; exact hcode
      go_wp2_with fail
      go_ret
      exact ⟨rfl, unhide K17⟩
  · have h2 : (1048576 : Int) < (l.length : Int) := by omega
    go_enter Try.func3, Try.ntmps3
    go_wp2_with fail
    go_ret
    exact ⟨rfl, Below.refl _ _⟩

theorem own : ownKnob Try.prog.godebug = none := by kernel_rfl
theorem laidOut : laidOutB Try.prog = true := by kernel_rfl
set_option maxRecDepth 100000 in
theorem lifted (os : Os) (started : os.Started) (H : Type) (enc : TypeId × Value → H) :
    ReturnsInHanded {} Try.checked os 3 .any (Rows.fnCommandsSpec.pre6 enc Try.prog Try.f3 Rows.fnCommandsRow.domain false) (Rows.fnCommandsSpec.post enc Try.prog Try.f3 false true false false) := by
  refine returnsInHanded_of_change (C := Try.checked) own started (by kernel_rfl) Try.func3
    (ChangeSpec.witness6 (enc := enc) (C := Try.checked) false ⟨#[], #[.slice none 0 0], []⟩ 8 (by kernel_rfl) (by kernel_rfl) (by kernel_rfl) (by kernel_rfl)) ?_
  intro W base args ds gs before hval0 hW hcnd _
  have hval : ∀ (j : Nat) t v, Try.f3.params[j]? = some t → args[j]? = some v → Value.okWide Try.prog W .any base t v := hval0
  have hW' := hW
  obtain ⟨p, q, hA0, hV, rfl, hfz, hnd⟩ := hW
  have hA : DataW.TrodAll enc Try.prog W 0 (fun _ => true) true Try.f3.params.toList args.toList ds p := hA0
  rw [Try.params3] at hA hval
  obtain ⟨v0, vs0, d0, ds0, p0, q0, hargs, rfl, rfl, h0, r0⟩ := trodAll_cons hA
  obtain ⟨rfl, rfl, rfl⟩ := trodAll_nil r0
  obtain rfl : args = #[v0] := by cases args; simp_all
  obtain ⟨rfl, rfl⟩ := trodVars_none hV
  have k0 := h0
  have lt0 : ∀ x ∈ p0, x.block < W.heap.size := by obtain ⟨m, hm⟩ := k0; exact DataW.trod_lt m _ _ _ hm
  obtain ⟨a0, len0, cap0, rfl⟩ := okWide_slice Try.underlying22 (hval 0 22 v0 rfl rfl)
  obtain ⟨z0, w0⟩ : ∃ zs, IsRow .u8 W a0 len0 cap0 zs := by
    obtain ⟨fuel, hf⟩ := h0
    rcases open_ints Try.underlying22 Try.underlying5 (by kernel_rfl) hf with ⟨hcs, _⟩ | ⟨x, l, c, zs, hcs, _, hl, hm, hz, _, hcell, hwz⟩
    · simp [Value.cells] at hcs
      obtain ⟨rfl, rfl, rfl⟩ := hcs
      exact ⟨[], .inl ⟨rfl, rfl, rfl, rfl⟩⟩
    · simp [Value.cells] at hcs
      obtain ⟨rfl, rfl, rfl⟩ := hcs
      exact ⟨zs, .inr ⟨_, rfl, hl, hm, by simpa using hz, hcell, hwz⟩⟩
  clear hA0 hval0
  refine (walk a0 len0 cap0 z0 W w0).mono fun e W' ⟨he, bel⟩ => ?_
  subst he
  exact ⟨_, rfl, _, _, _, [], _, [], hW', trodAll_mk1 (shut_bool Try.underlying4 _), (trodAll_cons_mk (Below.trod laidOut (by kernel_rfl) (of_decide_eq_true (by kernel_rfl)) k0 bel lt0) trodAll_mk0), rfl, bel.frame _, fun h => by cases h⟩

theorem over : Rows.fnCommandsRow.holds Try.pinned (OpenSpec.ofChange Rows.fnCommandsSpec) :=
  OpenClaim.holds_of_wide 3 Try.f3 rfl rfl rfl rfl rfl rfl rfl ⟨rfl, rfl, rfl, rfl, rfl⟩ rfl rfl rfl rfl rfl (by kernel_rfl) Try.func3 (by kernel_rfl)
    (of_decide_eq_true (by kernel_rfl)) (by unfold Func.isWrapper; first | (rw [if_pos (by decide +kernel)]; kernel_rfl) | (rw [if_neg (by decide +kernel)]; exact ⟨rfl, rfl⟩))
    (fun os started H enc _ => lifted os started H enc)

end Go.Proofs.Ytmjbcepkfgfdmaa.fnCommands
namespace Go.Proofs.Ytmjbcepkfgfdmaa
theorem fnCommands_holds : Rows.FnCommandsSaid := fnCommands.over
#print axioms fnCommands_holds
end Go.Proofs.Ytmjbcepkfgfdmaa
