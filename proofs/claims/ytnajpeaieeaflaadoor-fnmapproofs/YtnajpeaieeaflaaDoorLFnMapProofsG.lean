/- For every two lists of bytes that can be read, laws.FnMapProofs returns true, they read as they did, and so do the two tables of words, which the card ties to the program's text. Condition: the listed tables start as the program's text lays them. (Written by py/lfmp.py.) -/
import Derived.Test.YtnajpeaieeaflaaDoorGxB
import Derived.Test.YtnajpeaieeaflaaDoorGxC
import Derived.Test.YtnajpeaieeaflaaDoorGxG
import Derived.Test.YtnajpeaieeaflaaDoorGxE
import Derived.Deep.Cut
import Derived.Test.YtnajpeaieeaflaaDoorLawG
import Derived.Test.YtnajpeaieeaflaaDoorCards
import Derived.Test.YtnajpeaieeaflaaDoorTie
namespace Go.Proofs.YtnajpeaieeaflaaDoor.fnMapProofs
open Go.ChangeShapes Go.WideShapes Go.ChangeAt Go.RowKit Sha
open Go.ChangeMaps (open_string shut_string)
set_option linter.unusedVariables false
set_option linter.unusedSimpArgs false

/-- A branch in a box. -/
def Bx (S : Nat → Prop) (w : World) (p : Nat) (b : Br) : Prop := ∃ sa c, Blk w p [.string b.key, .string b.val, .int .i64 b.at_, .slice sa b.kids.length c] ∧ Brs S w (.slice sa b.kids.length c) b.kids
theorem Bx.lt {S : Nat → Prop} {w : World} {p : Nat} {b : Br} (h : Bx S w p b) : p < w.heap.size := by
  obtain ⟨_, _, h1, _⟩ := h
  exact h1.1
theorem Bx.below {S : Nat → Prop} {w w' : World} {p : Nat} {b : Br} (h : Bx S w p b) (hb : Below w.heap.size w w') : Bx S w' p b := by
  obtain ⟨sa, c, h1, h2⟩ := h
  exact ⟨sa, c, h1.below hb, h2.blw hb⟩
theorem keyN_le (j : Nat) (hj : j < 64) : (keyN j).size ≤ 1048576 := by have := (okK_iff.1 (keys_ok ⟨j, hj⟩)).2; dsimp only at this; omega
/-- A proof in a box. -/
structure Px (w : World) (p : Nat) (f : Bool) (k v : ByteArray) (a : Option Addr) (cap : Nat) (l : List Pk) : Prop where
  x : Blk w p [.bool f, .string k, .string v, .slice a l.length cap]
  r : Pks w (.slice a l.length cap) l
theorem Px.below {w w' : World} {p : Nat} {f : Bool} {k v : ByteArray} {a : Option Addr} {cap : Nat} {l : List Pk} (h : Px w p f k v a cap l) (hb : Below w.heap.size w w') : Px w' p f k v a cap l := ⟨h.x.below hb, h.r.below hb⟩
/-- A proof in a box behind the world w5, its steps below. -/
structure Py (w5 w : World) (f : Bool) (k v : ByteArray) (a : Option Addr) (cap : Nat) (l : List Pk) : Prop where
  x : Blk w w5.heap.size [.bool f, .string k, .string v, .slice a l.length cap]
  d : Below w5.heap.size w5 w
  r : Pks w5 (.slice a l.length cap) l
theorem Py.below {w5 w w' : World} {f : Bool} {k v : ByteArray} {a : Option Addr} {cap : Nat} {l : List Pk} (h : Py w5 w f k v a cap l) (hb : Below w.heap.size w w') : Py w5 w' f k v a cap l := ⟨h.x.below hb, h.d.trans (hb.mono h.d.size), h.r⟩
theorem Py.rr {w5 w : World} {f : Bool} {k v : ByteArray} {a : Option Addr} {cap : Nat} {l : List Pk} (h : Py w5 w f k v a cap l) : Pks w (.slice a l.length cap) l := h.r.below h.d
theorem pks_shape {w : World} {v : Value} {l : List Pk} (h : Pks w v l) : ∃ a cap, v = .slice a l.length cap := by
  obtain ⟨a, cap, e, _⟩ := h
  exact ⟨a, cap, e⟩
set_option maxRecDepth 100000 in
set_option maxHeartbeats 4000000 in
theorem sameProof_any (f : Bool) (k v : ByteArray) (a1 a2 : Option Addr) (cc1 cc2 : Nat) (l : List Pk) (w : World) (h1 : Pks w (.slice a1 l.length cc1) l) (h2 : Pks w (.slice a2 l.length cc2) l) (hl : l.length ≤ 1000) :
    Calls Tryd.prog 10 #[.agg #[.bool f, .string k, .string v, .slice a1 l.length cc1], .agg #[.bool f, .string k, .string v, .slice a2 l.length cc2]] w fun e w' => e = .returned (.bool true) ∧ Below w.heap.size w w' := by
  have B1 := ((Below.refl w.heap.size w).alloc (Nat.le_refl _) (.cells #[.bool f, .string k, .string v, .slice a1 l.length cc1] 32)).alloc (by simp) (.cells #[.bool f, .string k, .string v, .slice a2 l.length cc2] 32)
  have X1 := (Blk.new w #[.bool f, .string k, .string v, .slice a1 l.length cc1] 32 w.heap.size rfl).alloc (.cells #[.bool f, .string k, .string v, .slice a2 l.length cc2] 32)
  have X2 := Blk.new (w.alloc (.cells #[.bool f, .string k, .string v, .slice a1 l.length cc1] 32)) #[.bool f, .string k, .string v, .slice a2 l.length cc2] 32 (w.heap.size + 1) (by simp)
  have P1 := hide (show Px ((w.alloc (.cells #[.bool f, .string k, .string v, .slice a1 l.length cc1] 32)).alloc (.cells #[.bool f, .string k, .string v, .slice a2 l.length cc2] 32)) w.heap.size f k v a1 cc1 l from ⟨X1, h1.below B1⟩)
  have P2 := hide (show Px ((w.alloc (.cells #[.bool f, .string k, .string v, .slice a1 l.length cc1] 32)).alloc (.cells #[.bool f, .string k, .string v, .slice a2 l.length cc2] 32)) (w.heap.size + 1) f k v a2 cc2 l from ⟨X2, h2.below B1⟩)
  have HB := hide B1
  clear B1 X1 X2 h1 h2
  go_enter Tryd.func10, Tryd.ntmps10
  go_wp2_with fail
  generalize (w.alloc (.cells #[.bool f, .string k, .string v, .slice a1 l.length cc1] 32)).alloc (.cells #[.bool f, .string k, .string v, .slice a2 l.length cc2] 32) = w1 at *
  go_loopw [5] (fun i wr => ∃ q : Nat, q ≤ l.length ∧ i = .int .i64 q ∧ Below w1.heap.size w1 wr) (fun i _ => l.length - (intOf i).toNat)
  case atStart => exact ⟨0, Nat.zero_le _, rfl, Below.refl _ _⟩
  case round =>
    obtain ⟨q, hq, rfl, hb⟩ := hrel
    have m3 := ((unhide P1).below hb).x.cell 3 rfl
    have n3 := ((unhide P2).below hb).x.cell 3 rfl
    by_cases hlt : q < l.length
    · obtain ⟨g, off, rfl, hgl, c0, c1⟩ := pks_term ((unhide P1).below hb).r q hlt
      obtain ⟨g2, off2, rfl, hgl2, d0, d1⟩ := pks_term ((unhide P2).below hb).r q hlt
      have hk0 : (0 : Int) ≤ (q : Int) := by omega
      have hk1 : (q : Int) < (l.length : Int) := by omega
      have HBR := hide hb
      clear hb
      generalize l.getD q default = ff at *
      obtain ⟨s, x⟩ := ff
      dsimp only at c0 c1 d0 d1
      go_upto_region 6 with fail
      refine wp_region_noPanic ?_
      refine wp_region_held_drew (S := (fun wx => wx.cell? ⟨w.heap.size, 3, none⟩ = some (.slice (some ⟨g, off, none⟩) l.length cc1) ∧ wx.cell? ⟨w.heap.size + 1, 3, none⟩ = some (.slice (some ⟨g2, off2, none⟩) l.length cc2) ∧ wx.cell? ⟨g, off + q * 2, none⟩ = some (.int .i64 s) ∧ wx.cell? ⟨g, off + q * 2 + 1, none⟩ = some (.string x) ∧ wx.cell? ⟨g2, off2 + q * 2, none⟩ = some (.int .i64 s) ∧ wx.cell? ⟨g2, off2 + q * 2 + 1, none⟩ = some (.string x))) (by kernel_rfl) ?_ (fun hHeld => ?_)
      · exact ⟨m3, n3, c0, c1, d0, d1⟩
      refine tkH 0 rfl ?_
      refine tkH 1 rfl ?_
      refine tkH 2 rfl ?_
      refine tkH 3 rfl ?_
      refine tkH 4 rfl ?_
      refine tkH 5 rfl ?_
      refine tkH 6 rfl ?_
      refine tkH 7 rfl ?_
      refine tkH 8 rfl ?_
      refine tkH 9 rfl ?_
      refine tkH 10 rfl ?_
      refine wpAnyH_done (by kernel_rfl) (NoPanic.normal ?_) _
      go_wp2_with fail
      refine ⟨⟨q + 1, by omega, by go_num, below_drewN (unhide HBR) 1⟩, ?_⟩
      simp [intOf]; omega
    · obtain rfl : q = l.length := by omega
      have R := hide ((unhide HB).trans (hb.mono (unhide HB).size))
      clear hb
      go_wp2_with fail
      go_ret
      exact ⟨rfl, unhide R⟩
set_option maxRecDepth 100000 in
set_option maxHeartbeats 8000000 in
theorem walk0 (a : Option Addr) (cap : Nat) (l : List Int) (a2 : Option Addr) (cap2 : Nat) (l2 : List Int) (w : World) (h1 : Bytes w (.slice a l.length cap) l) (h2 : Bytes w (.slice a2 l2.length cap2) l2) (hf : First w) (ht : Table w) :
    Calls Tryd.prog 3 #[.slice a l.length cap, .slice a2 l2.length cap2] w fun e w' => e = .returned (.bool true) ∧ Below w.heap.size w w' := by
  have HT := hide (show Tab w from ⟨hf, ht⟩)
  have H1 := hide h1
  have H2 := hide h2
  have g1 : l.length ≤ 9223372036854775807 := by obtain ⟨_, _, _, hm1, _⟩ := h1; unfold maxLen at hm1; omega
  have g2 : l2.length ≤ 9223372036854775807 := by obtain ⟨_, _, _, hm1, _⟩ := h2; unfold maxLen at hm1; omega
  clear hf ht h1 h2
  by_cases hl : 1048576 < l.length
  · go_enter Tryd.func3, Tryd.ntmps3
    go_wp2_with fail
    go_ret
    exact ⟨rfl, Below.refl _ _⟩
  by_cases hl2 : 1048576 < l2.length
  · go_enter Tryd.func3, Tryd.ntmps3
    go_wp2_with fail
    go_ret
    exact ⟨rfl, Below.refl _ _⟩
  have HHO := hide (fun wx (hx : Below w.heap.size w wx) => hashOf_any a2 cap2 l2 wx ((unhide H2).below hx) (by omega))
  have HMO := hide (mapOf_any a cap l w (unhide H1) (by omega))
  have HKO := hide (fun wx (hx : Below w.heap.size w wx) => mapKeyOf_any a2 cap2 l2 wx ((unhide H2).below hx) (by omega))
  go_enter Tryd.func3, Tryd.ntmps3
  go_wp2_with fail
  refine (unhide HMO).mono ?_
  rintro e w1 ⟨o, sa, n, c, hD, rfl, hB, hb⟩
  have hn : n = (brOf o).kids.length := by obtain ⟨a', cap', e', _, _⟩ := hB.shape; cases e'; rfl
  subst hn
  have BB := (Below.refl w1.heap.size w1).alloc (Nat.le_refl _) (.cells #[.string (brOf o).key, .string (brOf o).val, .int .i64 (brOf o).at_, .slice sa (brOf o).kids.length c] 25)
  have K1 := hide (hb.trans (BB.mono hb.size))
  have X1 := hide (show Bx (fun _ => True) (w1.alloc (.cells #[.string (brOf o).key, .string (brOf o).val, .int .i64 (brOf o).at_, .slice sa (brOf o).kids.length c] 25)) w1.heap.size (brOf o) from ⟨sa, c, Blk.new w1 #[.string (brOf o).key, .string (brOf o).val, .int .i64 (brOf o).at_, .slice sa (brOf o).kids.length c] 25 w1.heap.size rfl, (hB.mono (fun _ _ => trivial)).blw BB⟩)
  have HD := hide hD
  clear hB hb BB hD HMO
  go_wp2_with fail
  generalize w1.alloc (.cells #[.string (brOf o).key, .string (brOf o).val, .int .i64 (brOf o).at_, .slice sa (brOf o).kids.length c] 25) = w2 at *
  generalize w1.heap.size = bb at *
  refine (unhide HKO w2 (unhide K1)).mono ?_
  rintro e w3 ⟨jj, hj, rfl, hb⟩
  have K3 := hide ((unhide K1).trans (hb.mono (unhide K1).size))
  have X3 := hide ((unhide X1).below hb)
  clear hb K1 X1 HKO
  have hsm := dr_small (unhide HD).ok
  have HSM := hide hsm
  have HKS := hide (keyN_le jj (by omega))
  have hok := keys_ok ⟨jj, by omega⟩
  dsimp only at hok
  obtain ⟨f, k, v, st, root, s1, c1, hpf, hmr, hmg, hfc, hfv, hst, hvz, hkz, hrz, hck⟩ := map_proves (unhide HD) hok
  have ebr : ∀ b : Br, Br.mk b.key b.val b.at_ b.kids = b := fun b => by cases b; rfl
  have HPF := hide hpf
  have HMG := hide hmg
  have HMR := hide hmr
  have HFC := hide hfc
  have HFV := hide hfv
  have HST := hide hst
  have HCK := hide hck
  have HOK := hide hok
  have HE := hide ebr
  have hsl : st.length ≤ 256 := by have := stepsB_len st 0 hst (by omega); omega
  clear hpf hmg hmr hfc hfv hst hck ebr hsm hok
  obtain ⟨xa, xc, xb, xs⟩ := unhide X3
  have x0 := xb.cell 0 rfl
  have x1 := xb.cell 1 rfl
  have x2 := xb.cell 2 rfl
  have x3 := xb.cell 3 rfl
  have xS := hide xs
  clear xb xs
  go_wp2_with fail
  refine (implMapRoot_any (brOf o).key (brOf o).val (brOf o).at_ (brOf o).kids _ _ w3 (unhide xS) (unhide HSM).1 (unhide HSM).2 ((unhide HT).below (unhide K3))).mono ?_
  rintro e w4 ⟨rfl, hb⟩
  rw [unhide HE, unhide HMR]
  have K4 := hide ((unhide K3).trans (hb.mono (unhide K3).size))
  have X4 := hide ((unhide X3).below hb)
  clear hb K3 X3 x0 x1 x2 x3 xS
  obtain ⟨ya, yc, yb, ys⟩ := unhide X4
  have y0 := yb.cell 0 rfl
  have y1 := yb.cell 1 rfl
  have y2 := yb.cell 2 rfl
  have y3 := yb.cell 3 rfl
  have yS := hide ys
  clear yb ys
  go_wp2_with fail
  refine (implProveKey_any (brOf o).key (brOf o).val (brOf o).at_ (brOf o).kids (keyN jj) _ _ w4 (unhide yS) (unhide HSM).1 (unhide HSM).2 (unhide HKS) ((unhide HT).below (unhide K4))).mono ?_
  rw [unhide HE, unhide HPF]
  dsimp only
  rintro e w5 ⟨u, rfl, ⟨sv, rfl, hO⟩, hb⟩
  obtain ⟨pa, pc, rfl⟩ := pks_shape hO.pks
  have BB := (Below.refl w5.heap.size w5).alloc (Nat.le_refl _) (.cells #[.bool f, .string k, .string v, .slice pa st.length pc] 32)
  have hb' := hb.trans (BB.mono hb.size)
  have K5 := hide ((unhide K4).trans (hb'.mono (unhide K4).size))
  have X5 := hide ((unhide X4).below hb')
  have P5 := hide (show Py w5 (w5.alloc (.cells #[.bool f, .string k, .string v, .slice pa st.length pc] 32)) f k v pa pc st from ⟨Blk.new w5 #[.bool f, .string k, .string v, .slice pa st.length pc] 32 w5.heap.size rfl, BB, hO.pks⟩)
  have hw5 := hide (Nat.le_trans (unhide K4).size hb.size)
  clear hb hb' BB hO K4 X4 y0 y1 y2 y3 yS
  go_upto_region 7 with fail
  generalize w5.alloc (.cells #[.bool f, .string k, .string v, .slice pa st.length pc] 32) = w6 at *
  obtain ⟨ya, yc, yb, ys⟩ := unhide X5
  have y0 := yb.cell 0 rfl
  have y1 := yb.cell 1 rfl
  have y2 := yb.cell 2 rfl
  have y3 := yb.cell 3 rfl
  have yS := hide ys
  clear yb ys
  go_wp2_with fail
  refine (specProveKey_any (brOf o).key (brOf o).val (brOf o).at_ (brOf o).kids (keyN jj) _ _ w6 (unhide yS) (unhide HSM).1 (unhide HSM).2 (unhide HKS)).mono ?_
  rw [unhide HE, unhide HPF]
  dsimp only
  rintro e w7 ⟨u, rfl, ⟨sv, rfl, hO⟩, hb⟩
  obtain ⟨qa, qc, rfl⟩ := pks_shape hO.pks
  have BB := (Below.refl w7.heap.size w7).alloc (Nat.le_refl _) (.cells #[.bool f, .string k, .string v, .slice qa st.length qc] 32)
  have hb' := hb.trans (BB.mono hb.size)
  have K7 := hide ((unhide K5).trans (hb'.mono (unhide K5).size))
  have X7 := hide ((unhide X5).below hb')
  have P7 := hide ((unhide P5).below hb')
  have Q7 := hide (show Px (w7.alloc (.cells #[.bool f, .string k, .string v, .slice qa st.length qc] 32)) w7.heap.size f k v qa qc st from ⟨Blk.new w7 #[.bool f, .string k, .string v, .slice qa st.length qc] 32 w7.heap.size rfl, hO.pks.below BB⟩)
  clear hb hb' BB hO K5 X5 P5 y0 y1 y2 y3 yS
  go_upto_region 8 with fail
  generalize w7.alloc (.cells #[.bool f, .string k, .string v, .slice qa st.length qc] 32) = w8 at *
  generalize w7.heap.size = qq at *
  obtain ⟨ya, yc, yb, ys⟩ := unhide X7
  have y0 := yb.cell 0 rfl
  have y1 := yb.cell 1 rfl
  have y2 := yb.cell 2 rfl
  have y3 := yb.cell 3 rfl
  have yS := hide ys
  clear yb ys
  go_wp2_with fail
  refine (implMapGet_any (brOf o).key (brOf o).val (brOf o).at_ (brOf o).kids (keyN jj) _ _ w8 (unhide yS) (unhide HSM).1 (unhide HSM).2 (unhide HKS) ((unhide HT).below (unhide K7))).mono ?_
  rw [unhide HE, unhide HMG]
  rintro e w9 ⟨rfl, hb⟩
  have K9 := hide ((unhide K7).trans (hb.mono (unhide K7).size))
  have P9 := hide ((unhide P7).below hb)
  have Q9 := hide ((unhide Q7).below hb)
  clear hb K7 X7 P7 Q7 y0 y1 y2 y3 yS HE HPF HMG HMR HD HSM
  generalize keyN jj = key at *
  have m0 := (unhide P9).x.cell 0 rfl
  have m1 := (unhide P9).x.cell 1 rfl
  have m2 := (unhide P9).x.cell 2 rfl
  have m3 := (unhide P9).x.cell 3 rfl
  have n0 := (unhide Q9).x.cell 0 rfl
  have n1 := (unhide Q9).x.cell 1 rfl
  have n2 := (unhide Q9).x.cell 2 rfl
  have n3 := (unhide Q9).x.cell 3 rfl
  go_wp2_with fail
  refine (sameProof_any f k v pa qa pc qc st w9 (unhide P9).rr (unhide Q9).r (by omega)).mono ?_
  rintro e w10 ⟨rfl, hb⟩
  have K10 := hide ((unhide K9).trans (hb.mono (unhide K9).size))
  have P10 := hide ((unhide P9).below hb)
  clear hb K9 P9 Q9 m0 m1 m2 m3 n0 n1 n2 n3
  have m0 := (unhide P10).x.cell 0 rfl
  have m1 := (unhide P10).x.cell 1 rfl
  have m2 := (unhide P10).x.cell 2 rfl
  have m3 := (unhide P10).x.cell 3 rfl
  have hcs : (f = true ∧ c1 = 0 ∧ v = s1) ∨ (f = false ∧ c1 ≠ 0) := by
    cases f
    · exact .inr ⟨rfl, fun e => by have := (unhide HFC).2 e; cases this⟩
    · exact .inl ⟨rfl, (unhide HFC).1 rfl, unhide HFV rfl⟩
  have HCR := hide ((unhide HCK root).2 rfl)
  clear HFC HFV
  have REST : ∀ (wx : World), True := fun _ => trivial
  clear REST
  rcases hcs with ⟨rfl, rfl, rfl⟩ | ⟨rfl, hc1⟩
  · go_wp2_with fail
    refine (implCheckKey_any root key true k v pa pc st w10 (unhide P10).rr (unhide HST) hrz (unhide HOK) hkz hvz ((unhide HT).below (unhide K10))).mono ?_
    rintro e w11 ⟨rfl, hb⟩
    rw [unhide HCR]
    have K11 := hide ((unhide K10).trans (hb.mono (unhide K10).size))
    have P11 := hide ((unhide P10).below hb)
    clear hb K10 P10 m0 m1 m2 m3 HCR
    have m0 := (unhide P11).x.cell 0 rfl
    have m1 := (unhide P11).x.cell 1 rfl
    have m2 := (unhide P11).x.cell 2 rfl
    have m3 := (unhide P11).x.cell 3 rfl
    go_wp2_with fail
    refine (unhide HHO w11 (unhide K11)).mono ?_
    rintro e w12 ⟨other, rfl, hoz, hb⟩
    have K12 := hide ((unhide K11).trans (hb.mono (unhide K11).size))
    have P12 := hide ((unhide P11).below hb)
    clear hb K11 P11 m0 m1 m2 m3 HHO
    have m0 := (unhide P12).x.cell 0 rfl
    have m1 := (unhide P12).x.cell 1 rfl
    have m2 := (unhide P12).x.cell 2 rfl
    have m3 := (unhide P12).x.cell 3 rfl
    have HTAIL : Hid True := hide trivial
    by_cases hor : other = root
    · have hob := textEq hor
      subst hor
      by_cases hk0 : k.size = 0
      · obtain rfl := txt0 hk0
        go_wp2_with fail
        go_ret
        exact ⟨rfl, unhide K12⟩
      have hke := isE hk0
      have hkn := lst0 hk0
      clear hk0
      have f2 := (unhide P12).x.fro 2
      have hcat : ¬ 9223372036854775807 < v.size + 1 := by omega
      have hcat2 : ¬ (9223372036854775807 : Int) < (v.size : Int) + 1 := by omega
      obtain ⟨v2, hv2⟩ : ∃ v2, v2 = v ++ (⟨#[120]⟩ : ByteArray) := ⟨_, rfl⟩
      have hv2z : v2.size = v.size + 1 := by rw [hv2, ByteArray.size_append]; rfl
      have PF := hide (show Py w5 (w12.setCell ⟨w5.heap.size, 2, none⟩ (.string v2)) _ k v2 pa pc st from ⟨(unhide P12).x.set 2 (.string v2) (by simp), (unhide P12).d.setCell (p := ⟨w5.heap.size, 2, none⟩) (Nat.le_refl _) (.string v2), (unhide P12).r⟩)
      have KF := hide ((unhide K12).setCell (p := ⟨w5.heap.size, 2, none⟩) (unhide hw5) (.string v2))
      rw [hv2] at PF KF hv2z
      go_upto_region 17 with fail
      generalize w12.setCell ⟨w5.heap.size, 2, none⟩ (.string (v ++ (⟨#[120]⟩ : ByteArray))) = wf at *
      generalize v ++ (⟨#[120]⟩ : ByteArray) = v3 at *
      clear m0 m1 m2 m3 f2 K12 P12 hcat hcat2 hv2 hv2z
      have m0 := (unhide PF).x.cell 0 rfl
      have m1 := (unhide PF).x.cell 1 rfl
      have m2 := (unhide PF).x.cell 2 rfl
      have m3 := (unhide PF).x.cell 3 rfl
      by_cases hvl : 60 < v3.size
      · have hvl2 : (60 : Int) < (v3.size : Int) := by omega
        go_wp2_with fail
        go_ret
        exact ⟨rfl, unhide KF⟩
      have hvl2 : ¬ (60 : Int) < (v3.size : Int) := by omega
      have C1 := hide (fun wx hx hy => implCheckKey_any other key true k v3 pa pc st wx hx (unhide HST) hrz (unhide HOK) hkz (by omega) hy)
      have C2 := hide (fun wx hx => specCheckKey_any other key true k v3 pa pc st wx hx (unhide HST) hrz (unhide HOK) hkz (by omega))
      generalize ckOut other key true k v3 st = co2 at *
      go_upto_region 19 with fail
      refine wp_region_noPanic ?_
      refine wp_region_held_drew (S := (fun wx => wx.cell? ⟨w5.heap.size, 1, none⟩ = some (.string k) ∧ wx.cell? ⟨w5.heap.size, 2, none⟩ = some (.string v3) ∧ wx.cell? ⟨w5.heap.size, 3, none⟩ = some (.slice pa st.length pc) ∧ wx.cell? ⟨w5.heap.size, 0, none⟩ = some (.bool true))) (by kernel_rfl) ?_ (fun hHeld => ?_)
      · exact ⟨m1, m2, m3, m0⟩
      refine tkH 0 rfl ?_
      refine tkH 1 rfl ?_
      refine tkH 2 rfl ?_
      refine tkH 4 rfl ?_
      refine tkH 5 rfl ?_
      refine tkH 6 rfl ?_
      refine wpAnyH_ready (rs := [3]) (by kernel_rfl) (by simp) ?_
      refine AllReadyH.cons (o := _) rfl (fun K hK => ?_) AllReadyH.nil
      go_simp
      refine (unhide C1 _ ((unhide PF).rr.below (below_drewN (Below.refl _ wf) 1)) ((unhide HT).below (below_drewN (unhide KF) 1))).mono ?_
      rintro e w2x ⟨rfl, hb2⟩
      replace hb2 : Below wf.heap.size wf w2x := (below_drewN (Below.refl _ wf) 1).trans hb2
      go_wp2_with fail
      refine hK.out _ _ ?_ (fun hHeld => ?_)
      · exact ⟨(hb2.cell (p := ⟨w5.heap.size, 1, none⟩) (unhide PF).x.1).trans m1, (hb2.cell (p := ⟨w5.heap.size, 2, none⟩) (unhide PF).x.1).trans m2, (hb2.cell (p := ⟨w5.heap.size, 3, none⟩) (unhide PF).x.1).trans m3, (hb2.cell (p := ⟨w5.heap.size, 0, none⟩) (unhide PF).x.1).trans m0⟩
      clear hK K
      (try simp only [Act.put, List.getElem_toArray, List.getElem_cons_succ, List.getElem_cons_zero, List.setIfInBounds_toArray, List.set_cons_zero, List.set_cons_succ])
      refine wpAnyH_ready (rs := [7]) (by kernel_rfl) (by simp) ?_
      refine AllReadyH.cons (o := _) rfl (fun K hK => ?_) AllReadyH.nil
      go_simp
      refine (unhide C2 w2x ((unhide PF).rr.below hb2)).mono ?_
      rintro e w3x ⟨rfl, hb3⟩
      replace hb3 := hb2.trans (hb3.mono hb2.size)
      clear hb2
      have hb2 := hb3
      go_wp2_with fail
      refine hK.out _ _ ?_ (fun hHeld => ?_)
      · exact ⟨(hb2.cell (p := ⟨w5.heap.size, 1, none⟩) (unhide PF).x.1).trans m1, (hb2.cell (p := ⟨w5.heap.size, 2, none⟩) (unhide PF).x.1).trans m2, (hb2.cell (p := ⟨w5.heap.size, 3, none⟩) (unhide PF).x.1).trans m3, (hb2.cell (p := ⟨w5.heap.size, 0, none⟩) (unhide PF).x.1).trans m0⟩
      clear hK K
      (try simp only [Act.put, List.getElem_toArray, List.getElem_cons_succ, List.getElem_cons_zero, List.setIfInBounds_toArray, List.set_cons_zero, List.set_cons_succ])
      refine tkH 8 rfl ?_
      refine tkH 9 rfl ?_
      refine wpAnyH_done (by kernel_rfl) (NoPanic.normal ?_) _
      go_wp2_with fail
      go_ret
      exact ⟨ret_bool (by simp), (unhide KF).trans (hb2.mono (unhide KF).size)⟩
    · have hob := textNe hor
      have HNZ : Hid (ckOut other key true k v st ≠ 0) := hide (fun e => hor ((unhide HCK other).1 e))
      have HI := hide (fun wx hx hy => implCheckKey_any other key true k v pa pc st wx hx (unhide HST) hoz (unhide HOK) hkz hvz hy)
      generalize ckOut other key true k v st = co at *
      have hcob : (co == 0) = false := by rw [beq_eq_false_iff_ne]; exact unhide HNZ
      clear HNZ
      go_wp2_with fail
      refine (unhide HI w12 (unhide P12).rr ((unhide HT).below (unhide K12))).mono ?_
      rintro e w13 ⟨rfl, hb⟩
      have K13 := hide ((unhide K12).trans (hb.mono (unhide K12).size))
      have P13 := hide ((unhide P12).below hb)
      clear hb K12 P12 m0 m1 m2 m3 HI
      have m0 := (unhide P13).x.cell 0 rfl
      have m1 := (unhide P13).x.cell 1 rfl
      have m2 := (unhide P13).x.cell 2 rfl
      have m3 := (unhide P13).x.cell 3 rfl
      by_cases hk0 : k.size = 0
      · obtain rfl := txt0 hk0
        go_wp2_with fail
        go_ret
        exact ⟨rfl, unhide K13⟩
      have hke := isE hk0
      have hkn := lst0 hk0
      clear hk0
      have f2 := (unhide P13).x.fro 2
      have hcat : ¬ 9223372036854775807 < v.size + 1 := by omega
      have hcat2 : ¬ (9223372036854775807 : Int) < (v.size : Int) + 1 := by omega
      obtain ⟨v2, hv2⟩ : ∃ v2, v2 = v ++ (⟨#[120]⟩ : ByteArray) := ⟨_, rfl⟩
      have hv2z : v2.size = v.size + 1 := by rw [hv2, ByteArray.size_append]; rfl
      have PF := hide (show Py w5 (w13.setCell ⟨w5.heap.size, 2, none⟩ (.string v2)) _ k v2 pa pc st from ⟨(unhide P13).x.set 2 (.string v2) (by simp), (unhide P13).d.setCell (p := ⟨w5.heap.size, 2, none⟩) (Nat.le_refl _) (.string v2), (unhide P13).r⟩)
      have KF := hide ((unhide K13).setCell (p := ⟨w5.heap.size, 2, none⟩) (unhide hw5) (.string v2))
      rw [hv2] at PF KF hv2z
      go_upto_region 17 with fail
      generalize w13.setCell ⟨w5.heap.size, 2, none⟩ (.string (v ++ (⟨#[120]⟩ : ByteArray))) = wf at *
      generalize v ++ (⟨#[120]⟩ : ByteArray) = v3 at *
      clear m0 m1 m2 m3 f2 K13 P13 hcat hcat2 hv2 hv2z
      have m0 := (unhide PF).x.cell 0 rfl
      have m1 := (unhide PF).x.cell 1 rfl
      have m2 := (unhide PF).x.cell 2 rfl
      have m3 := (unhide PF).x.cell 3 rfl
      by_cases hvl : 60 < v3.size
      · have hvl2 : (60 : Int) < (v3.size : Int) := by omega
        go_wp2_with fail
        go_ret
        exact ⟨rfl, unhide KF⟩
      have hvl2 : ¬ (60 : Int) < (v3.size : Int) := by omega
      have C1 := hide (fun wx hx hy => implCheckKey_any root key true k v3 pa pc st wx hx (unhide HST) hrz (unhide HOK) hkz (by omega) hy)
      have C2 := hide (fun wx hx => specCheckKey_any root key true k v3 pa pc st wx hx (unhide HST) hrz (unhide HOK) hkz (by omega))
      generalize ckOut root key true k v3 st = co2 at *
      go_upto_region 19 with fail
      refine wp_region_noPanic ?_
      refine wp_region_held_drew (S := (fun wx => wx.cell? ⟨w5.heap.size, 1, none⟩ = some (.string k) ∧ wx.cell? ⟨w5.heap.size, 2, none⟩ = some (.string v3) ∧ wx.cell? ⟨w5.heap.size, 3, none⟩ = some (.slice pa st.length pc) ∧ wx.cell? ⟨w5.heap.size, 0, none⟩ = some (.bool true))) (by kernel_rfl) ?_ (fun hHeld => ?_)
      · exact ⟨m1, m2, m3, m0⟩
      refine tkH 0 rfl ?_
      refine tkH 1 rfl ?_
      refine tkH 2 rfl ?_
      refine tkH 4 rfl ?_
      refine tkH 5 rfl ?_
      refine tkH 6 rfl ?_
      refine wpAnyH_ready (rs := [3]) (by kernel_rfl) (by simp) ?_
      refine AllReadyH.cons (o := _) rfl (fun K hK => ?_) AllReadyH.nil
      go_simp
      refine (unhide C1 _ ((unhide PF).rr.below (below_drewN (Below.refl _ wf) 1)) ((unhide HT).below (below_drewN (unhide KF) 1))).mono ?_
      rintro e w2x ⟨rfl, hb2⟩
      replace hb2 : Below wf.heap.size wf w2x := (below_drewN (Below.refl _ wf) 1).trans hb2
      go_wp2_with fail
      refine hK.out _ _ ?_ (fun hHeld => ?_)
      · exact ⟨(hb2.cell (p := ⟨w5.heap.size, 1, none⟩) (unhide PF).x.1).trans m1, (hb2.cell (p := ⟨w5.heap.size, 2, none⟩) (unhide PF).x.1).trans m2, (hb2.cell (p := ⟨w5.heap.size, 3, none⟩) (unhide PF).x.1).trans m3, (hb2.cell (p := ⟨w5.heap.size, 0, none⟩) (unhide PF).x.1).trans m0⟩
      clear hK K
      (try simp only [Act.put, List.getElem_toArray, List.getElem_cons_succ, List.getElem_cons_zero, List.setIfInBounds_toArray, List.set_cons_zero, List.set_cons_succ])
      refine wpAnyH_ready (rs := [7]) (by kernel_rfl) (by simp) ?_
      refine AllReadyH.cons (o := _) rfl (fun K hK => ?_) AllReadyH.nil
      go_simp
      refine (unhide C2 w2x ((unhide PF).rr.below hb2)).mono ?_
      rintro e w3x ⟨rfl, hb3⟩
      replace hb3 := hb2.trans (hb3.mono hb2.size)
      clear hb2
      have hb2 := hb3
      go_wp2_with fail
      refine hK.out _ _ ?_ (fun hHeld => ?_)
      · exact ⟨(hb2.cell (p := ⟨w5.heap.size, 1, none⟩) (unhide PF).x.1).trans m1, (hb2.cell (p := ⟨w5.heap.size, 2, none⟩) (unhide PF).x.1).trans m2, (hb2.cell (p := ⟨w5.heap.size, 3, none⟩) (unhide PF).x.1).trans m3, (hb2.cell (p := ⟨w5.heap.size, 0, none⟩) (unhide PF).x.1).trans m0⟩
      clear hK K
      (try simp only [Act.put, List.getElem_toArray, List.getElem_cons_succ, List.getElem_cons_zero, List.setIfInBounds_toArray, List.set_cons_zero, List.set_cons_succ])
      refine tkH 8 rfl ?_
      refine tkH 9 rfl ?_
      refine wpAnyH_done (by kernel_rfl) (NoPanic.normal ?_) _
      go_wp2_with fail
      go_ret
      exact ⟨ret_bool (by simp), (unhide KF).trans (hb2.mono (unhide KF).size)⟩
  · have hcb : (c1 == 0) = false := by rw [beq_eq_false_iff_ne]; exact hc1
    go_wp2_with fail
    refine (implCheckKey_any root key false k v pa pc st w10 (unhide P10).rr (unhide HST) hrz (unhide HOK) hkz hvz ((unhide HT).below (unhide K10))).mono ?_
    rintro e w11 ⟨rfl, hb⟩
    rw [unhide HCR]
    have K11 := hide ((unhide K10).trans (hb.mono (unhide K10).size))
    have P11 := hide ((unhide P10).below hb)
    clear hb K10 P10 m0 m1 m2 m3 HCR
    have m0 := (unhide P11).x.cell 0 rfl
    have m1 := (unhide P11).x.cell 1 rfl
    have m2 := (unhide P11).x.cell 2 rfl
    have m3 := (unhide P11).x.cell 3 rfl
    go_wp2_with fail
    refine (unhide HHO w11 (unhide K11)).mono ?_
    rintro e w12 ⟨other, rfl, hoz, hb⟩
    have K12 := hide ((unhide K11).trans (hb.mono (unhide K11).size))
    have P12 := hide ((unhide P11).below hb)
    clear hb K11 P11 m0 m1 m2 m3 HHO
    have m0 := (unhide P12).x.cell 0 rfl
    have m1 := (unhide P12).x.cell 1 rfl
    have m2 := (unhide P12).x.cell 2 rfl
    have m3 := (unhide P12).x.cell 3 rfl
    have HTAIL : Hid True := hide trivial
    by_cases hor : other = root
    · have hob := textEq hor
      subst hor
      by_cases hk0 : k.size = 0
      · obtain rfl := txt0 hk0
        go_wp2_with fail
        go_ret
        exact ⟨rfl, unhide K12⟩
      have hke := isE hk0
      have hkn := lst0 hk0
      clear hk0
      have f2 := (unhide P12).x.fro 2
      have hcat : ¬ 9223372036854775807 < v.size + 1 := by omega
      have hcat2 : ¬ (9223372036854775807 : Int) < (v.size : Int) + 1 := by omega
      obtain ⟨v2, hv2⟩ : ∃ v2, v2 = v ++ (⟨#[120]⟩ : ByteArray) := ⟨_, rfl⟩
      have hv2z : v2.size = v.size + 1 := by rw [hv2, ByteArray.size_append]; rfl
      have PF := hide (show Py w5 (w12.setCell ⟨w5.heap.size, 2, none⟩ (.string v2)) _ k v2 pa pc st from ⟨(unhide P12).x.set 2 (.string v2) (by simp), (unhide P12).d.setCell (p := ⟨w5.heap.size, 2, none⟩) (Nat.le_refl _) (.string v2), (unhide P12).r⟩)
      have KF := hide ((unhide K12).setCell (p := ⟨w5.heap.size, 2, none⟩) (unhide hw5) (.string v2))
      rw [hv2] at PF KF hv2z
      go_upto_region 17 with fail
      generalize w12.setCell ⟨w5.heap.size, 2, none⟩ (.string (v ++ (⟨#[120]⟩ : ByteArray))) = wf at *
      generalize v ++ (⟨#[120]⟩ : ByteArray) = v3 at *
      clear m0 m1 m2 m3 f2 K12 P12 hcat hcat2 hv2 hv2z
      have m0 := (unhide PF).x.cell 0 rfl
      have m1 := (unhide PF).x.cell 1 rfl
      have m2 := (unhide PF).x.cell 2 rfl
      have m3 := (unhide PF).x.cell 3 rfl
      by_cases hvl : 60 < v3.size
      · have hvl2 : (60 : Int) < (v3.size : Int) := by omega
        go_wp2_with fail
        go_ret
        exact ⟨rfl, unhide KF⟩
      have hvl2 : ¬ (60 : Int) < (v3.size : Int) := by omega
      have C1 := hide (fun wx hx hy => implCheckKey_any other key false k v3 pa pc st wx hx (unhide HST) hrz (unhide HOK) hkz (by omega) hy)
      have C2 := hide (fun wx hx => specCheckKey_any other key false k v3 pa pc st wx hx (unhide HST) hrz (unhide HOK) hkz (by omega))
      generalize ckOut other key false k v3 st = co2 at *
      go_upto_region 19 with fail
      refine wp_region_noPanic ?_
      refine wp_region_held_drew (S := (fun wx => wx.cell? ⟨w5.heap.size, 1, none⟩ = some (.string k) ∧ wx.cell? ⟨w5.heap.size, 2, none⟩ = some (.string v3) ∧ wx.cell? ⟨w5.heap.size, 3, none⟩ = some (.slice pa st.length pc) ∧ wx.cell? ⟨w5.heap.size, 0, none⟩ = some (.bool false))) (by kernel_rfl) ?_ (fun hHeld => ?_)
      · exact ⟨m1, m2, m3, m0⟩
      refine tkH 0 rfl ?_
      refine tkH 1 rfl ?_
      refine tkH 2 rfl ?_
      refine tkH 4 rfl ?_
      refine tkH 5 rfl ?_
      refine tkH 6 rfl ?_
      refine wpAnyH_ready (rs := [3]) (by kernel_rfl) (by simp) ?_
      refine AllReadyH.cons (o := _) rfl (fun K hK => ?_) AllReadyH.nil
      go_simp
      refine (unhide C1 _ ((unhide PF).rr.below (below_drewN (Below.refl _ wf) 1)) ((unhide HT).below (below_drewN (unhide KF) 1))).mono ?_
      rintro e w2x ⟨rfl, hb2⟩
      replace hb2 : Below wf.heap.size wf w2x := (below_drewN (Below.refl _ wf) 1).trans hb2
      go_wp2_with fail
      refine hK.out _ _ ?_ (fun hHeld => ?_)
      · exact ⟨(hb2.cell (p := ⟨w5.heap.size, 1, none⟩) (unhide PF).x.1).trans m1, (hb2.cell (p := ⟨w5.heap.size, 2, none⟩) (unhide PF).x.1).trans m2, (hb2.cell (p := ⟨w5.heap.size, 3, none⟩) (unhide PF).x.1).trans m3, (hb2.cell (p := ⟨w5.heap.size, 0, none⟩) (unhide PF).x.1).trans m0⟩
      clear hK K
      (try simp only [Act.put, List.getElem_toArray, List.getElem_cons_succ, List.getElem_cons_zero, List.setIfInBounds_toArray, List.set_cons_zero, List.set_cons_succ])
      refine wpAnyH_ready (rs := [7]) (by kernel_rfl) (by simp) ?_
      refine AllReadyH.cons (o := _) rfl (fun K hK => ?_) AllReadyH.nil
      go_simp
      refine (unhide C2 w2x ((unhide PF).rr.below hb2)).mono ?_
      rintro e w3x ⟨rfl, hb3⟩
      replace hb3 := hb2.trans (hb3.mono hb2.size)
      clear hb2
      have hb2 := hb3
      go_wp2_with fail
      refine hK.out _ _ ?_ (fun hHeld => ?_)
      · exact ⟨(hb2.cell (p := ⟨w5.heap.size, 1, none⟩) (unhide PF).x.1).trans m1, (hb2.cell (p := ⟨w5.heap.size, 2, none⟩) (unhide PF).x.1).trans m2, (hb2.cell (p := ⟨w5.heap.size, 3, none⟩) (unhide PF).x.1).trans m3, (hb2.cell (p := ⟨w5.heap.size, 0, none⟩) (unhide PF).x.1).trans m0⟩
      clear hK K
      (try simp only [Act.put, List.getElem_toArray, List.getElem_cons_succ, List.getElem_cons_zero, List.setIfInBounds_toArray, List.set_cons_zero, List.set_cons_succ])
      refine tkH 8 rfl ?_
      refine tkH 9 rfl ?_
      refine wpAnyH_done (by kernel_rfl) (NoPanic.normal ?_) _
      go_wp2_with fail
      go_ret
      exact ⟨ret_bool (by simp), (unhide KF).trans (hb2.mono (unhide KF).size)⟩
    · have hob := textNe hor
      have HNZ : Hid (ckOut other key false k v st ≠ 0) := hide (fun e => hor ((unhide HCK other).1 e))
      have HI := hide (fun wx hx hy => implCheckKey_any other key false k v pa pc st wx hx (unhide HST) hoz (unhide HOK) hkz hvz hy)
      generalize ckOut other key false k v st = co at *
      have hcob : (co == 0) = false := by rw [beq_eq_false_iff_ne]; exact unhide HNZ
      clear HNZ
      go_wp2_with fail
      refine (unhide HI w12 (unhide P12).rr ((unhide HT).below (unhide K12))).mono ?_
      rintro e w13 ⟨rfl, hb⟩
      have K13 := hide ((unhide K12).trans (hb.mono (unhide K12).size))
      have P13 := hide ((unhide P12).below hb)
      clear hb K12 P12 m0 m1 m2 m3 HI
      have m0 := (unhide P13).x.cell 0 rfl
      have m1 := (unhide P13).x.cell 1 rfl
      have m2 := (unhide P13).x.cell 2 rfl
      have m3 := (unhide P13).x.cell 3 rfl
      by_cases hk0 : k.size = 0
      · obtain rfl := txt0 hk0
        go_wp2_with fail
        go_ret
        exact ⟨rfl, unhide K13⟩
      have hke := isE hk0
      have hkn := lst0 hk0
      clear hk0
      have f2 := (unhide P13).x.fro 2
      have hcat : ¬ 9223372036854775807 < v.size + 1 := by omega
      have hcat2 : ¬ (9223372036854775807 : Int) < (v.size : Int) + 1 := by omega
      obtain ⟨v2, hv2⟩ : ∃ v2, v2 = v ++ (⟨#[120]⟩ : ByteArray) := ⟨_, rfl⟩
      have hv2z : v2.size = v.size + 1 := by rw [hv2, ByteArray.size_append]; rfl
      have PF := hide (show Py w5 (w13.setCell ⟨w5.heap.size, 2, none⟩ (.string v2)) _ k v2 pa pc st from ⟨(unhide P13).x.set 2 (.string v2) (by simp), (unhide P13).d.setCell (p := ⟨w5.heap.size, 2, none⟩) (Nat.le_refl _) (.string v2), (unhide P13).r⟩)
      have KF := hide ((unhide K13).setCell (p := ⟨w5.heap.size, 2, none⟩) (unhide hw5) (.string v2))
      rw [hv2] at PF KF hv2z
      go_upto_region 17 with fail
      generalize w13.setCell ⟨w5.heap.size, 2, none⟩ (.string (v ++ (⟨#[120]⟩ : ByteArray))) = wf at *
      generalize v ++ (⟨#[120]⟩ : ByteArray) = v3 at *
      clear m0 m1 m2 m3 f2 K13 P13 hcat hcat2 hv2 hv2z
      have m0 := (unhide PF).x.cell 0 rfl
      have m1 := (unhide PF).x.cell 1 rfl
      have m2 := (unhide PF).x.cell 2 rfl
      have m3 := (unhide PF).x.cell 3 rfl
      by_cases hvl : 60 < v3.size
      · have hvl2 : (60 : Int) < (v3.size : Int) := by omega
        go_wp2_with fail
        go_ret
        exact ⟨rfl, unhide KF⟩
      have hvl2 : ¬ (60 : Int) < (v3.size : Int) := by omega
      have C1 := hide (fun wx hx hy => implCheckKey_any root key false k v3 pa pc st wx hx (unhide HST) hrz (unhide HOK) hkz (by omega) hy)
      have C2 := hide (fun wx hx => specCheckKey_any root key false k v3 pa pc st wx hx (unhide HST) hrz (unhide HOK) hkz (by omega))
      generalize ckOut root key false k v3 st = co2 at *
      go_upto_region 19 with fail
      refine wp_region_noPanic ?_
      refine wp_region_held_drew (S := (fun wx => wx.cell? ⟨w5.heap.size, 1, none⟩ = some (.string k) ∧ wx.cell? ⟨w5.heap.size, 2, none⟩ = some (.string v3) ∧ wx.cell? ⟨w5.heap.size, 3, none⟩ = some (.slice pa st.length pc) ∧ wx.cell? ⟨w5.heap.size, 0, none⟩ = some (.bool false))) (by kernel_rfl) ?_ (fun hHeld => ?_)
      · exact ⟨m1, m2, m3, m0⟩
      refine tkH 0 rfl ?_
      refine tkH 1 rfl ?_
      refine tkH 2 rfl ?_
      refine tkH 4 rfl ?_
      refine tkH 5 rfl ?_
      refine tkH 6 rfl ?_
      refine wpAnyH_ready (rs := [3]) (by kernel_rfl) (by simp) ?_
      refine AllReadyH.cons (o := _) rfl (fun K hK => ?_) AllReadyH.nil
      go_simp
      refine (unhide C1 _ ((unhide PF).rr.below (below_drewN (Below.refl _ wf) 1)) ((unhide HT).below (below_drewN (unhide KF) 1))).mono ?_
      rintro e w2x ⟨rfl, hb2⟩
      replace hb2 : Below wf.heap.size wf w2x := (below_drewN (Below.refl _ wf) 1).trans hb2
      go_wp2_with fail
      refine hK.out _ _ ?_ (fun hHeld => ?_)
      · exact ⟨(hb2.cell (p := ⟨w5.heap.size, 1, none⟩) (unhide PF).x.1).trans m1, (hb2.cell (p := ⟨w5.heap.size, 2, none⟩) (unhide PF).x.1).trans m2, (hb2.cell (p := ⟨w5.heap.size, 3, none⟩) (unhide PF).x.1).trans m3, (hb2.cell (p := ⟨w5.heap.size, 0, none⟩) (unhide PF).x.1).trans m0⟩
      clear hK K
      (try simp only [Act.put, List.getElem_toArray, List.getElem_cons_succ, List.getElem_cons_zero, List.setIfInBounds_toArray, List.set_cons_zero, List.set_cons_succ])
      refine wpAnyH_ready (rs := [7]) (by kernel_rfl) (by simp) ?_
      refine AllReadyH.cons (o := _) rfl (fun K hK => ?_) AllReadyH.nil
      go_simp
      refine (unhide C2 w2x ((unhide PF).rr.below hb2)).mono ?_
      rintro e w3x ⟨rfl, hb3⟩
      replace hb3 := hb2.trans (hb3.mono hb2.size)
      clear hb2
      have hb2 := hb3
      go_wp2_with fail
      refine hK.out _ _ ?_ (fun hHeld => ?_)
      · exact ⟨(hb2.cell (p := ⟨w5.heap.size, 1, none⟩) (unhide PF).x.1).trans m1, (hb2.cell (p := ⟨w5.heap.size, 2, none⟩) (unhide PF).x.1).trans m2, (hb2.cell (p := ⟨w5.heap.size, 3, none⟩) (unhide PF).x.1).trans m3, (hb2.cell (p := ⟨w5.heap.size, 0, none⟩) (unhide PF).x.1).trans m0⟩
      clear hK K
      (try simp only [Act.put, List.getElem_toArray, List.getElem_cons_succ, List.getElem_cons_zero, List.setIfInBounds_toArray, List.set_cons_zero, List.set_cons_succ])
      refine tkH 8 rfl ?_
      refine tkH 9 rfl ?_
      refine wpAnyH_done (by kernel_rfl) (NoPanic.normal ?_) _
      go_wp2_with fail
      go_ret
      exact ⟨ret_bool (by simp), (unhide KF).trans (hb2.mono (unhide KF).size)⟩
theorem walk (a0 : Option Addr) (len0 cap0 : Nat) (z0 : List Int) (a1 : Option Addr) (len1 cap1 : Nat) (z1 : List Int) (w : World) (w0 : IsRow .u8 w a0 len0 cap0 z0) (w1 : IsRow .u8 w a1 len1 cap1 z1) (hf : First w) (ht : Table w) :
    Calls Tryd.prog 3 #[.slice a0 len0 cap0, .slice a1 len1 cap1] w fun e w' => e = .returned (.bool true) ∧ Below w.heap.size w w' := by
  have b0 := bytes_of_row w0
  have b1 := bytes_of_row w1
  have l0 : (z0.take len0).length = len0 := by
    rcases w0 with ⟨_, rfl, _, rfl⟩ | ⟨x, _, hl, hm, hz, _⟩
    · rfl
    · rw [List.length_take]; omega
  have l1 : (z1.take len1).length = len1 := by
    rcases w1 with ⟨_, rfl, _, rfl⟩ | ⟨x, _, hl, hm, hz, _⟩
    · rfl
    · rw [List.length_take]; omega
  have h := walk0 a0 cap0 (z0.take len0) a1 cap1 (z1.take len1) w (by rw [l0]; exact b0) (by rw [l1]; exact b1) hf ht
  rw [l0, l1] at h
  exact h

theorem vars_of_laid {W : World} (h : laidMetH Tryd.prog Rows.fnMapProofsRow.laid W) :
    W.var? Tryd.prog "loop.example/g00220/impl.firstWords" = some firstCells ∧ W.var? Tryd.prog "loop.example/g00220/impl.roundWords" = some roundCells := by
  rw [MakeChecks.laidMetH_plain _ _ _ (by kernel_rfl)] at h
  obtain ⟨ps, ⟨g0, t0, cs0, f0, p0, q0, hg0, ht0, hv0, hd0, ⟨g1, t1, cs1, f1, p1, q1, hg1, ht1, hv1, hd1, _, _⟩, _⟩, _, _⟩ := h
  obtain rfl := Option.some.inj (gFirst.symm.trans hg0)
  obtain rfl := Option.some.inj (gRound.symm.trans hg1)
  obtain rfl := Option.some.inj (gFirstType.symm.trans ht0)
  obtain rfl := Option.some.inj (gRoundType.symm.trans ht1)
  have e0 := Lib.cells_of_tab (k := .u32) (cs := cs0.toList) (zs := iL.map fun (n : Nat) => (n : Int)) Tryd.underlying83 Tryd.underlying82 cellsE cellsA hd0
  have e1 := Lib.cells_of_tab (k := .u32) (cs := cs1.toList) (zs := kL.map fun (n : Nat) => (n : Int)) Tryd.underlying87 Tryd.underlying82 cellsE cellsB hd1
  have a0 : cs0 = firstCells := by
    have : cs0.toList = firstCells.toList := e0.trans (by kernel_rfl)
    exact Array.toList_inj.1 this
  have a1 : cs1 = roundCells := by
    have : cs1.toList = roundCells.toList := e1.trans (by kernel_rfl)
    exact Array.toList_inj.1 this
  exact ⟨by rw [hv0, a0], by rw [hv1, a1]⟩
theorem door_met (os : Os) (args : Array Value) : laidMetH Tryd.prog Rows.fnMapProofsRow.laid ((World.doorLaid Tryd.prog 19 os).forCall (fun _ _ => 0) ⟨#[], args, []⟩).memory :=
  laidMetH_of_parts3 (fuel := 8) (laidMet_of_run' 8 (by kernel_rfl) (by kernel_rfl)) (by kernel_rfl) (by kernel_rfl)
set_option maxRecDepth 100000 in
theorem lifted (os : Os) (started : os.Started) (H : Type) (enc : TypeId × Value → H) :
    ReturnsInHanded {} Tryd.checked os 3 .any (fun w args => (Rows.fnMapProofsSpec.pre enc Tryd.prog Tryd.f3 [] false w args ∧ laidMetH Tryd.prog Rows.fnMapProofsRow.laid w) ∧ sizedMet enc Tryd.prog Tryd.f3 (OpenSpec.ofChange Rows.fnMapProofsSpec) false w args)
      (Rows.fnMapProofsSpec.post enc Tryd.prog Tryd.f3 false true false false) := by
  refine returnsInHanded_of_change_and (C := Tryd.checked) (X := fun w _ => laidMetH Tryd.prog Rows.fnMapProofsRow.laid w) (fun _ _ _ hh h => h.of_heap hh) own started (by kernel_rfl) Tryd.func3
    (ChangeSpec.witness_shaped (enc := enc) (C := Tryd.checked) (os := os) (X := fun w _ => laidMetH Tryd.prog Rows.fnMapProofsRow.laid w) false (World.doorLaid Tryd.prog 19 os) #[.slice none 0 0, .slice none 0 0] 8 rfl (World.shaped_of_RefB (by kernel_rfl) (by kernel_rfl)) (by kernel_rfl) (by kernel_rfl) (by kernel_rfl) (door_met os _)) ?_
  intro W base args ds gs before hval0 hW _ _ hL _
  have hval : ∀ (j : Nat) t v, Tryd.f3.params[j]? = some t → args[j]? = some v → Value.okWide Tryd.prog W .any base t v := hval0
  have hW' := hW
  obtain ⟨p, q, hA0, hV0, rfl, hfz, hnd⟩ := hW
  have hA : DataW.TrodAll enc Tryd.prog W 0 (fun _ => true) true Tryd.f3.params.toList args.toList ds p := hA0
  have hV : DataW.TrodVars enc Tryd.prog W (fun _ => true) ["loop.example/g00220/impl.firstWords", "loop.example/g00220/impl.roundWords"] gs q := hV0
  rw [Tryd.params3] at hA hval
  obtain ⟨v0, vs0, d0, ds0, p0, q0, hargs, rfl, rfl, h0, r0⟩ := trodAll_cons hA
  obtain ⟨v1, vs1, d1, ds1, p1, q1, rfl, rfl, rfl, h1, r1⟩ := trodAll_cons r0
  obtain ⟨rfl, rfl, rfl⟩ := trodAll_nil r1
  obtain rfl : args = #[v0, v1] := by cases args; simp_all
  have k0 := h0
  have lt0 : ∀ x ∈ p0, x.block < W.heap.size := by obtain ⟨m, hm⟩ := k0; exact DataW.trod_lt m _ _ _ hm
  obtain ⟨a0, len0, cap0, rfl⟩ := okWide_slice Tryd.underlying22 (hval 0 22 v0 rfl rfl)
  obtain ⟨z0, w0⟩ : ∃ zs, IsRow .u8 W a0 len0 cap0 zs := by
    obtain ⟨fuel, hf⟩ := h0
    rcases open_ints Tryd.underlying22 Tryd.underlying5 (by kernel_rfl) hf with ⟨hcs, _⟩ | ⟨x, l, c, zs, hcs, _, hl, hm, hz, _, hcell, hwz⟩
    · simp [Value.cells] at hcs
      obtain ⟨rfl, rfl, rfl⟩ := hcs
      exact ⟨[], .inl ⟨rfl, rfl, rfl, rfl⟩⟩
    · simp [Value.cells] at hcs
      obtain ⟨rfl, rfl, rfl⟩ := hcs
      exact ⟨zs, .inr ⟨_, rfl, hl, hm, by simpa using hz, hcell, hwz⟩⟩
  have k1 := h1
  have lt1 : ∀ x ∈ p1, x.block < W.heap.size := by obtain ⟨m, hm⟩ := k1; exact DataW.trod_lt m _ _ _ hm
  obtain ⟨a1, len1, cap1, rfl⟩ := okWide_slice Tryd.underlying22 (hval 1 22 v1 rfl rfl)
  obtain ⟨z1, w1⟩ : ∃ zs, IsRow .u8 W a1 len1 cap1 zs := by
    obtain ⟨fuel, hf⟩ := h1
    rcases open_ints Tryd.underlying22 Tryd.underlying5 (by kernel_rfl) hf with ⟨hcs, _⟩ | ⟨x, l, c, zs, hcs, _, hl, hm, hz, _, hcell, hwz⟩
    · simp [Value.cells] at hcs
      obtain ⟨rfl, rfl, rfl⟩ := hcs
      exact ⟨[], .inl ⟨rfl, rfl, rfl, rfl⟩⟩
    · simp [Value.cells] at hcs
      obtain ⟨rfl, rfl, rfl⟩ := hcs
      exact ⟨zs, .inr ⟨_, rfl, hl, hm, by simpa using hz, hcell, hwz⟩⟩
  obtain ⟨hvA, hvB⟩ := vars_of_laid hL
  clear hA0 hV0 hval0
  refine (walk a0 len0 cap0 z0 a1 len1 cap1 z1 W w0 w1 (first_of hvA) (table_of hvB)).mono fun e W' ⟨he, bel⟩ => ?_
  subst he
  obtain ⟨rfl, pv, hvs⟩ := vars_again (sp := fun b => decide (b < W.heap.size)) hvA hvB hV bel
  exact ⟨_, rfl, _, _, _, [], _, pv, hW', trodAll_mk1 (shut_bool Tryd.underlying4 _), (trodAll_cons_mk (Below.trod laidOut (by kernel_rfl) (of_decide_eq_true (by kernel_rfl)) k0 bel lt0) (trodAll_cons_mk (Below.trod laidOut (by kernel_rfl) (of_decide_eq_true (by kernel_rfl)) k1 bel lt1) trodAll_mk0)), hvs, bel.frame _, fun h => by cases h⟩

theorem said : Rows.FnMapProofsSaid :=
  OpenClaim.holds_of_wide 3 Tryd.f3 rfl rfl rfl rfl rfl rfl rfl ⟨rfl, rfl, rfl, rfl, rfl⟩ rfl rfl rfl rfl rfl (by kernel_rfl) Tryd.func3 (by kernel_rfl)
    (of_decide_eq_true (by kernel_rfl)) (by unfold Func.isWrapper; first | (rw [if_pos (by decide +kernel)]; kernel_rfl) | (rw [if_neg (by decide +kernel)]; exact ⟨rfl, rfl⟩))
    (fun os started H enc _ => lifted os started H enc)

theorem plain (f : FuncId) (fn : Func) (hf : Tryd.pinned.checked.prog.funcNamed "loop.example/g00220/laws.FnMapProofs" = some f) (hfn : Tryd.pinned.checked.prog.funcs[f]? = some fn) :
    false = Tryd.pinned.checked.prog.looks [] ∧ ∀ (j : Nat) t, fn.params[j]? = some t → Tryd.pinned.checked.prog.wantsStandIn t = false := by
  obtain rfl : f = 3 := Option.some.inj ((show Tryd.prog.funcNamed "loop.example/g00220/laws.FnMapProofs" = some 3 by kernel_rfl).symm.trans hf) |>.symm
  obtain rfl : fn = Tryd.f3 := (Option.some.inj (Tryd.func3.symm.trans hfn)).symm
  refine ⟨by kernel_rfl, fun j t ht => ?_⟩
  rw [Tryd.params3] at ht
  obtain rfl : t = 22 := by
    have := Array.mem_of_getElem? ht
    simpa using this
  exact (show Tryd.prog.wantsStandIn 22 = false by kernel_rfl)
end Go.Proofs.YtnajpeaieeaflaaDoor.fnMapProofs
namespace Go.Proofs.YtnajpeaieeaflaaDoor
theorem fnMapProofs_card : Rows.FnMapProofsCardSaid :=
  Claim7.holds_tied_plain_at .later [] _ _ _ _ fnMapProofs.said (fun _ h => by cases h) (by kernel_rfl) (fun _ h => by cases h) fnMapProofs_row_tie rfl ⟨rfl, rfl⟩ (by kernel_rfl) rfl fnMapProofs.plain (by kernel_rfl)
#print axioms fnMapProofs_card
end Go.Proofs.YtnajpeaieeaflaaDoor
