/- For every two ledgers that can be read, laws.FnExactSameLedger returns true, the ledgers read as they did, and so do the two tables of words, which the card ties to the program's text. Condition: the listed tables start as the program's text lays them. -/
import Derived.Test.YtgmaappilopgbaaDoorGub
import Derived.Test.YtgmaappilopgbaaDoorLawG
import Derived.Test.YtgmaappilopgbaaDoorCards
import Derived.Test.YtgmaappilopgbaaDoorTie
import Derived.Deep.DeepCutAuto
namespace Go.Proofs.YtgmaappilopgbaaDoor.fnExactSameLedger
open Go.ChangeShapes Go.WideShapes Go.ChangeAt Go.RowKit Sha
open Go.ChangeMaps (open_string shut_string)
set_option linter.unusedVariables false

/-- What is carried on: all that was there, both arguments, their boxes. -/
structure Two (w : World) (ls1 : List ByteArray) (k1 v1 : ByteArray) (a1 : Int) (ks1 : List Br) (ss1 : List Se) (la1 : Option Addr) (lc1 : Nat) (ka1 : Option Addr) (kc1 : Nat) (sa1 : Option Addr) (sc1 : Nat) (ls2 : List ByteArray) (k2 v2 : ByteArray) (a2 : Int) (ks2 : List Br) (ss2 : List Se) (la2 : Option Addr) (lc2 : Nat) (ka2 : Option Addr) (kc2 : Nat) (sa2 : Option Addr) (sc2 : Nat) (wx : World) : Prop where
  b : Below w.heap.size w wx
  r1 : LedR wx (.slice la1 ls1.length lc1) (.slice ka1 ks1.length kc1) (.slice sa1 ss1.length sc1) ls1 ks1 ss1
  r2 : LedR wx (.slice la2 ls2.length lc2) (.slice ka2 ks2.length kc2) (.slice sa2 ss2.length sc2) ls2 ks2 ss2
  x1 : Blk wx w.heap.size [.slice la1 ls1.length lc1, .string k1, .string v1, .int .i64 a1, .slice ka1 ks1.length kc1, .slice sa1 ss1.length sc1]
  x2 : Blk wx (w.heap.size + 1) [.slice la2 ls2.length lc2, .string k2, .string v2, .int .i64 a2, .slice ka2 ks2.length kc2, .slice sa2 ss2.length sc2]
theorem Two.below {w : World} {ls1 : List ByteArray} {k1 v1 : ByteArray} {a1 : Int} {ks1 : List Br} {ss1 : List Se} {la1 : Option Addr} {lc1 : Nat} {ka1 : Option Addr} {kc1 : Nat} {sa1 : Option Addr} {sc1 : Nat} {ls2 : List ByteArray} {k2 v2 : ByteArray} {a2 : Int} {ks2 : List Br} {ss2 : List Se} {la2 : Option Addr} {lc2 : Nat} {ka2 : Option Addr} {kc2 : Nat} {sa2 : Option Addr} {sc2 : Nat} {wx wy : World} (h : Two w ls1 k1 v1 a1 ks1 ss1 la1 lc1 ka1 kc1 sa1 sc1 ls2 k2 v2 a2 ks2 ss2 la2 lc2 ka2 kc2 sa2 sc2 wx) (hb : Below wx.heap.size wx wy) : Two w ls1 k1 v1 a1 ks1 ss1 la1 lc1 ka1 kc1 sa1 sc1 ls2 k2 v2 a2 ks2 ss2 la2 lc2 ka2 kc2 sa2 sc2 wy :=
  ⟨h.b.trans (hb.mono h.b.size), h.r1.below hb, h.r2.below hb, h.x1.below hb, h.x2.below hb⟩
theorem wt_kids {k v : ByteArray} {a : Int} {ks : List Br} (h : (Br.mk k v a ks).wt ≤ 1048576) : wtL ks ≤ 1048576 := by
  have h1 := Br.wt_eq (.mk k v a ks)
  simp only [Br.key, Br.val, Br.kids] at h1
  omega

set_option maxRecDepth 100000 in
set_option maxHeartbeats 80000000 in
theorem walk (lv1 : Value) (k1 v1 : ByteArray) (a1 : Int) (kv1 sv1 : Value) (ls1 : List ByteArray) (ks1 : List Br) (ss1 : List Se) (lv2 : Value) (k2 v2 : ByteArray) (a2 : Int) (kv2 sv2 : Value) (ls2 : List ByteArray) (ks2 : List Br) (ss2 : List Se) (w : World)
    (hR1 : LedR w lv1 kv1 sv1 ls1 ks1 ss1) (hk1 : k1.size ≤ maxLen) (hv1 : v1.size ≤ maxLen) (z11 : ∀ i, i < ls1.length → (ls1.getD i ByteArray.empty).size ≤ maxLen) (z31 : ∀ i, i < ss1.length → (ss1.getD i default).vl.size ≤ maxLen)
    (hR2 : LedR w lv2 kv2 sv2 ls2 ks2 ss2) (hk2 : k2.size ≤ maxLen) (hv2 : v2.size ≤ maxLen) (z12 : ∀ i, i < ls2.length → (ls2.getD i ByteArray.empty).size ≤ maxLen) (z32 : ∀ i, i < ss2.length → (ss2.getD i default).vl.size ≤ maxLen) (hf : First w) (ht : Table w) :
    Calls Tryd.prog 7 #[.agg #[lv1, .string k1, .string v1, .int .i64 a1, kv1, sv1], .agg #[lv2, .string k2, .string v2, .int .i64 a2, kv2, sv2]] w fun e w' => e = .returned (.bool true) ∧ Below w.heap.size w w' := by
  have HT := hide (show Tab w from ⟨hf, ht⟩)
  obtain ⟨la1, lc1, ka1, kc1, sa1, sc1, rfl, rfl, rfl, _, _, _⟩ := hR1.shape
  obtain ⟨la2, lc2, ka2, kc2, sa2, sc2, rfl, rfl, rfl, _, _, _⟩ := hR2.shape
  have HZ1 := hide (And.intro hk1 (And.intro hv1 (And.intro z11 z31)))
  have HZ2 := hide (And.intro hk2 (And.intro hv2 (And.intro z12 z32)))
  have hwl1 := Br.wt_lo (.mk k1 v1 a1 ks1)
  have hwl2 := Br.wt_lo (.mk k2 v2 a2 ks2)
  have H0 : Hid (Two w ls1 k1 v1 a1 ks1 ss1 la1 lc1 ka1 kc1 sa1 sc1 ls2 k2 v2 a2 ks2 ss2 la2 lc2 ka2 kc2 sa2 sc2 ((w.alloc (.cells #[.slice la1 ls1.length lc1, .string k1, .string v1, .int .i64 a1, .slice ka1 ks1.length kc1, .slice sa1 ss1.length sc1] 38)).alloc (.cells #[.slice la2 ls2.length lc2, .string k2, .string v2, .int .i64 a2, .slice ka2 ks2.length kc2, .slice sa2 ss2.length sc2] 38))) := by
    have BB := ((Below.refl w.heap.size w).alloc (Nat.le_refl _) (.cells #[.slice la1 ls1.length lc1, .string k1, .string v1, .int .i64 a1, .slice ka1 ks1.length kc1, .slice sa1 ss1.length sc1] 38)).alloc (by simp) (.cells #[.slice la2 ls2.length lc2, .string k2, .string v2, .int .i64 a2, .slice ka2 ks2.length kc2, .slice sa2 ss2.length sc2] 38)
    exact hide ⟨BB, hR1.below BB, hR2.below BB, (Blk.new w _ 38 w.heap.size rfl).alloc _, Blk.new _ #[.slice la2 ls2.length lc2, .string k2, .string v2, .int .i64 a2, .slice ka2 ks2.length kc2, .slice sa2 ss2.length sc2] 38 (w.heap.size + 1) (by simp)⟩
  have HC1 := hide (fun L hL => ledR_cases L hL ls1 (Br.mk k1 v1 a1 ks1).wt ss1 hwl1)
  have HC2 := hide (fun L hL => ledR_cases L hL ls2 (Br.mk k2 v2 a2 ks2).wt ss2 hwl2)
  clear hR1 hR2 hk1 hv1 z11 z31 hk2 hv2 z12 z32 hf ht hwl1 hwl2
  go_enter Tryd.func7, Tryd.ntmps7
  go_wp2_with fail
  generalize (w.alloc (.cells #[.slice la1 ls1.length lc1, .string k1, .string v1, .int .i64 a1, .slice ka1 ks1.length kc1, .slice sa1 ss1.length sc1] 38)).alloc (.cells #[.slice la2 ls2.length lc2, .string k2, .string v2, .int .i64 a2, .slice ka2 ks2.length kc2, .slice sa2 ss2.length sc2] 38) = w0 at *
  refine (szLedger_any ls1 k1 v1 a1 ks1 ss1 la1 lc1 ka1 kc1 sa1 sc1 1048576 w0 (unhide H0).r1 (by omega) (by omega) (unhide HZ1).2.2.1 (unhide HZ1).1 (unhide HZ1).2.1 (unhide HZ1).2.2.2).mono ?_
  rintro e w1 ⟨rfl, hb1⟩
  have H1 := hide ((unhide H0).below hb1)
  clear hb1 H0
  rcases unhide HC1 1048576 (by omega) with hr | ⟨hr, hrl, hs1⟩
  · rw [hr]
    go_wp2_with fail
    go_ret
    exact ⟨rfl, (unhide H1).b⟩
  have HS1 := hide hs1
  clear hs1 HC1
  generalize ledR 1048576 ls1 (Br.mk k1 v1 a1 ks1).wt ss1 = L at *
  have b0 := (unhide H1).x2.cell 0 rfl
  have b1 := (unhide H1).x2.cell 1 rfl
  have b2 := (unhide H1).x2.cell 2 rfl
  have b3 := (unhide H1).x2.cell 3 rfl
  have b4 := (unhide H1).x2.cell 4 rfl
  have b5 := (unhide H1).x2.cell 5 rfl
  go_wp2_with fail
  clear b0 b1 b2 b3 b4 b5
  refine (szLedger_any ls2 k2 v2 a2 ks2 ss2 la2 lc2 ka2 kc2 sa2 sc2 L w1 (unhide H1).r2 hr hrl (unhide HZ2).2.2.1 (unhide HZ2).1 (unhide HZ2).2.1 (unhide HZ2).2.2.2).mono ?_
  rintro e w2 ⟨rfl, hb2⟩
  have H2 := hide ((unhide H1).below hb2)
  clear hb2 H1
  rcases unhide HC2 L hrl with hr2 | ⟨hr2, hrl2, hs2⟩
  · rw [hr2]
    go_wp2_with fail
    go_ret
    exact ⟨rfl, (unhide H2).b⟩
  have HS2 := hide hs2
  clear hs2 HC2
  generalize ledR L ls2 (Br.mk k2 v2 a2 ks2).wt ss2 = M at *
  have HTO1 := hide (fun wx (hx : Two w ls1 k1 v1 a1 ks1 ss1 la1 lc1 ka1 kc1 sa1 sc1 ls2 k2 v2 a2 ks2 ss2 la2 lc2 ka2 kc2 sa2 sc2 wx) => toLedger_any ls1 k1 v1 a1 ks1 ss1 la1 lc1 ka1 kc1 sa1 sc1 wx hx.r1 (unhide HS1).n1 (wt_kids (unhide HS1).w2) (unhide HS1).n3)
  have HTO2 := hide (fun wx (hx : Two w ls1 k1 v1 a1 ks1 ss1 la1 lc1 ka1 kc1 sa1 sc1 ls2 k2 v2 a2 ks2 ss2 la2 lc2 ka2 kc2 sa2 sc2 wx) => toLedger_any ls2 k2 v2 a2 ks2 ss2 la2 lc2 ka2 kc2 sa2 sc2 wx hx.r2 (unhide HS2).n1 (wt_kids (unhide HS2).w2) (unhide HS2).n3)
  go_wp2_with fail
  go_cut [6, 7] (fun s6 s7 wx => s6 = .bool (saB ls1 (.mk k1 v1 a1 ks1) ss1 ls2 (.mk k2 v2 a2 ks2) ss2) ∧ s7 = .int .i64 (saC ls1 (.mk k1 v1 a1 ks1) ss1 ls2 (.mk k2 v2 a2 ks2) ss2) ∧ Two w ls1 k1 v1 a1 ks1 ss1 la1 lc1 ka1 kc1 sa1 sc1 ls2 k2 v2 a2 ks2 ss2 la2 lc2 ka2 kc2 sa2 sc2 wx)
  case first =>
    have hT := (unhide H2).below (below_drewN (Below.refl _ w2) 1)
    clear H2
    go_region_held3 (fun wx => wx.cell? ⟨w.heap.size, 0, none⟩ = some (.slice la1 ls1.length lc1) ∧ wx.cell? ⟨w.heap.size, 1, none⟩ = some (.string k1) ∧ wx.cell? ⟨w.heap.size, 2, none⟩ = some (.string v1) ∧ wx.cell? ⟨w.heap.size, 3, none⟩ = some (.int .i64 a1) ∧ wx.cell? ⟨w.heap.size, 4, none⟩ = some (.slice ka1 ks1.length kc1) ∧ wx.cell? ⟨w.heap.size, 5, none⟩ = some (.slice sa1 ss1.length sc1) ∧ wx.cell? ⟨w.heap.size + 1, 0, none⟩ = some (.slice la2 ls2.length lc2) ∧ wx.cell? ⟨w.heap.size + 1, 1, none⟩ = some (.string k2) ∧ wx.cell? ⟨w.heap.size + 1, 2, none⟩ = some (.string v2) ∧ wx.cell? ⟨w.heap.size + 1, 3, none⟩ = some (.int .i64 a2) ∧ wx.cell? ⟨w.heap.size + 1, 4, none⟩ = some (.slice ka2 ks2.length kc2) ∧ wx.cell? ⟨w.heap.size + 1, 5, none⟩ = some (.slice sa2 ss2.length sc2))
      (exact ⟨hT.x1.cell 0 rfl, hT.x1.cell 1 rfl, hT.x1.cell 2 rfl, hT.x1.cell 3 rfl, hT.x1.cell 4 rfl, hT.x1.cell 5 rfl, hT.x2.cell 0 rfl, hT.x2.cell 1 rfl, hT.x2.cell 2 rfl, hT.x2.cell 3 rfl, hT.x2.cell 4 rfl, hT.x2.cell 5 rfl⟩)
      (first
        | (go_at_call 28; refine (specSameLedger_any ls1 k1 v1 a1 ks1 ss1 pA _ _ _ _ _ ls2 k2 v2 a2 ks2 ss2 pB _ _ _ _ _ _ (SA.own hOA.1) hOA.led (unhide HS1).t1 (unhide HZ1).1 (unhide HZ1).2.1 (unhide HS1).t3 (SA.own hOB.1) hOB.led (unhide HS2).t1 (unhide HZ2).1 (unhide HZ2).2.1 (unhide HS2).t3).mono ?_; rintro e wz ⟨rfl, hbz⟩; have hT2 := hT.below hbz; clear hT; have hT := hT2; clear hT2)
        | (go_at_call_of 17 (Value.agg #[.slice la1 ls1.length lc1, .string k1, .string v1, .int .i64 a1, .slice ka1 ks1.length kc1, .slice sa1 ss1.length sc1]); refine (unhide HTO1 _ hT).mono ?_; rintro e wA ⟨pA, qA, rA, rfl, hOA, hbA⟩; have hT2 := hT.below hbA; clear hT; have hT := hT2; clear hT2; try (have hOB2 := hOB.below hbA; clear hOB; have hOB := hOB2; clear hOB2))
        | (go_at_call 17; refine (unhide HTO2 _ hT).mono ?_; rintro e wB ⟨pB, qB, rB, rfl, hOB, hbB⟩; have hT2 := hT.below hbB; clear hT; have hT := hT2; clear hT2; try (have hOA2 := hOA.below hbB; clear hOA; have hOA := hOA2; clear hOA2)))
    all_goals
      go_wp2_with fail
      go_meet
      exact ⟨rfl, rfl, hT⟩
  case rest =>
    obtain ⟨rfl, rfl, hT⟩ := hcut
    have H3 := hide hT
    clear hT H2
    have b0 := (unhide H3).x1.cell 0 rfl
    have b1 := (unhide H3).x1.cell 1 rfl
    have b2 := (unhide H3).x1.cell 2 rfl
    have b3 := (unhide H3).x1.cell 3 rfl
    have b4 := (unhide H3).x1.cell 4 rfl
    have b5 := (unhide H3).x1.cell 5 rfl
    go_wp2_with fail
    clear b0 b1 b2 b3 b4 b5
    refine (unhide HTO1 _ (unhide H3)).mono ?_
    rintro e w4 ⟨pA, qA, rA, rfl, hOA, hbA⟩
    have BA := (Below.refl w4.heap.size w4).alloc (Nat.le_refl _) (.cells #[.slice (some ⟨pA, 0, none⟩) ls1.length ls1.length, .string k1, .string v1, .int .i64 a1, .slice (some ⟨qA, 0, none⟩) ks1.length ks1.length, .slice (some ⟨rA, 0, none⟩) ss1.length ss1.length] 43)
    have H4 := hide (((unhide H3).below hbA).below BA)
    have O4 := hide (hOA.below BA)
    have Y4 := hide (Blk.new w4 #[.slice (some ⟨pA, 0, none⟩) ls1.length ls1.length, .string k1, .string v1, .int .i64 a1, .slice (some ⟨qA, 0, none⟩) ks1.length ks1.length, .slice (some ⟨rA, 0, none⟩) ss1.length ss1.length] 43 w4.heap.size rfl)
    have b0 := (unhide H4).x2.cell 0 rfl
    have b1 := (unhide H4).x2.cell 1 rfl
    have b2 := (unhide H4).x2.cell 2 rfl
    have b3 := (unhide H4).x2.cell 3 rfl
    have b4 := (unhide H4).x2.cell 4 rfl
    have b5 := (unhide H4).x2.cell 5 rfl
    clear hOA hbA BA H3
    go_wp2_with fail
    clear b0 b1 b2 b3 b4 b5
    generalize w4.alloc (.cells #[.slice (some ⟨pA, 0, none⟩) ls1.length ls1.length, .string k1, .string v1, .int .i64 a1, .slice (some ⟨qA, 0, none⟩) ks1.length ks1.length, .slice (some ⟨rA, 0, none⟩) ss1.length ss1.length] 43) = w4b at *
    generalize w4.heap.size = ya at *
    refine (unhide HTO2 _ (unhide H4)).mono ?_
    rintro e w5 ⟨pB, qB, rB, rfl, hOB, hbB⟩
    have BB := (Below.refl w5.heap.size w5).alloc (Nat.le_refl _) (.cells #[.slice (some ⟨pB, 0, none⟩) ls2.length ls2.length, .string k2, .string v2, .int .i64 a2, .slice (some ⟨qB, 0, none⟩) ks2.length ks2.length, .slice (some ⟨rB, 0, none⟩) ss2.length ss2.length] 43)
    have H5 := hide (((unhide H4).below hbB).below BB)
    have O5 := hide (((unhide O4).below hbB).below BB)
    have P5 := hide (hOB.below BB)
    have Y5 := hide (((unhide Y4).below hbB).below BB)
    have Z5 := hide (Blk.new w5 #[.slice (some ⟨pB, 0, none⟩) ls2.length ls2.length, .string k2, .string v2, .int .i64 a2, .slice (some ⟨qB, 0, none⟩) ks2.length ks2.length, .slice (some ⟨rB, 0, none⟩) ss2.length ss2.length] 43 w5.heap.size rfl)
    have c0 := (unhide Y5).cell 0 rfl
    have c1 := (unhide Y5).cell 1 rfl
    have c2 := (unhide Y5).cell 2 rfl
    have c3 := (unhide Y5).cell 3 rfl
    have c4 := (unhide Y5).cell 4 rfl
    have c5 := (unhide Y5).cell 5 rfl
    clear hOB hbB BB H4 O4 Y4
    go_wp2_with fail
    clear c0 c1 c2 c3 c4 c5
    generalize w5.alloc (.cells #[.slice (some ⟨pB, 0, none⟩) ls2.length ls2.length, .string k2, .string v2, .int .i64 a2, .slice (some ⟨qB, 0, none⟩) ks2.length ks2.length, .slice (some ⟨rB, 0, none⟩) ss2.length ss2.length] 43) = w5b at *
    generalize w5.heap.size = yb at *
    refine (implSameLedger_any ls1 k1 v1 a1 ks1 ss1 pA _ _ _ _ _ ls2 k2 v2 a2 ks2 ss2 pB _ _ _ _ _ _ (SA.own (unhide O5).1) (unhide O5).led (unhide HS1).t1 (unhide HZ1).1 (unhide HZ1).2.1 (unhide HS1).t3 (SA.own (unhide P5).1) (unhide P5).led (unhide HS2).t1 (unhide HZ2).1 (unhide HZ2).2.1 (unhide HS2).t3 ((unhide HT).below (unhide H5).b)).mono ?_
    rintro e w6 ⟨rfl, hb6⟩
    have H6 := hide ((unhide H5).below hb6)
    have O6 := hide ((unhide O5).below hb6)
    have P6 := hide ((unhide P5).below hb6)
    have Y6 := hide ((unhide Y5).below hb6)
    have Z6 := hide ((unhide Z5).below hb6)
    clear hb6 H5 O5 P5 Y5 Z5
    generalize saB ls1 (.mk k1 v1 a1 ks1) ss1 ls2 (.mk k2 v2 a2 ks2) ss2 = r at *
    generalize saC ls1 (.mk k1 v1 a1 ks1) ss1 ls2 (.mk k2 v2 a2 ks2) ss2 = c at *
    have hrr : (r == r) = true := by simp
    have hcc : (c == c) = true := by simp
    go_wp2_with fail
    go_cut [52] (fun s wx => s = .bool false ∧ Below w6.heap.size w6 wx)
    case first =>
      have hT := (unhide H6).below (below_drewN (Below.refl _ w6) 1)
      have hb0 := below_drewN (Below.refl w6.heap.size w6) 1
      have hO := (unhide O6).below hb0
      have hY := (unhide Y6).below hb0
      clear H6 O6 P6 Y6 Z6
      go_region_held3 (fun wx => wx.cell? ⟨w.heap.size, 0, none⟩ = some (.slice la1 ls1.length lc1) ∧ wx.cell? ⟨w.heap.size, 1, none⟩ = some (.string k1) ∧ wx.cell? ⟨w.heap.size, 2, none⟩ = some (.string v1) ∧ wx.cell? ⟨w.heap.size, 3, none⟩ = some (.int .i64 a1) ∧ wx.cell? ⟨w.heap.size, 4, none⟩ = some (.slice ka1 ks1.length kc1) ∧ wx.cell? ⟨w.heap.size, 5, none⟩ = some (.slice sa1 ss1.length sc1) ∧ wx.cell? ⟨ya, 0, none⟩ = some (.slice (some ⟨pA, 0, none⟩) ls1.length ls1.length) ∧ wx.cell? ⟨ya, 1, none⟩ = some (.string k1) ∧ wx.cell? ⟨ya, 2, none⟩ = some (.string v1) ∧ wx.cell? ⟨ya, 3, none⟩ = some (.int .i64 a1) ∧ wx.cell? ⟨ya, 4, none⟩ = some (.slice (some ⟨qA, 0, none⟩) ks1.length ks1.length) ∧ wx.cell? ⟨ya, 5, none⟩ = some (.slice (some ⟨rA, 0, none⟩) ss1.length ss1.length))
        (exact ⟨hT.x1.cell 0 rfl, hT.x1.cell 1 rfl, hT.x1.cell 2 rfl, hT.x1.cell 3 rfl, hT.x1.cell 4 rfl, hT.x1.cell 5 rfl, hY.cell 0 rfl, hY.cell 1 rfl, hY.cell 2 rfl, hY.cell 3 rfl, hY.cell 4 rfl, hY.cell 5 rfl⟩)
        (first
          | (go_at_call 19; refine (eqLedger_any ls1 k1 v1 a1 ks1 ss1 _ _ _ _ _ _ _ _ _ _ _ _ _ hO.led hOA.led (unhide HS1).n1 (unhide HS1).n3).mono ?_; rintro e wz ⟨rfl, hbz⟩; have hT2 := hT.below hbz; clear hT; have hT := hT2; clear hT2; have hY2 := hY.below hbz; clear hY; have hY := hY2; clear hY2; have hb2 := hb0.trans (hbz.mono hb0.size); clear hb0; have hb0 := hb2; clear hb2)
          | (go_at_call 17; refine (unhide HTO1 _ hT).mono ?_; rintro e wA ⟨pC, qC, rC, rfl, hOA, hbA⟩; have hT2 := hT.below hbA; clear hT; have hT := hT2; clear hT2; have hY2 := hY.below hbA; clear hY; have hY := hY2; clear hY2; have hO2 := hO.below hbA; clear hO; have hO := hO2; clear hO2; have hb2 := hb0.trans (hbA.mono hb0.size); clear hb0; have hb0 := hb2; clear hb2))
      all_goals
        go_wp2_with fail
        go_meet
        exact ⟨rfl, hb0⟩
    case rest =>
      obtain ⟨rfl, hb⟩ := hcut
      have H7 := hide ((unhide H6).below hb)
      have P7 := hide ((unhide P6).below hb)
      have Z7 := hide ((unhide Z6).below hb)
      clear hb H6 O6 P6 Y6 Z6
      obtain ⟨w7, hw7⟩ : ∃ w7, w7 = wc := ⟨_, rfl⟩
      subst hw7
      go_wp2_with fail
      go_cut [57] (fun s wx => s = .bool false ∧ Below w7.heap.size w7 wx)
      case first =>
        have hT := (unhide H7).below (below_drewN (Below.refl _ w7) 1)
        have hb0 := below_drewN (Below.refl w7.heap.size w7) 1
        have hO := (unhide P7).below hb0
        have hY := (unhide Z7).below hb0
        clear H7 P7 Z7
        go_region_held3 (fun wx => wx.cell? ⟨w.heap.size + 1, 0, none⟩ = some (.slice la2 ls2.length lc2) ∧ wx.cell? ⟨w.heap.size + 1, 1, none⟩ = some (.string k2) ∧ wx.cell? ⟨w.heap.size + 1, 2, none⟩ = some (.string v2) ∧ wx.cell? ⟨w.heap.size + 1, 3, none⟩ = some (.int .i64 a2) ∧ wx.cell? ⟨w.heap.size + 1, 4, none⟩ = some (.slice ka2 ks2.length kc2) ∧ wx.cell? ⟨w.heap.size + 1, 5, none⟩ = some (.slice sa2 ss2.length sc2) ∧ wx.cell? ⟨yb, 0, none⟩ = some (.slice (some ⟨pB, 0, none⟩) ls2.length ls2.length) ∧ wx.cell? ⟨yb, 1, none⟩ = some (.string k2) ∧ wx.cell? ⟨yb, 2, none⟩ = some (.string v2) ∧ wx.cell? ⟨yb, 3, none⟩ = some (.int .i64 a2) ∧ wx.cell? ⟨yb, 4, none⟩ = some (.slice (some ⟨qB, 0, none⟩) ks2.length ks2.length) ∧ wx.cell? ⟨yb, 5, none⟩ = some (.slice (some ⟨rB, 0, none⟩) ss2.length ss2.length))
          (exact ⟨hT.x2.cell 0 rfl, hT.x2.cell 1 rfl, hT.x2.cell 2 rfl, hT.x2.cell 3 rfl, hT.x2.cell 4 rfl, hT.x2.cell 5 rfl, hY.cell 0 rfl, hY.cell 1 rfl, hY.cell 2 rfl, hY.cell 3 rfl, hY.cell 4 rfl, hY.cell 5 rfl⟩)
          (first
            | (go_at_call 19; refine (eqLedger_any ls2 k2 v2 a2 ks2 ss2 _ _ _ _ _ _ _ _ _ _ _ _ _ hO.led hOA.led (unhide HS2).n1 (unhide HS2).n3).mono ?_; rintro e wz ⟨rfl, hbz⟩; have hT2 := hT.below hbz; clear hT; have hT := hT2; clear hT2; have hY2 := hY.below hbz; clear hY; have hY := hY2; clear hY2; have hb2 := hb0.trans (hbz.mono hb0.size); clear hb0; have hb0 := hb2; clear hb2)
            | (go_at_call 17; refine (unhide HTO2 _ hT).mono ?_; rintro e wA ⟨pC, qC, rC, rfl, hOA, hbA⟩; have hT2 := hT.below hbA; clear hT; have hT := hT2; clear hT2; have hY2 := hY.below hbA; clear hY; have hY := hY2; clear hY2; have hO2 := hO.below hbA; clear hO; have hO := hO2; clear hO2; have hb2 := hb0.trans (hbA.mono hb0.size); clear hb0; have hb0 := hb2; clear hb2))
        all_goals
          go_wp2_with fail
          go_meet
          exact ⟨rfl, hb0⟩
      case rest =>
        obtain ⟨rfl, hb⟩ := hcut
        have H8 := hide ((unhide H7).below hb)
        clear hb H7 P7 Z7
        go_wp2_with fail
        go_ret
        exact ⟨rfl, (unhide H8).b⟩

theorem vars_of_laid {W : World} (h : laidMetH Tryd.prog Rows.fnExactSameLedgerRow.laid W) :
    W.var? Tryd.prog "loop.example/g00220/impl.firstWords" = some firstCells ∧ W.var? Tryd.prog "loop.example/g00220/impl.roundWords" = some roundCells := by
  rw [MakeChecks.laidMetH_plain _ _ _ (by kernel_rfl)] at h
  obtain ⟨ps, ⟨g0, t0, cs0, f0, p0, q0, hg0, ht0, hv0, hd0, ⟨g1, t1, cs1, f1, p1, q1, hg1, ht1, hv1, hd1, _, _⟩, _⟩, _, _⟩ := h
  obtain rfl := Option.some.inj (gFirst.symm.trans hg0)
  obtain rfl := Option.some.inj (gRound.symm.trans hg1)
  obtain rfl := Option.some.inj (gFirstType.symm.trans ht0)
  obtain rfl := Option.some.inj (gRoundType.symm.trans ht1)
  have e0 := Lib.cells_of_tab (k := .u32) (cs := cs0.toList) (zs := iL.map fun (n : Nat) => (n : Int)) Tryd.underlying137 Tryd.underlying136 cellsE cellsA hd0
  have e1 := Lib.cells_of_tab (k := .u32) (cs := cs1.toList) (zs := kL.map fun (n : Nat) => (n : Int)) Tryd.underlying141 Tryd.underlying136 cellsE cellsB hd1
  have a0 : cs0 = firstCells := by
    have : cs0.toList = firstCells.toList := e0.trans (by kernel_rfl)
    exact Array.toList_inj.1 this
  have a1 : cs1 = roundCells := by
    have : cs1.toList = roundCells.toList := e1.trans (by kernel_rfl)
    exact Array.toList_inj.1 this
  exact ⟨by rw [hv0, a0], by rw [hv1, a1]⟩
theorem door_met (os : Os) (args : Array Value) : laidMetH Tryd.prog Rows.fnExactSameLedgerRow.laid ((World.doorLaid Tryd.prog 19 os).forCall (fun _ _ => 0) ⟨#[], args, []⟩).memory :=
  laidMetH_of_parts3 (fuel := 8) (laidMet_of_run' 8 (by kernel_rfl) (by kernel_rfl)) (by kernel_rfl) (by kernel_rfl)
set_option maxRecDepth 100000 in
theorem lifted (os : Os) (started : os.Started) (H : Type) (enc : TypeId × Value → H) :
    ReturnsInHanded {} Tryd.checked os 7 .any (fun w args => (Rows.fnExactSameLedgerSpec.pre enc Tryd.prog Tryd.f7 [] false w args ∧ laidMetH Tryd.prog Rows.fnExactSameLedgerRow.laid w) ∧ sizedMet enc Tryd.prog Tryd.f7 (OpenSpec.ofChange Rows.fnExactSameLedgerSpec) false w args)
      (Rows.fnExactSameLedgerSpec.post enc Tryd.prog Tryd.f7 false true false false) := by
  refine returnsInHanded_of_change_and (C := Tryd.checked) (X := fun w _ => laidMetH Tryd.prog Rows.fnExactSameLedgerRow.laid w) (fun _ _ _ hh h => h.of_heap hh) own started (by kernel_rfl) Tryd.func7
    (ChangeSpec.witness_shaped (enc := enc) (C := Tryd.checked) (os := os) (X := fun w _ => laidMetH Tryd.prog Rows.fnExactSameLedgerRow.laid w) false (World.doorLaid Tryd.prog 19 os) #[.agg #[.slice none 0 0, .string ByteArray.empty, .string ByteArray.empty, .int .i64 0, .slice none 0 0, .slice none 0 0], .agg #[.slice none 0 0, .string ByteArray.empty, .string ByteArray.empty, .int .i64 0, .slice none 0 0, .slice none 0 0]] 8 rfl (World.shaped_of_RefB (by kernel_rfl) (by kernel_rfl)) (by kernel_rfl) (by kernel_rfl) (by kernel_rfl) (door_met os _)) ?_
  intro W base args ds gs before hval0 hW _ _ hL _
  have hval : ∀ (j : Nat) t v, Tryd.f7.params[j]? = some t → args[j]? = some v → Value.okWide Tryd.prog W .any base t v := hval0
  have hW' := hW
  obtain ⟨p, q, hA0, hV0, rfl, hfz, hnd⟩ := hW
  have hA : DataW.TrodAll enc Tryd.prog W 0 (fun _ => true) true Tryd.f7.params.toList args.toList ds p := hA0
  have hV : DataW.TrodVars enc Tryd.prog W (fun _ => true) ["loop.example/g00220/impl.firstWords", "loop.example/g00220/impl.roundWords"] gs q := hV0
  rw [Tryd.params7] at hA hval
  obtain ⟨v0, vs0, d0, ds0, p0, q0, hargs, rfl, rfl, h0, r0⟩ := trodAll_cons hA
  obtain ⟨v1, vs1, d1, ds1, p1, q1, rfl, rfl, rfl, h1, r1⟩ := trodAll_cons r0
  obtain ⟨rfl, rfl, rfl⟩ := trodAll_nil r1
  obtain rfl : args = #[v0, v1] := by cases args; simp_all
  have k0 := h0
  have lt0 : ∀ x ∈ p0, x.block < W.heap.size := by obtain ⟨m, hm⟩ := k0; exact DataW.trod_lt m _ _ _ hm
  obtain ⟨lv0, ky0, va0, at0, kv0, sv0, ls0, ks0, ss0, rfl, hf0, hz0, hy0, hl0, hs0⟩ := open_ledger (hval 0 38 v0 rfl rfl) h0
  have k1 := h1
  have lt1 : ∀ x ∈ p1, x.block < W.heap.size := by obtain ⟨m, hm⟩ := k1; exact DataW.trod_lt m _ _ _ hm
  obtain ⟨lv1, ky1, va1, at1, kv1, sv1, ls1, ks1, ss1, rfl, hf1, hz1, hy1, hl1, hs1⟩ := open_ledger (hval 1 38 v1 rfl rfl) h1
  obtain ⟨hv1, hv2⟩ := vars_of_laid hL
  clear hA0 hV0 hval0
  refine (walk lv0 ky0 va0 at0 kv0 sv0 ls0 ks0 ss0 lv1 ky1 va1 at1 kv1 sv1 ls1 ks1 ss1 W hf0 hz0 hy0 hl0 hs0 hf1 hz1 hy1 hl1 hs1 (first_of hv1) (table_of hv2)).mono fun e W' ⟨he, bel⟩ => ?_
  subst he
  obtain ⟨rfl, pv, hvs⟩ := vars_again (sp := fun b => decide (b < W.heap.size)) hv1 hv2 hV bel
  exact ⟨_, rfl, _, _, _, [], _, pv, hW', trodAll_mk1 (shut_bool Tryd.underlying4 _), (trodAll_cons_mk (Below.trod laidOut (by kernel_rfl) (of_decide_eq_true (by kernel_rfl)) k0 bel lt0) (trodAll_cons_mk (Below.trod laidOut (by kernel_rfl) (of_decide_eq_true (by kernel_rfl)) k1 bel lt1) trodAll_mk0)), hvs, bel.frame _, fun h => by cases h⟩

theorem said : Rows.FnExactSameLedgerSaid :=
  OpenClaim.holds_of_wide 7 Tryd.f7 rfl rfl rfl rfl rfl rfl rfl ⟨rfl, rfl, rfl, rfl, rfl⟩ rfl rfl rfl rfl rfl (by kernel_rfl) Tryd.func7 (by kernel_rfl)
    (of_decide_eq_true (by kernel_rfl)) (by unfold Func.isWrapper; first | (rw [if_pos (by decide +kernel)]; kernel_rfl) | (rw [if_neg (by decide +kernel)]; exact ⟨rfl, rfl⟩))
    (fun os started H enc _ => lifted os started H enc)

theorem plain (f : FuncId) (fn : Func) (hf : Tryd.pinned.checked.prog.funcNamed "loop.example/g00220/laws.FnExactSameLedger" = some f) (hfn : Tryd.pinned.checked.prog.funcs[f]? = some fn) :
    false = Tryd.pinned.checked.prog.looks [] ∧ ∀ (j : Nat) t, fn.params[j]? = some t → Tryd.pinned.checked.prog.wantsStandIn t = false := by
  obtain rfl : f = 7 := Option.some.inj ((show Tryd.prog.funcNamed "loop.example/g00220/laws.FnExactSameLedger" = some 7 by kernel_rfl).symm.trans hf) |>.symm
  obtain rfl : fn = Tryd.f7 := (Option.some.inj (Tryd.func7.symm.trans hfn)).symm
  refine ⟨by kernel_rfl, fun j t ht => ?_⟩
  rw [Tryd.params7] at ht
  obtain rfl : t = 38 := by
    have := Array.mem_of_getElem? ht
    simpa using this
  exact (show Tryd.prog.wantsStandIn 38 = false by kernel_rfl)
end Go.Proofs.YtgmaappilopgbaaDoor.fnExactSameLedger
namespace Go.Proofs.YtgmaappilopgbaaDoor
theorem fnExactSameLedger_card : Rows.FnExactSameLedgerCardSaid :=
  Claim7.holds_tied_plain_at .later [] _ _ _ _ fnExactSameLedger.said (fun _ h => by cases h) (by kernel_rfl) (fun _ h => by cases h) fnExactSameLedger_row_tie rfl ⟨rfl, rfl⟩ (by kernel_rfl) rfl fnExactSameLedger.plain (by kernel_rfl)
#print axioms fnExactSameLedger_card
end Go.Proofs.YtgmaappilopgbaaDoor
