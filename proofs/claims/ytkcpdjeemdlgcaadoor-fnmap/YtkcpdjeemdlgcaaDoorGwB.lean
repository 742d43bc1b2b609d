/- The specification's l07Get; spec.MapGet. The specification's l07Near, l07Differ, l07New. The specification's l07Size. The laws' marks in branches: markBranchS, markBranch. The specification's l07Own: a branch copied into memory of the call's own. What a slice that can be read holds, put behind a row of the call's own: elements of any number of cells; the slice may be empty, the row too. The specification's l07Drop. The specification's l07Insert. The specification's l07Insert, whole. The specification's l07Put. -/
import Derived.Test.YtkcpdjeemdlgcaaDoorBrV
import Derived.Test.YtkcpdjeemdlgcaaDoorBrC
import Derived.Deep.RegionHeldLaw
import Derived.Deep.RegionLaw
import Derived.Test.YtkcpdjeemdlgcaaDoorGwA
import Derived.Test.YtkcpdjeemdlgcaaDoorSet4
import Derived.Deep.RegionHeld3
import Derived.Test.YtkcpdjeemdlgcaaDoorBrO
import Derived.Test.YtkcpdjeemdlgcaaDoorStr
import Derived.Test.YtkcpdjeemdlgcaaDoorBrBh
import Derived.Test.YtkcpdjeemdlgcaaDoorBrS
import Derived.Deep.AppendLies
import Derived.Test.YtkcpdjeemdlgcaaDoorStrO
import Derived.Maps.AppendAt
import Derived.Deep.Upon
import Derived.Deep.DeepCutAuto
namespace Go.Proofs.YtkcpdjeemdlgcaaDoor.Sha
open Go.ChangeShapes Go.WideShapes Go.ChangeAt Go.RowKit
set_option linter.unusedVariables false
set_option linter.unusedSimpArgs false

/-- The number in the third cell of a block. -/
def atCell2 (X : Nat) (w : World) : Nat := match w.cell? ⟨X, 2, none⟩ with
  | some (.int _ a) => a.toNat
  | _ => 0
theorem atCell2_is {X : Nat} {w : World} {a : Nat} (h : w.cell? ⟨X, 2, none⟩ = some (.int .i64 a)) : atCell2 X w = a := by
  unfold atCell2
  rw [h]
  simp
theorem toBr_at (t : Tr) : t.toBr.at_ = (t.at_ : Int) := by cases t <;> rfl
/-- What l07Get answers. -/
def GetR (o : Option Tr) (key : ByteArray) (w : World) (e : Ending) (w' : World) : Prop := ∃ (k v : ByteArray) (a : Int) (sa : Option Addr) (n cap : Nat) (fb : Bool), e = .returned (.tuple #[.agg #[.string k, .string v, .int .i64 a, .slice sa n cap], .bool fb]) ∧ Below w.heap.size w w' ∧
  match o with
  | none => fb = false
  | some t => v = (leadL (kh key) t).2 ∧ fb = decide ((leadL (kh key) t).1 = key)
--FI
end Go.Proofs.YtkcpdjeemdlgcaaDoor.Sha
namespace Go.Proofs.YtkcpdjeemdlgcaaDoor.Sha
open Go.ChangeShapes Go.WideShapes Go.ChangeAt Go.RowKit
set_option linter.unusedVariables false
set_option linter.unusedSimpArgs false

set_option maxRecDepth 100000 in
set_option maxHeartbeats 4000000 in
theorem l07Near_any (h : ByteArray) (hh : h.size = 32) (t : Tr) (hok : TrOK t) (hri : Rise 0 t) (S : Nat → Prop) (kv : Value) (w : World) (hB : Brs S w kv t.toBr.kids) :
    Calls Tryd.prog 90 #[.agg #[.string t.toBr.key, .string t.toBr.val, .int .i64 t.toBr.at_, kv], .string h] w fun e w' => e = .returned (.string (kh (leadL h t).1)) ∧ Below w.heap.size w w' := by
  obtain ⟨sa, cap, rfl, hcap, hcm⟩ := hB.shape
  have B1 := hide ((Below.refl w.heap.size w).alloc (Nat.le_refl _) (.cells #[.string t.toBr.key, .string t.toBr.val, .int .i64 t.toBr.at_, .slice sa t.toBr.kids.length cap] 27))
  have X1 := hide (Blk.new w #[.string t.toBr.key, .string t.toBr.val, .int .i64 t.toBr.at_, .slice sa t.toBr.kids.length cap] 27 w.heap.size rfl)
  have HKB := hide hB.bound
  have HGR : Hid (∀ x w', Below w.heap.size w w' → x = kh (leadL h t).1 → Ending.returned (.string x) = .returned (.string (kh (leadL h t).1)) ∧ Below w.heap.size w w') := hide (fun x w' hb he => ⟨by rw [he], hb⟩)
  have HOK := hide hok
  have HRI := hide hri
  clear hB hok hri
  go_enter Tryd.func90, Tryd.ntmps90
  go_wp2_with fail
  generalize w.alloc (.cells #[.string t.toBr.key, .string t.toBr.val, .int .i64 t.toBr.at_, .slice sa t.toBr.kids.length cap] 27) = w1 at *
  go_loopw [] (fun wr => ∃ (m : Nat) (t' : Tr) (ka : Option Addr) (kc : Nat), Blk wr w.heap.size [.string t'.toBr.key, .string t'.toBr.val, .int .i64 t'.toBr.at_, .slice ka t'.toBr.kids.length kc] ∧ Brs (fun x => x < w.heap.size) w (.slice ka t'.toBr.kids.length kc) t'.toBr.kids ∧ Rise m t' ∧ TrOK t' ∧ leadL h t' = leadL h t ∧ Below w.heap.size w wr) (fun wr => 256 - atCell2 w.heap.size wr)
  case atStart => exact ⟨0, t, sa, cap, unhide X1, unhide HKB, unhide HRI, unhide HOK, rfl, unhide B1⟩
  case round =>
    clear HKB HRI HOK B1 X1
    obtain ⟨m, t', ka, kc, hX, hKB, hRI, hOK, hL, hbw⟩ := hrel
    obtain ⟨_, _, _, _, hkm⟩ := hKB.shape
    have HLF := hide (fun wx => l07Leaf_any t'.toBr.key t'.toBr.val t'.toBr.at_ ka t'.toBr.kids.length kc wx (by unfold maxLen at hkm ⊢; have := hKB.shape; omega))
    have HX := hide hX
    have x0 := hX.cell 0 rfl
    have x1 := hX.cell 1 rfl
    have x2 := hX.cell 2 rfl
    have x3 := hX.cell 3 rfl
    have HBW := hide hbw
    have HL := hide hL
    have HA := hide (atCell2_is (X := w.heap.size) (w := wr) (a := t'.at_) (by rw [x2, toBr_at]))
    clear hX hbw hL
    cases t' with
    | leaf k v =>
      rw [show decide ((Tr.leaf k v).toBr.kids.length = 0) = true from rfl] at HLF
      dsimp only [Tr.toBr, Br.key, Br.val, Br.at_, Br.kids, List.length_nil] at HLF x0 x1 x2 x3 HX hKB
      have HLL : Hid (kh k = kh (leadL h t).1) := hide (by rw [← unhide HL]; rfl)
      have hk24 := (okK_iff.1 hOK.1).2
      have HHS := hide (fun wx => l07Hash_any k wx (by omega))
      go_wp2_with fail
      refine (unhide HLF wr).mono ?_
      rintro e w4 ⟨rfl, hb4⟩
      have B4 := hide ((unhide HBW).trans (hb4.mono (unhide HBW).size))
      have X4 := hide ((unhide HX).below hb4)
      clear hb4 x0 x1 x2 x3 HX HBW
      have x0 := (unhide X4).cell 0 rfl
      go_wp2_with fail
      refine (unhide HHS w4).mono ?_
      rintro e w5 ⟨rfl, hb5⟩
      have B5 := hide ((unhide B4).trans (hb5.mono (unhide B4).size))
      clear hb5
      generalize kh k = q at *
      go_wp2_with fail
      go_ret
      exact unhide HGR _ _ (unhide B5) (unhide HLL)
    | fork a hv l r =>
      rw [show decide ((Tr.fork a hv l r).toBr.kids.length = 0) = false from rfl] at HLF
      dsimp only [Tr.toBr, Br.key, Br.val, Br.at_, Br.kids] at HLF x0 x1 x2 x3 HX hKB
      rw [show ([l.toBr, r.toBr] : List Br).length = 2 from rfl] at HLF x3 HX hKB
      obtain ⟨r0, r1, r2, r3⟩ := hRI
      obtain ⟨_, _, okl, okr⟩ := hOK
      obtain ⟨bb, off, kvf, rfl, _, hat⟩ := hKB.at (by simp)
      have hbb := hat.lt
      obtain ⟨s00, s01, s02, s03⟩ := hat.cells 0 (by simp)
      obtain ⟨s10, s11, s12, s13⟩ := hat.cells 1 (by simp)
      have K0 := hide (hat.kids 0 (by simp))
      have K1 := hide (hat.kids 1 (by simp))
      simp only [List.getD_cons_zero, List.getD_cons_succ, Nat.zero_mul, Nat.add_zero, Nat.one_mul] at s00 s01 s02 s03 s10 s11 s12 s13 K0 K1
      obtain ⟨ka0, kc0, hkv0, _, _⟩ := (unhide K0).shape
      obtain ⟨ka1, kc1, hkv1, _, _⟩ := (unhide K1).shape
      rw [hkv0] at K0 s03
      rw [hkv1] at K1 s13
      have HLE : Hid (leadL h (.fork a hv l r) = if bitN h a = 0 then leadL h l else leadL h r) := rfl
      have HBT := hide (fun wx => l07Bit_any h a wx hh r1)
      have hA : Hid (atCell2 w.heap.size wr = a) := HA
      clear hKB hat hkv0 hkv1 HA
      go_wp2_with fail
      refine (unhide HLF wr).mono ?_
      rintro e w4 ⟨rfl, hb4⟩
      have B4 := hide ((unhide HBW).trans (hb4.mono (unhide HBW).size))
      have X4 := hide ((unhide HX).below hb4)
      clear hb4 x0 x1 x2 x3 HX HBW
      have x0 := (unhide X4).cell 0 rfl
      have x1 := (unhide X4).cell 1 rfl
      have x2 := (unhide X4).cell 2 rfl
      have x3 := (unhide X4).cell 3 rfl
      have f0 := (unhide X4).fro 0
      have f1 := (unhide X4).fro 1
      have f2 := (unhide X4).fro 2
      have f3 := (unhide X4).fro 3
      have B4d := unhide B4
      have t00 := (B4d.cell (p := ⟨bb, off, none⟩) hbb).trans s00
      have t01 := (B4d.cell (p := ⟨bb, off + 1, none⟩) hbb).trans s01
      have t02 := (B4d.cell (p := ⟨bb, off + 2, none⟩) hbb).trans s02
      have t03 := (B4d.cell (p := ⟨bb, off + 3, none⟩) hbb).trans s03
      have t10 := (B4d.cell (p := ⟨bb, off + 4, none⟩) hbb).trans s10
      have t11 := (B4d.cell (p := ⟨bb, off + 4 + 1, none⟩) hbb).trans s11
      have t12 := (B4d.cell (p := ⟨bb, off + 4 + 2, none⟩) hbb).trans s12
      have t13 := (B4d.cell (p := ⟨bb, off + 4 + 3, none⟩) hbb).trans s13
      clear s00 s01 s02 s03 s10 s11 s12 s13 B4d
      rcases bitN_01 h a with hb | hb
      · rw [hb] at HBT HLE
        rw [if_pos rfl] at HLE
        have XN : Hid (Blk ((((w4.setCell ⟨w.heap.size, 0, none⟩ (.string l.toBr.key)).setCell ⟨w.heap.size, 1, none⟩ (.string l.toBr.val)).setCell ⟨w.heap.size, 2, none⟩ (.int .i64 l.toBr.at_)).setCell ⟨w.heap.size, 3, none⟩ (.slice ka0 l.toBr.kids.length kc0)).drew w.heap.size [.string l.toBr.key, .string l.toBr.val, .int .i64 l.toBr.at_, .slice ka0 l.toBr.kids.length kc0]) := hide ((((((unhide X4).set 0 (.string l.toBr.key) (by simp)).set 1 (.string l.toBr.val) (by simp)).set 2 (.int .i64 l.toBr.at_) (by simp)).set 3 (.slice ka0 l.toBr.kids.length kc0) (by simp)).drewN 1)
        have BN : Hid (Below w.heap.size w ((((w4.setCell ⟨w.heap.size, 0, none⟩ (.string l.toBr.key)).setCell ⟨w.heap.size, 1, none⟩ (.string l.toBr.val)).setCell ⟨w.heap.size, 2, none⟩ (.int .i64 l.toBr.at_)).setCell ⟨w.heap.size, 3, none⟩ (.slice ka0 l.toBr.kids.length kc0)).drew) := hide (((((unhide B4).setCell (p := ⟨w.heap.size, 0, none⟩) (Nat.le_refl _) (.string l.toBr.key)).setCell (p := ⟨w.heap.size, 1, none⟩) (Nat.le_refl _) (.string l.toBr.val)).setCell (p := ⟨w.heap.size, 2, none⟩) (Nat.le_refl _) (.int .i64 l.toBr.at_)).setCell (p := ⟨w.heap.size, 3, none⟩) (Nat.le_refl _) (.slice ka0 l.toBr.kids.length kc0)).drew
        go_wp2_with fail
        go_region_law ((go_simp; go_at_call 60; refine (unhide HBT _).mono ?_; rintro e w9 ⟨rfl, hw9⟩; subst w9; go_simp))
        all_goals
          generalize ((((w4.setCell ⟨w.heap.size, 0, none⟩ (.string l.toBr.key)).setCell ⟨w.heap.size, 1, none⟩ (.string l.toBr.val)).setCell ⟨w.heap.size, 2, none⟩ (.int .i64 l.toBr.at_)).setCell ⟨w.heap.size, 3, none⟩ (.slice ka0 l.toBr.kids.length kc0)).drew = w5 at *
          clear x0 x1 x2 x3 f0 f1 f2 f3 t00 t01 t02 t03 t10 t11 t12 t13
          go_wp2_with fail
          have hat := atCell2_is (X := w.heap.size) (w := w5) (a := l.at_) (by rw [(unhide XN).cell 2 rfl, toBr_at])
          have hle := r2.le
          have hle2 := r2.le256
          refine ⟨⟨a + 1, l, ka0, kc0, unhide XN, unhide K0, r2, okl, by rw [← unhide HL, unhide HLE], unhide BN⟩, ?_⟩
          rw [hat, unhide hA]
          omega
      · rw [hb] at HBT HLE
        rw [if_neg (by omega)] at HLE
        have XN : Hid (Blk ((((w4.setCell ⟨w.heap.size, 0, none⟩ (.string r.toBr.key)).setCell ⟨w.heap.size, 1, none⟩ (.string r.toBr.val)).setCell ⟨w.heap.size, 2, none⟩ (.int .i64 r.toBr.at_)).setCell ⟨w.heap.size, 3, none⟩ (.slice ka1 r.toBr.kids.length kc1)).drew w.heap.size [.string r.toBr.key, .string r.toBr.val, .int .i64 r.toBr.at_, .slice ka1 r.toBr.kids.length kc1]) := hide ((((((unhide X4).set 0 (.string r.toBr.key) (by simp)).set 1 (.string r.toBr.val) (by simp)).set 2 (.int .i64 r.toBr.at_) (by simp)).set 3 (.slice ka1 r.toBr.kids.length kc1) (by simp)).drewN 1)
        have BN : Hid (Below w.heap.size w ((((w4.setCell ⟨w.heap.size, 0, none⟩ (.string r.toBr.key)).setCell ⟨w.heap.size, 1, none⟩ (.string r.toBr.val)).setCell ⟨w.heap.size, 2, none⟩ (.int .i64 r.toBr.at_)).setCell ⟨w.heap.size, 3, none⟩ (.slice ka1 r.toBr.kids.length kc1)).drew) := hide (((((unhide B4).setCell (p := ⟨w.heap.size, 0, none⟩) (Nat.le_refl _) (.string r.toBr.key)).setCell (p := ⟨w.heap.size, 1, none⟩) (Nat.le_refl _) (.string r.toBr.val)).setCell (p := ⟨w.heap.size, 2, none⟩) (Nat.le_refl _) (.int .i64 r.toBr.at_)).setCell (p := ⟨w.heap.size, 3, none⟩) (Nat.le_refl _) (.slice ka1 r.toBr.kids.length kc1)).drew
        go_wp2_with fail
        go_region_law ((go_simp; go_at_call 60; refine (unhide HBT _).mono ?_; rintro e w9 ⟨rfl, hw9⟩; subst w9; go_simp))
        all_goals
          generalize ((((w4.setCell ⟨w.heap.size, 0, none⟩ (.string r.toBr.key)).setCell ⟨w.heap.size, 1, none⟩ (.string r.toBr.val)).setCell ⟨w.heap.size, 2, none⟩ (.int .i64 r.toBr.at_)).setCell ⟨w.heap.size, 3, none⟩ (.slice ka1 r.toBr.kids.length kc1)).drew = w5 at *
          clear x0 x1 x2 x3 f0 f1 f2 f3 t00 t01 t02 t03 t10 t11 t12 t13
          go_wp2_with fail
          have hat := atCell2_is (X := w.heap.size) (w := w5) (a := r.at_) (by rw [(unhide XN).cell 2 rfl, toBr_at])
          have hle := r3.le
          have hle2 := r3.le256
          refine ⟨⟨a + 1, r, ka1, kc1, unhide XN, unhide K1, r3, okr, by rw [← unhide HL, unhide HLE], unhide BN⟩, ?_⟩
          rw [hat, unhide hA]
          omega
set_option maxRecDepth 100000 in
set_option maxHeartbeats 1000000 in
theorem l07Differ_any (x y : ByteArray) (w : World) (hx : x.size = 32) (hy : y.size = 32) :
    Calls Tryd.prog 89 #[.string x, .string y] w fun e w' => e = .returned (.int .i64 (fd x y)) ∧ w' = w := by
  have HF : Hid (fd x y = fdF x y 256 0) := rfl
  have HX := hide (fun i (hi : i < 256) => l07Bit_any x i w hx hi)
  have HY := hide (fun i (hi : i < 256) => l07Bit_any y i w hy hi)
  go_enter Tryd.func89, Tryd.ntmps89
  go_wp2_with fail
  go_loop [5] (fun i => ∃ k : Nat, k ≤ 256 ∧ i = .int .i64 k ∧ fdF x y (256 - k) k = fd x y) (fun i => 256 - (intOf i).toNat)
  case atStart => exact ⟨0, Nat.zero_le _, rfl, rfl⟩
  case round =>
    obtain ⟨k, hk, rfl, hfd⟩ := hrel
    by_cases hlt : k < 256
    · have p1 : (k : Int) < 256 := by omega
      have HXk := hide (unhide HX k hlt)
      have HYk := hide (unhide HY k hlt)
      have HD : Hid (fd x y = if bitN x k = bitN y k then fdF x y (256 - (k + 1)) (k + 1) else k) := hide (by
        rw [← hfd, show 256 - k = (256 - (k + 1)) + 1 by omega]
        rfl)
      clear hfd
      have hx1 := bitN_01 x k
      have hy1 := bitN_01 y k
      by_cases he : bitN x k = bitN y k
      · rw [if_pos he] at HD
        rw [he] at HXk
        generalize bitN y k = q at *
        clear he
        go_wp2_with fail
        refine (unhide HXk).mono ?_
        rintro e w9 ⟨rfl, hw9⟩
        subst w9
        go_wp2_with fail
        refine (unhide HYk).mono ?_
        rintro e w9 ⟨rfl, hw9⟩
        subst w9
        go_wp2_with fail
        go_round
        case rel => exact ⟨k + 1, by omega, by go_num, (unhide HD).symm⟩
        case measure => simp [intOf]; omega
      · rw [if_neg he] at HD
        generalize bitN x k = q1 at *
        generalize bitN y k = q2 at *
        have hne : (q1 != q2) = true := by simpa using he
        go_wp2_with fail
        refine (unhide HXk).mono ?_
        rintro e w9 ⟨rfl, hw9⟩
        subst w9
        go_wp2_with fail
        refine (unhide HYk).mono ?_
        rintro e w9 ⟨rfl, hw9⟩
        subst w9
        go_wp2_with fail
        go_ret
        exact ⟨by rw [unhide HD]; rfl, rfl⟩
    · obtain rfl : k = 256 := by omega
      have HD : Hid (fd x y = 256) := hide hfd.symm
      clear hfd
      go_wp2_with fail
      go_ret
      exact ⟨by rw [unhide HD]; rfl, rfl⟩
set_option maxRecDepth 100000 in
set_option maxHeartbeats 1000000 in
theorem l07New_any (k v : ByteArray) (w : World) :
    Calls Tryd.prog 88 #[.string k, .string v] w fun e w' => e = .returned (.agg #[.string k, .string v, .int .i64 256, .slice none 0 0]) ∧ Below w.heap.size w w' := by
  have R1 := hide (Blk.new w #[.string ⟨#[]⟩, .string ⟨#[]⟩, .int .i64 0, .slice none 0 0] 27 w.heap.size rfl)
  have B1 := hide ((Below.refl w.heap.size w).alloc (Nat.le_refl _) (.cells #[.string ⟨#[]⟩, .string ⟨#[]⟩, .int .i64 0, .slice none 0 0] 27))
  go_enter Tryd.func88, Tryd.ntmps88
  go_upto_region 1 with fail
  generalize w.alloc (.cells #[.string ⟨#[]⟩, .string ⟨#[]⟩, .int .i64 0, .slice none 0 0] 27) = w1 at *
  have r0 := (unhide R1).cell 0 rfl
  have r1 := (unhide R1).cell 1 rfl
  have r2 := (unhide R1).cell 2 rfl
  have r3 := (unhide R1).cell 3 rfl
  have f0 := (unhide R1).fro 0
  have f1 := (unhide R1).fro 1
  have f2 := (unhide R1).fro 2
  have f3 := (unhide R1).fro 3
  have hZ := set4_blk (unhide R1) (.string k) (.string v) (.int .i64 256) (.slice none 0 0)
  have z0 := hZ.cell 0 rfl
  have z1 := hZ.cell 1 rfl
  have z2 := hZ.cell 2 rfl
  have z3 := hZ.cell 3 rfl
  have HT4 := set4_touch w1 w.heap.size (.string k) (.string v) (.int .i64 256) (.slice none 0 0)
  have HBF := hide ((unhide B1).trans (HT4.below (unhide B1).size (fun q hq e => by omega)))
  unfold set4 at z0 z1 z2 z3
  clear hZ HT4
  go_wp2_with fail
  refine bodyPost_ret (v := .agg #[.string k, .string v, .int .i64 256, .slice none 0 0]) (by simp [results, Tryd.results88, go_sem, z0, z1, z2, z3]) rfl ?_
  exact ⟨rfl, unhide HBF⟩
end Go.Proofs.YtkcpdjeemdlgcaaDoor.Sha
namespace Go.Proofs.YtkcpdjeemdlgcaaDoor.Sha
open Go.ChangeShapes Go.WideShapes Go.ChangeAt Go.RowKit
set_option linter.unusedVariables false
set_option linter.unusedSimpArgs false

theorem wrapS (n : Int) (h0 : 0 ≤ n) (h1 : n < 9223372036854775808) : IntKind.i64.wrap n = n := by
  simp only [IntKind.wrap, IntKind.bits, IntKind.signed]
  simp
  omega
set_option maxRecDepth 100000 in
set_option maxHeartbeats 4000000 in
theorem l07Size_any : ∀ (t : Tr), TrOK t → t.lvN ≤ 1000 → ∀ (S : Nat → Prop) (kv : Value) (w : World), Brs S w kv t.toBr.kids →
    Calls Tryd.prog 45 #[.agg #[.string t.toBr.key, .string t.toBr.val, .int .i64 t.toBr.at_, kv]] w fun e w' => e = .returned (.int .i64 t.lvN) ∧ Below w.heap.size w w' := by
  intro t
  induction t with
  | leaf k v =>
    intro hok hsz S kv w hB
    obtain ⟨sa, cap, rfl, _, hcm⟩ := hB.shape
    have HNE := not_empty hok
    have hk := (okK_iff.1 hok.1).2
    have hv : v.size ≤ 60 := hok.2
    dsimp only [Tr.toBr, Br.key, Br.val, Br.at_, Br.kids] at HNE ⊢
    have B0 := hide ((Below.refl w.heap.size w).alloc (Nat.le_refl _) (.cells #[.string k, .string v, .int .i64 256, .slice sa 0 cap] 27))
    have X0 := hide (Blk.new w #[.string k, .string v, .int .i64 256, .slice sa 0 cap] 27 w.heap.size rfl)
    have HE := hide (fun wx => l07Empty_any k v 256 [] sa cap wx (by simp))
    have HLF := hide (fun wx => l07Leaf_any k v 256 sa 0 cap wx (by omega))
    rw [HNE] at HE
    simp only [List.length_nil] at HE
    rw [show decide (0 = 0) = true from rfl] at HLF
    have HV : Hid ((Tr.leaf k v).lvN = 1) := rfl
    clear hB hok HNE
    go_enter Tryd.func45, Tryd.ntmps45
    go_wp2_with fail
    generalize w.alloc (.cells #[.string k, .string v, .int .i64 256, .slice sa 0 cap] 27) = w1 at *
    refine (unhide HE w1).mono ?_
    rintro e w2 ⟨rfl, hb2⟩
    have B2 := hide ((unhide B0).trans (hb2.mono (unhide B0).size))
    have X2 := hide ((unhide X0).below hb2)
    clear hb2
    have x0 := (unhide X2).cell 0 rfl
    have x1 := (unhide X2).cell 1 rfl
    have x2 := (unhide X2).cell 2 rfl
    have x3 := (unhide X2).cell 3 rfl
    go_wp2_with fail
    refine (unhide HLF w2).mono ?_
    rintro e w3 ⟨rfl, hb3⟩
    have B3 := hide ((unhide B2).trans (hb3.mono (unhide B2).size))
    have X3 := hide ((unhide X2).below hb3)
    clear hb3 x0 x1 x2 x3
    have x0 := (unhide X3).cell 0 rfl
    have x1 := (unhide X3).cell 1 rfl
    go_wp2_with fail
    go_ret
    exact ⟨ret_int (by rw [unhide HV]; rfl), unhide B3⟩
  | fork a hh l r ihl ihr =>
    intro hok hsz S kv w hB
    obtain ⟨sa, cap, rfl, _, hcm⟩ := hB.shape
    have HNE := not_empty hok
    obtain ⟨ha, _, okl, okr⟩ := hok
    dsimp only [Tr.toBr, Br.key, Br.val, Br.at_, Br.kids] at HNE hB ⊢
    have B0 := hide ((Below.refl w.heap.size w).alloc (Nat.le_refl _) (.cells #[.string ⟨#[]⟩, .string ⟨#[]⟩, .int .i64 a, .slice sa 2 cap] 27))
    have X0 := hide (Blk.new w #[.string ⟨#[]⟩, .string ⟨#[]⟩, .int .i64 a, .slice sa 2 cap] 27 w.heap.size rfl)
    have HE := hide (fun wx => l07Empty_any ⟨#[]⟩ ⟨#[]⟩ a [l.toBr, r.toBr] sa cap wx (by unfold maxLen; simp))
    have HLF := hide (fun wx => l07Leaf_any ⟨#[]⟩ ⟨#[]⟩ a sa 2 cap wx (by unfold maxLen; omega))
    rw [HNE] at HE
    rw [show decide (2 = 0) = false from rfl] at HLF
    obtain ⟨bb, off, kvf, rfl, _, hat⟩ := hB.at (by simp)
    have hbb := hat.lt
    obtain ⟨s00, s01, s02, s03⟩ := hat.cells 0 (by simp)
    obtain ⟨s10, s11, s12, s13⟩ := hat.cells 1 (by simp)
    have K0 := hide (hat.kids 0 (by simp))
    have K1 := hide (hat.kids 1 (by simp))
    simp only [List.getD_cons_zero, List.getD_cons_succ, Nat.zero_mul, Nat.add_zero, Nat.one_mul] at s00 s01 s02 s03 s10 s11 s12 s13 K0 K1
    obtain ⟨ka0, kc0, hkv0, _, _⟩ := (unhide K0).shape
    obtain ⟨ka1, kc1, hkv1, _, _⟩ := (unhide K1).shape
    rw [hkv0] at K0 s03
    rw [hkv1] at K1 s13
    have hz2 : l.lvN + r.lvN ≤ 1000 := hsz
    have hz0 : l.lvN ≤ 1000 := by omega
    have hz1 : r.lvN ≤ 1000 := by omega
    have HL := hide (fun wx (hx : Below w.heap.size w wx) => ihl okl hz0 S _ wx ((unhide K0).blw hx))
    have HR := hide (fun wx (hx : Below w.heap.size w wx) => ihr okr hz1 S _ wx ((unhide K1).blw hx))
    have HV : Hid ((Tr.fork a hh l r).lvN = l.lvN + r.lvN) := rfl
    clear hB hat hkv0 hkv1 K0 K1 ihl ihr HNE
    generalize l.toBr = b0 at *
    generalize r.toBr = b1 at *
    generalize l.lvN = rl at *
    generalize r.lvN = rr at *
    simp only [List.length_cons, List.length_nil] at HE
    go_enter Tryd.func45, Tryd.ntmps45
    go_wp2_with fail
    generalize w.alloc (.cells #[.string ⟨#[]⟩, .string ⟨#[]⟩, .int .i64 a, .slice (some ⟨bb, off, none⟩) 2 cap] 27) = w1 at *
    refine (unhide HE w1).mono ?_
    rintro e w2 ⟨rfl, hb2⟩
    have B2 := hide ((unhide B0).trans (hb2.mono (unhide B0).size))
    have X2 := hide ((unhide X0).below hb2)
    clear hb2
    have x0 := (unhide X2).cell 0 rfl
    have x1 := (unhide X2).cell 1 rfl
    have x2 := (unhide X2).cell 2 rfl
    have x3 := (unhide X2).cell 3 rfl
    go_wp2_with fail
    refine (unhide HLF w2).mono ?_
    rintro e w3 ⟨rfl, hb3⟩
    have B3 := hide ((unhide B2).trans (hb3.mono (unhide B2).size))
    have X3 := hide ((unhide X2).below hb3)
    clear hb3 x0 x1 x2 x3
    have hX := (unhide X3).1
    have hw3 := (unhide B3).size
    have HSX : Hid (∀ wx, Below w3.heap.size w3 wx → wx.cell? ⟨w.heap.size, 3, none⟩ = some (.slice (some ⟨bb, off, none⟩) 2 cap) ∧ wx.cell? ⟨bb, off, none⟩ = some (.string b0.key) ∧ wx.cell? ⟨bb, off + 1, none⟩ = some (.string b0.val) ∧ wx.cell? ⟨bb, off + 2, none⟩ = some (.int .i64 b0.at_) ∧ wx.cell? ⟨bb, off + 3, none⟩ = some (.slice ka0 b0.kids.length kc0) ∧ wx.cell? ⟨bb, off + 4, none⟩ = some (.string b1.key) ∧ wx.cell? ⟨bb, off + 4 + 1, none⟩ = some (.string b1.val) ∧ wx.cell? ⟨bb, off + 4 + 2, none⟩ = some (.int .i64 b1.at_) ∧ wx.cell? ⟨bb, off + 4 + 3, none⟩ = some (.slice ka1 b1.kids.length kc1)) := hide (fun wx hb => by
      have hb' := (unhide B3).trans (hb.mono hw3)
      have X := (unhide X3).below hb
      exact ⟨X.cell 3 rfl, (hb'.cell (p := ⟨bb, off, none⟩) hbb).trans s00, (hb'.cell (p := ⟨bb, off + 1, none⟩) hbb).trans s01, (hb'.cell (p := ⟨bb, off + 2, none⟩) hbb).trans s02, (hb'.cell (p := ⟨bb, off + 3, none⟩) hbb).trans s03, (hb'.cell (p := ⟨bb, off + 4, none⟩) hbb).trans s10, (hb'.cell (p := ⟨bb, off + 4 + 1, none⟩) hbb).trans s11, (hb'.cell (p := ⟨bb, off + 4 + 2, none⟩) hbb).trans s12, (hb'.cell (p := ⟨bb, off + 4 + 3, none⟩) hbb).trans s13⟩)
    obtain ⟨y3, t00, t01, t02, t03, t10, t11, t12, t13⟩ := unhide HSX w3 (Below.refl _ _)
    clear s00 s01 s02 s03 s10 s11 s12 s13
    go_wp2_with fail
    go_region_held3 (fun wx => wx.cell? ⟨w.heap.size, 3, none⟩ = some (.slice (some ⟨bb, off, none⟩) 2 cap) ∧ wx.cell? ⟨bb, off, none⟩ = some (.string b0.key) ∧ wx.cell? ⟨bb, off + 1, none⟩ = some (.string b0.val) ∧ wx.cell? ⟨bb, off + 2, none⟩ = some (.int .i64 b0.at_) ∧ wx.cell? ⟨bb, off + 3, none⟩ = some (.slice ka0 b0.kids.length kc0) ∧ wx.cell? ⟨bb, off + 4, none⟩ = some (.string b1.key) ∧ wx.cell? ⟨bb, off + 4 + 1, none⟩ = some (.string b1.val) ∧ wx.cell? ⟨bb, off + 4 + 2, none⟩ = some (.int .i64 b1.at_) ∧ wx.cell? ⟨bb, off + 4 + 3, none⟩ = some (.slice ka1 b1.kids.length kc1)) (first | go_keep | exact unhide HSX _ hc2 | exact unhide HSX _ hc1) (first
      | (go_at_call 45; refine (unhide HR _ ((unhide B3).trans (hc1.mono hw3))).mono ?_; rintro e w5 ⟨rfl, hb5⟩; have hc2 := hc1.trans (hb5.mono hc1.size))
      | (go_at_call 45; refine (unhide HL _ ((unhide B3).trans (((Below.refl _ w3).drew).mono hw3))).mono ?_; rintro e w4 ⟨rfl, hb4⟩; have hc1 : Below w3.heap.size w3 w4 := ((Below.refl _ w3).drew).trans hb4))
    have K := hide ((unhide B3).trans (hc2.mono hw3))
    clear hb4 hb5 hc1 hc2 y3 t00 t01 t02 t03 t10 t11 t12 t13
    go_wp2_with fail
    go_ret
    refine ⟨ret_int ?_, unhide K⟩
    rw [unhide HV, wrapS _ (by omega) (by omega)]
    omega
end Go.Proofs.YtkcpdjeemdlgcaaDoor.Sha
namespace Go.Proofs.YtkcpdjeemdlgcaaDoor.Sha
open Go.ChangeShapes Go.WideShapes Go.ChangeAt Go.RowKit
set_option linter.unusedVariables false
set_option linter.unusedSimpArgs false

theorem mtxR_size : ∀ (n k : Nat), k ≤ n → ∀ out : ByteArray, (mtxR k out).size ≤ out.size + k := by
  intro n
  induction n with
  | zero =>
    intro k hk out
    obtain rfl : k = 0 := by omega
    rw [mtxR, dif_pos rfl]; omega
  | succ n ih =>
    intro k hk out
    by_cases h : k = 0
    · rw [mtxR, dif_pos h]; omega
    · rw [mtxR, dif_neg h]
      have := ih (k / 10) (by omega) (strOfNums [48 + ((k % 10 : Nat) : Int)] ++ out)
      rw [ByteArray.size_append, strOfNums_size, List.length_cons, List.length_nil] at this
      omega
theorem mtx_size (k : Nat) : (mtx k).size ≤ 1 + k := by
  unfold mtx
  rw [ByteArray.size_append, strOfNums_size]
  have := mtxR_size k k (Nat.le_refl _) (strOfNums [])
  rw [strOfNums_size] at this
  simp at this ⊢
  omega
mutual
/-- How many branches there are. -/
def Br.cnt : Br → Nat
  | .mk _ _ _ l => 1 + cntL l
def cntL : List Br → Nat
  | [] => 0
  | b :: r => Br.cnt b + cntL r
end
mutual
/-- Branches, marked from a number on. -/
def markB (k : Nat) : Br → Br
  | .mk _ _ _ l => .mk (mtx k) (mtx (k + 1)) ((k + 2 : Nat) : Int) (markL (k + 3) l)
def markL (k : Nat) : List Br → List Br
  | [] => []
  | b :: r => markB k b :: markL (k + 3 * Br.cnt b) r
end
theorem cntL_cons (b : Br) (r : List Br) : cntL (b :: r) = b.cnt + cntL r := by conv => lhs; unfold cntL
theorem Br.cnt_eq (b : Br) : b.cnt = 1 + cntL b.kids := by cases b; unfold Br.cnt; rfl
theorem markB_key (k : Nat) (b : Br) : (markB k b).key = mtx k ∧ (markB k b).val = mtx (k + 1) ∧ (markB k b).at_ = ((k + 2 : Nat) : Int) ∧ (markB k b).kids = markL (k + 3) b.kids := by
  cases b; unfold markB; exact ⟨rfl, rfl, rfl, rfl⟩
theorem markL_len : ∀ (k : Nat) (l : List Br), (markL k l).length = l.length
  | k, [] => by unfold markL; rfl
  | k, b :: r => by unfold markL; simp [markL_len _ r]
theorem markL_get : ∀ (l : List Br) (k i : Nat), i < l.length → (markL k l).getD i default = markB (k + 3 * cntL (l.take i)) (l.getD i default)
  | [], k, i, h => by simp at h
  | b :: r, k, 0, h => by unfold markL; simp [cntL]
  | b :: r, k, i + 1, h => by
    have := markL_get r (k + 3 * b.cnt) i (by simpa using h)
    unfold markL
    simp only [List.getD_cons_succ, List.take_succ_cons]
    rw [this, cntL_cons]
    congr 1
    omega
theorem cnt_take : ∀ (l : List Br) (i : Nat), i < l.length → cntL (l.take (i + 1)) = cntL (l.take i) + (l.getD i default).cnt
  | [], i, h => by simp at h
  | b :: r, 0, h => by simp [cntL]
  | b :: r, i + 1, h => by
    have := cnt_take r i (by simpa using h)
    simp only [List.take_succ_cons, List.getD_cons_succ]
    rw [cntL_cons, cntL_cons, this]
    omega
theorem cnt_take_le : ∀ (l : List Br) (i : Nat), cntL (l.take i) ≤ cntL l
  | [], i => by simp
  | b :: r, 0 => by simp [cntL]
  | b :: r, i + 1 => by
    have := cnt_take_le r i
    simp only [List.take_succ_cons]
    rw [cntL_cons, cntL_cons]
    omega
mutual
theorem Br.cnt_wt : ∀ b : Br, (b.cnt : Int) ≤ 1 + b.wt
  | .mk k v _ l => by unfold Br.cnt Br.wt; have := cntL_wt l; omega
theorem cntL_wt : ∀ l : List Br, (cntL l : Int) ≤ wtL l
  | [] => by unfold cntL wtL; omega
  | b :: r => by unfold cntL wtL; have := Br.cnt_wt b; have := cntL_wt r; omega
end
end Go.Proofs.YtkcpdjeemdlgcaaDoor.Sha
namespace Go.Proofs.YtkcpdjeemdlgcaaDoor.Sha
open Go.ChangeShapes Go.WideShapes Go.ChangeAt Go.RowKit
set_option linter.unusedVariables false
set_option linter.unusedSimpArgs false

/-- The copy that grows: the argument's box X, the result's R, the copy's O; the row of kids, and each kid's slices. -/
structure Ow (X R O : Nat) (w wr : World) (ax : List Value) (k v : ByteArray) (a : Int) (l : List Br) (j : Nat) (sv : Value) (xs : List Value) (kvf : Nat → Value) (Si : Nat → Nat → Prop) : Prop where
  x : Blk wr X ax
  r : Blk wr R [.string ⟨#[]⟩, .string ⟨#[]⟩, .int .i64 0, .slice none 0 0]
  o : Blk wr O [.string k, .string v, .int .i64 a, sv]
  own : wr.ownsRow (O + 1) 27 4 sv j xs
  row : RowIs xs l kvf j
  kid : ∀ i, i < j → BrO wr (Si i) (kvf i) (l.getD i default).kids
  sep : ∀ i b, i < j → Si i b → O < b ∧ b < wr.heap.size ∧ sv.ownBlock ≠ some b
  dis : ∀ i i' b, i < i' → i' < j → Si i b → ¬ Si i' b
  b : Below X w wr
  s0 : X < R
  s1 : R < O
variable {X R O : Nat} {w wr : World} {ax : List Value} {k v : ByteArray} {a : Int} {l : List Br} {j : Nat} {sv : Value} {xs : List Value} {kvf : Nat → Value} {Si : Nat → Nat → Prop}
theorem Ow.below {wx : World} (h : Ow X R O w wr ax k v a l j sv xs kvf Si) (hb : Below wr.heap.size wr wx) : Ow X R O w wx ax k v a l j sv xs kvf Si :=
  ⟨h.x.below hb, h.r.below hb, h.o.below hb, own_kept (T := fun _ => False) h.own (Touch.ofBelow hb) (fun _ _ h => h), h.row, fun i hi => (h.kid i hi).blw hb, fun i b hi hs => ⟨(h.sep i b hi hs).1, Nat.lt_of_lt_of_le (h.sep i b hi hs).2.1 hb.size, (h.sep i b hi hs).2.2⟩, h.dis, h.b.trans (hb.mono (Nat.le_of_lt h.x.1)), h.s0, h.s1⟩
theorem Ow.push {w6 w7 : World} {Sk : Nat → Prop} {ks : Value} {m : Nat} (h : Ow X R O w w6 ax k v a l j sv xs kvf Si) (ob : Obj) {gg cg : Nat}
    (hk : BrO w6 Sk ks (l.getD j default).kids) (hS : ∀ b, Sk b → m ≤ b ∧ b < w6.heap.size) (hm : O < m) (hSi : ∀ i b, i < j → Si i b → b < m) (hso : ∀ b, sv.ownBlock = some b → b < m)
    (hown : w7.ownsRow (O + 1) 27 4 (.slice (some ⟨gg, 0, none⟩) (j + 1) cg) (j + 1) (xs ++ [.string (l.getD j default).key, .string (l.getD j default).val, .int .i64 (l.getD j default).at_, ks]))
    (hgrow : (w6.alloc ob).grownBy w7 sv.ownBlock) (hat : sv.ownBlock = some gg ∨ gg = w6.heap.size + 1) :
    Blk w7 O [.string k, .string v, .int .i64 a, sv] ∧ Ow X R O w (w7.setCell ⟨O, 3, none⟩ (.slice (some ⟨gg, 0, none⟩) (j + 1) cg)) ax k v a l (j + 1) (.slice (some ⟨gg, 0, none⟩) (j + 1) cg) (xs ++ [.string (l.getD j default).key, .string (l.getD j default).val, .int .i64 (l.getD j default).at_, ks]) (fun i => if i = j then ks else kvf i) (fun i => if i = j then Sk else Si i) := by
  have t1 : Touch (fun q => sv.ownBlock = some q) w6 w7 := ((Touch.refl (fun q => sv.ownBlock = some q) w6).alloc ob).grown hgrow (fun q hq _ => hq)
  have hlt := fun q (hq : sv.ownBlock = some q) => World.ownsRow.lt h.own q hq
  have o7 : Blk w7 O [.string k, .string v, .int .i64 a, sv] := h.o.kept t1 (fun e => by have := (hlt O e).1; omega)
  have t2 : Touch (fun q => sv.ownBlock = some q ∨ q = O) w6 (w7.setCell ⟨O, 3, none⟩ (.slice (some ⟨gg, 0, none⟩) (j + 1) cg)) :=
    (((Touch.refl (fun q => sv.ownBlock = some q ∨ q = O) w6).trans t1 (fun _ _ h => .inl h))).setCell ⟨O, 3, none⟩ _ (fun _ => .inr rfl)
  have h0 := h.s0
  have h1 := h.s1
  have hO := h.o.1
  have hxl : xs.length = j * 4 := h.own.1
  have hgO : gg ≠ O := by
    rcases hat with e | e
    · have := (hlt gg e).1; omega
    · omega
  have hsz := t2.size
  refine ⟨o7, ?_⟩
  refine ⟨h.x.kept t2 (fun e => ?_), h.r.kept t2 (fun e => ?_), o7.set 3 _ (by simp), ?_, ?_, ?_, ?_, ?_, h.b.trans (t2.below (Nat.le_of_lt h.x.1) (fun q hq e => ?_)), h0, h1⟩
  · rcases e with e | e
    · have := (hlt X e).1; omega
    · omega
  · rcases e with e | e
    · have := (hlt R e).1; omega
    · omega
  · exact own_kept (T := fun q => q = O) hown ((Touch.refl (fun q => q = O) w7).setCell ⟨O, 3, none⟩ _ (fun _ => rfl)) (fun q hq e => by
      have e2 : gg = q := by simpa [Value.ownBlock] using hq
      omega)
  · intro i hi
    by_cases e : i = j
    · subst e
      dsimp only
      rw [if_pos rfl]
      refine ⟨?_, ?_, ?_, ?_⟩ <;> rw [List.getElem?_append_right (by omega), hxl]
      · rw [show i * 4 - i * 4 = 0 by omega]; rfl
      · rw [show i * 4 + 1 - i * 4 = 1 by omega]; rfl
      · rw [show i * 4 + 2 - i * 4 = 2 by omega]; rfl
      · rw [show i * 4 + 3 - i * 4 = 3 by omega]; rfl
    · dsimp only
      rw [if_neg e]
      obtain ⟨e0, e1, e2, e3⟩ := h.row i (by omega)
      rw [List.getElem?_append_left (by omega), List.getElem?_append_left (by omega), List.getElem?_append_left (by omega), List.getElem?_append_left (by omega)]
      exact ⟨e0, e1, e2, e3⟩
  · intro i hi
    by_cases e : i = j
    · subst e
      rw [if_pos rfl, if_pos rfl]
      exact hk.touch t2 (fun b hb e => by
        rcases e with e | e
        · have := hso b e; have := (hS b hb).1; omega
        · have := (hS b hb).1; omega)
    · rw [if_neg e, if_neg e]
      exact (h.kid i (by omega)).touch t2 (fun b hb e => by
        rcases e with e | e
        · exact (h.sep i b (by omega) hb).2.2 e
        · have := (h.sep i b (by omega) hb).1; omega)
  · intro i b hi hb
    by_cases e : i = j
    · subst e
      rw [if_pos rfl] at hb
      have hb2 := hS b hb
      refine ⟨by omega, by omega, fun e2 => ?_⟩
      have e3 : gg = b := by simpa [Value.ownBlock] using e2
      rcases hat with e | e
      · have := hso gg e; omega
      · omega
    · rw [if_neg e] at hb
      have hb2 := h.sep i b (by omega) hb
      refine ⟨hb2.1, by omega, fun e2 => ?_⟩
      have e3 : gg = b := by simpa [Value.ownBlock] using e2
      rcases hat with e | e
      · exact hb2.2.2 (by rw [e, e3])
      · omega
  · intro i i' b hii hi' hb hb2
    by_cases e : i' = j
    · subst e
      rw [if_pos rfl] at hb2
      rw [if_neg (by omega)] at hb
      have := hSi i b (by omega) hb
      have := (hS b hb2).1
      omega
    · rw [if_neg e] at hb2
      rw [if_neg (by omega)] at hb
      exact h.dis i i' b hii (by omega) hb hb2
  · rcases e with e | e
    · have := (hlt q e).1; omega
    · omega
theorem Ow.shape (h : Ow X R O w wr ax k v a l j sv xs kvf Si) : ∃ ga gc, sv = .slice ga j gc := by
  rcases h.own.2 with ⟨rfl, h0⟩ | ⟨g, cap, cur, rfl, _⟩
  · exact ⟨none, 0, by rw [h0]⟩
  · exact ⟨_, _, rfl⟩
theorem Ow.fin {n : Nat} {ga : Option Addr} {gc : Nat} (h : Ow w.heap.size R O w wr ax k v a l l.length (.slice ga l.length gc) xs kvf Si) (hs : ∀ i, i < l.length → (l.getD i default).key.size ≤ maxLen ∧ (l.getD i default).val.size ≤ maxLen) :
    Blk (set4 wr R (.string k) (.string v) (.int .i64 a) (.slice ga l.length gc)) R [.string k, .string v, .int .i64 a, .slice ga l.length gc] ∧
    BrO (set4 wr R (.string k) (.string v) (.int .i64 a) (.slice ga l.length gc)) (fun x => w.heap.size ≤ x ∧ x < (set4 wr R (.string k) (.string v) (.int .i64 a) (.slice ga l.length gc)).heap.size) (.slice ga l.length gc) l ∧
    Below w.heap.size w (set4 wr R (.string k) (.string v) (.int .i64 a) (.slice ga l.length gc)) := by
  have ht := set4_touch wr R (.string k) (.string v) (.int .i64 a) (.slice ga l.length gc)
  have hts := ht.size
  have h0 := h.s0
  have h1 := h.s1
  refine ⟨set4_blk h.r _ _ _ _, ?_, h.b.trans (ht.below h.b.size (fun q hq e => by omega))⟩
  have hO : BrO wr (fun x => w.heap.size ≤ x ∧ x < wr.heap.size ∧ x ≠ R) (.slice ga l.length gc) l := by
    rcases h.own.2 with ⟨e, h0⟩ | ⟨g, cap, cur, e, hg, r⟩
    · obtain rfl := List.eq_nil_of_length_eq_zero h0
      cases e
      exact .nil _ _ _ (by unfold maxLen; omega)
    · have hlt := World.ownsRow.lt h.own
      cases e
      by_cases hl : l.length = 0
      · obtain rfl := List.eq_nil_of_length_eq_zero hl
        exact .nil _ _ _ r.2.2.1
      have hgl := hlt g rfl
      refine BrO.row _ g gc l kvf xs Si (by omega) ⟨by omega, by omega, by omega⟩ (World.ownsRow.mono h.own (Nat.zero_le _)) h.row hs ?_ h.dis h.kid
      intro i b hi hb
      have h3 := h.sep i b hi hb
      exact ⟨⟨by omega, by omega, by omega⟩, fun e => h3.2.2 (by rw [e]; rfl)⟩
  exact (hO.touch ht (fun q hq e => hq.2.2 e)).mono (fun q hq => ⟨hq.1, by omega⟩)
theorem cnt_len : ∀ l : List Br, l.length ≤ cntL l
  | [] => by simp
  | b :: r => by
    have := cnt_len r
    have := Br.cnt_eq b
    rw [cntL_cons, List.length_cons]
    omega
theorem cnt_kid (l : List Br) (j : Nat) (hj : j < l.length) : cntL (l.getD j default).kids ≤ cntL l := by
  have h1 := cnt_take l j hj
  have h2 := cnt_take_le l (j + 1)
  have h3 := Br.cnt_eq (l.getD j default)
  omega
theorem br_eta (b : Br) : Br.mk b.key b.val b.at_ b.kids = b := by cases b; rfl
set_option maxRecDepth 100000 in
set_option maxHeartbeats 4000000 in
theorem l07Own_any {S : Nat → Prop} {w0 : World} {u : Value} {l : List Br} (h : Brs S w0 u l) : ∀ (k v : ByteArray) (a : Int) (w : World), cntL l ≤ 1048576 → Below w0.heap.size w0 w →
    Calls Tryd.prog 46 #[.agg #[.string k, .string v, .int .i64 a, u]] w fun e w' => BranchR (.mk k v a l) w e w' := by
  obtain ⟨i0, hi, hz0, hz1, hz2⟩ := info_parts infoBr
  induction h with
  | nil sa cap hc =>
    intro k v a w hcn hb0
    have HGR : Hid (∀ sa n cap w', BrO w' (fun x => w.heap.size ≤ x ∧ x < w'.heap.size) (.slice sa n cap) [] → Below w.heap.size w w' → BranchR (.mk k v a []) w (.returned (.agg #[.string k, .string v, .int .i64 a, .slice sa n cap])) w') := hide (fun sa n cap w' h1 hb => ⟨sa, n, cap, rfl, h1, hb⟩)
    have G1 : Hid (Ow w.heap.size (w.heap.size + 1) (w.heap.size + 1 + 1) w (((w.alloc (.cells #[.string k, .string v, .int .i64 a, .slice sa 0 cap] 27)).alloc (.cells #[.string ⟨#[]⟩, .string ⟨#[]⟩, .int .i64 0, .slice none 0 0] 27)).alloc (.cells #[.string k, .string v, .int .i64 a, .slice none 0 0] 27)) [.string k, .string v, .int .i64 a, .slice sa 0 cap] k v a [] 0 (.slice none 0 0) [] (fun _ => undef) (fun _ _ => False)) := hide
      ⟨((Blk.new w _ _ w.heap.size rfl).alloc _).alloc _, (Blk.new _ _ _ (w.heap.size + 1) (by simp)).alloc _, Blk.new _ _ _ (w.heap.size + 1 + 1) (by simp), World.ownsRow_nil _ _ _ _, fun i hi => absurd hi (by omega), fun i hi => absurd hi (by omega), fun i b hi => absurd hi (by omega), fun i i' b h1 h2 => absurd h2 (by omega), (((Below.refl _ _).alloc (Nat.le_refl _) _).alloc (by simp) _).alloc (by simp; omega) _, by omega, by omega⟩
    clear hb0
    go_enter Tryd.func46, Tryd.ntmps46
    go_wp2_with fail
    generalize ((w.alloc (.cells #[.string k, .string v, .int .i64 a, .slice sa 0 cap] 27)).alloc (.cells #[.string ⟨#[]⟩, .string ⟨#[]⟩, .int .i64 0, .slice none 0 0] 27)).alloc (.cells #[.string k, .string v, .int .i64 a, .slice none 0 0] 27) = w1 at *
    generalize w.heap.size + 1 + 1 = O at *
    generalize w.heap.size + 1 = R at *
    go_loopw [4] (fun i wr => i = .int .i64 0 ∧ wr = w1) (fun _ _ => 0)
    case atStart => exact ⟨rfl, rfl⟩
    case round =>
      obtain ⟨rfl, hwr⟩ := hrel
      subst wr
      have hE := Ow.fin (n := 0) (l := []) (unhide G1) (fun i hi => absurd hi (by simp))
      have x3 := (unhide G1).x.cell 3 rfl
      have o0 := (unhide G1).o.cell 0 rfl
      have o1 := (unhide G1).o.cell 1 rfl
      have o2 := (unhide G1).o.cell 2 rfl
      have o3 := (unhide G1).o.cell 3 rfl
      have r0 := (unhide G1).r.cell 0 rfl
      have r1 := (unhide G1).r.cell 1 rfl
      have r2 := (unhide G1).r.cell 2 rfl
      have r3 := (unhide G1).r.cell 3 rfl
      have f0 := (unhide G1).r.fro 0
      have f1 := (unhide G1).r.fro 1
      have f2 := (unhide G1).r.fro 2
      have f3 := (unhide G1).r.fro 3
      have z0 := hE.1.cell 0 rfl
      have z1 := hE.1.cell 1 rfl
      have z2 := hE.1.cell 2 rfl
      have z3 := hE.1.cell 3 rfl
      have HE := hide hE
      unfold set4 at z0 z1 z2 z3
      simp only [List.length_nil] at z0 z1 z2 z3
      clear hE
      go_wp2_with fail
      refine bodyPost_ret (v := .agg #[.string k, .string v, .int .i64 a, .slice none 0 0]) (by simp [results, Tryd.results46, go_sem, z0, z1, z2, z3]) rfl ?_
      exact unhide HGR _ _ _ _ (unhide HE).2.1 (unhide HE).2.2
  | row b off cap l kv p0 p1 p2 p3 p4 p5 p6 p7 ih =>
    intro k v a w hcn hb0
    have HC := hide (BrAt.mk p3 p4 p5 p6 p7 : BrAt S w0 b off l kv)
    have HI := hide ih
    have HB0 := hide hb0
    have HSM := hide p6
    have hlm : l.length ≤ 9223372036854775807 := by unfold maxLen at p2; omega
    have hlm2 : l.length ≤ maxLen := by omega
    have hlen := cnt_len l
    have HCK := hide (fun i hi => cnt_kid l i hi)
    have HGR : Hid (∀ sa n cap w', BrO w' (fun x => w.heap.size ≤ x ∧ x < w'.heap.size) (.slice sa n cap) l → Below w.heap.size w w' → BranchR (.mk k v a l) w (.returned (.agg #[.string k, .string v, .int .i64 a, .slice sa n cap])) w') := hide (fun sa n cap w' h1 hb => ⟨sa, n, cap, rfl, h1, hb⟩)
    have G1 : Hid (Ow w.heap.size (w.heap.size + 1) (w.heap.size + 1 + 1) w (((w.alloc (.cells #[.string k, .string v, .int .i64 a, .slice (some ⟨b, off, none⟩) l.length cap] 27)).alloc (.cells #[.string ⟨#[]⟩, .string ⟨#[]⟩, .int .i64 0, .slice none 0 0] 27)).alloc (.cells #[.string k, .string v, .int .i64 a, .slice none 0 0] 27)) [.string k, .string v, .int .i64 a, .slice (some ⟨b, off, none⟩) l.length cap] k v a l 0 (.slice none 0 0) [] (fun _ => undef) (fun _ _ => False)) := hide
      ⟨((Blk.new w _ _ w.heap.size rfl).alloc _).alloc _, (Blk.new _ _ _ (w.heap.size + 1) (by simp)).alloc _, Blk.new _ _ _ (w.heap.size + 1 + 1) (by simp), World.ownsRow_nil _ _ _ _, fun i hi => absurd hi (by omega), fun i hi => absurd hi (by omega), fun i b hi => absurd hi (by omega), fun i i' b h1 h2 => absurd h2 (by omega), (((Below.refl _ _).alloc (Nat.le_refl _) _).alloc (by simp) _).alloc (by simp; omega) _, by omega, by omega⟩
    clear p3 p4 p5 p6 p7 ih hb0 p1 p2
    go_enter Tryd.func46, Tryd.ntmps46
    go_wp2_with fail
    generalize ((w.alloc (.cells #[.string k, .string v, .int .i64 a, .slice (some ⟨b, off, none⟩) l.length cap] 27)).alloc (.cells #[.string ⟨#[]⟩, .string ⟨#[]⟩, .int .i64 0, .slice none 0 0] 27)).alloc (.cells #[.string k, .string v, .int .i64 a, .slice none 0 0] 27) = w1 at *
    generalize w.heap.size + 1 + 1 = O at *
    generalize w.heap.size + 1 = R at *
    go_loopw [4] (fun i wr => ∃ (j : Nat) (sv : Value) (xs : List Value) (kvf : Nat → Value) (Si : Nat → Nat → Prop), j ≤ l.length ∧ i = .int .i64 j ∧ Ow w.heap.size R O w wr [.string k, .string v, .int .i64 a, .slice (some ⟨b, off, none⟩) l.length cap] k v a l j sv xs kvf Si) (fun i _ => l.length - (intOf i).toNat)
    case atStart => exact ⟨0, _, _, _, _, Nat.zero_le _, rfl, unhide G1⟩
    case round =>
      obtain ⟨j, sv, xs, kvf, Si, hj, rfl, hG⟩ := hrel
      obtain ⟨ga, gc, rfl⟩ := hG.shape
      by_cases hlt : j < l.length
      · obtain ⟨s0, s1, s2, s3⟩ := (unhide HC).cells j hlt
        have hbl := (unhide HC).lt
        have hbw := (unhide HB0).trans (hG.b.mono (unhide HB0).size)
        have c0 := (hbw.cell (p := ⟨b, off + j * 4, none⟩) hbl).trans s0
        have c1 := (hbw.cell (p := ⟨b, off + j * 4 + 1, none⟩) hbl).trans s1
        have c2 := (hbw.cell (p := ⟨b, off + j * 4 + 2, none⟩) hbl).trans s2
        have c3 := (hbw.cell (p := ⟨b, off + j * 4 + 3, none⟩) hbl).trans s3
        obtain ⟨ka, kc, hkv, _, _⟩ := ((unhide HC).kids j hlt).shape
        have x3 := hG.x.cell 3 rfl
        have o3 := hG.o.cell 3 rfl
        have hO1 := hG.o.1
        have HRT := hide (unhide HI j hlt (l.getD j default).key (l.getD j default).val (l.getD j default).at_ wr.drew (by have := unhide HCK j hlt; omega) (below_drewN hbw 1))
        rw [br_eta, hkv] at HRT
        rw [hkv] at c3
        have HGB := hide (fun wx (hx : Below wr.heap.size wr wx) => hG.below hx)
        have HSI := hide (fun i b hi hb => (hG.sep i b hi hb).2.1)
        have HSO := hide (fun b hb => (World.ownsRow.lt hG.own b hb).2)
        have hxl : xs.length = j * 4 := hG.own.1
        have k0 : (0 : Int) ≤ (j : Int) := by omega
        have k1 : (j : Int) < (l.length : Int) := by omega
        have hj2 : j + 1 ≤ maxLen := by omega
        clear s0 s1 s2 s3 hbw hG hkv
        obtain ⟨kb, hkb⟩ : ∃ kb, kb = l.getD j default := ⟨_, rfl⟩
        rw [← hkb] at c0 c1 c2 c3 HRT
        have HKB := hide hkb
        clear hkb
        go_wp2_with fail
        go_region_law (first
          | (go_simp; go_at_call 46; refine (unhide HRT).mono ?_; rintro e w6 ⟨s1, n1, e1, rfl, hO6, hb6⟩; have hb6' : Below wr.heap.size wr w6 := (below_drewN (Below.refl _ wr) 1).trans hb6; have G6 := unhide HGB w6 hb6'; have k3 := G6.o.cell 3 rfl; have k4 := (((Below.refl w6.heap.size w6).alloc (Nat.le_refl _) (.cells #[.string kb.key, .string kb.val, .int .i64 kb.at_, .slice s1 n1 e1] 27)).cell (p := ⟨O, 3, none⟩) G6.o.1).trans k3; go_simp)
          | (refine step_append_lies _ (by rfl) _ _ _ (by rfl) (O + 1) 27 i0 _ 4 64 Tryd.underlying25 hi hz0 hz1 hz2 rfl (by omega) (.slice ga j gc) j xs (by rfl) (own_kept (T := fun _ => False) G6.own ((Touch.refl _ _).alloc (.cells #[.string kb.key, .string kb.val, .int .i64 kb.at_, .slice s1 n1 e1] 27)) (fun _ _ h => h)) ⟨w6.heap.size, 0, none⟩ 1 1 [.string kb.key, .string kb.val, .int .i64 kb.at_, .slice s1 n1 e1] (by rfl) (by rfl) (World.news_of_block (cs := #[.string kb.key, .string kb.val, .int .i64 kb.at_, .slice s1 n1 e1]) (t := 27) (fr := (0, 0)) (heap_alloc_new w6 _)) (by simp [Value.oneCell']) (by omega) hj2 (by omega) (by have := G6.o.1; simp; omega) (w6.heap.size + 1) (by simp) ?_; intro gg cg w7 hown7 hgrow7 hat7 hlt7; rw [unhide HKB] at hown7 hO6; obtain ⟨O7, G7⟩ := G6.push _ hO6 (fun b hb => hb) hO1 (unhide HSI) (unhide HSO) hown7 hgrow7 hat7; have k7 := O7.cell 3 rfl; have f7 := O7.fro 3))
        all_goals
          have HG7 := hide G7
          clear k3 k4 k7 f7 O7 G7 G6 hown7 hgrow7 hat7 hlt7 hb6 hb6' hO6 x3 o3 c0 c1 c2 c3
          go_wp2_with fail
          refine ⟨⟨j + 1, _, _, _, _, by omega, by go_num, unhide HG7⟩, ?_⟩
          simp [intOf]; omega
      · obtain rfl : j = l.length := by omega
        have hE := Ow.fin (n := 0) hG (unhide HSM)
        have G1 := hide hG
        clear hG
        have x3 := (unhide G1).x.cell 3 rfl
        have o0 := (unhide G1).o.cell 0 rfl
        have o1 := (unhide G1).o.cell 1 rfl
        have o2 := (unhide G1).o.cell 2 rfl
        have o3 := (unhide G1).o.cell 3 rfl
        have r0 := (unhide G1).r.cell 0 rfl
        have r1 := (unhide G1).r.cell 1 rfl
        have r2 := (unhide G1).r.cell 2 rfl
        have r3 := (unhide G1).r.cell 3 rfl
        have f0 := (unhide G1).r.fro 0
        have f1 := (unhide G1).r.fro 1
        have f2 := (unhide G1).r.fro 2
        have f3 := (unhide G1).r.fro 3
        have z0 := hE.1.cell 0 rfl
        have z1 := hE.1.cell 1 rfl
        have z2 := hE.1.cell 2 rfl
        have z3 := hE.1.cell 3 rfl
        have HE := hide hE
        unfold set4 at z0 z1 z2 z3
        clear hE
        go_wp2_with fail
        refine bodyPost_ret (v := .agg #[.string k, .string v, .int .i64 a, .slice ga l.length gc]) (by simp [results, Tryd.results46, go_sem, z0, z1, z2, z3]) rfl ?_
        exact unhide HGR _ _ _ _ (unhide HE).2.1 (unhide HE).2.2
end Go.Proofs.YtkcpdjeemdlgcaaDoor.Sha
namespace Go.Proofs.YtkcpdjeemdlgcaaDoor
open Go.ChangeShapes Go.WideShapes Go.ChangeAt Go.RowKit
set_option linter.unusedVariables false

/-- The value is a slice of m elements, whose cells are these. -/
def Rw (w : World) (x : Value) (m : Nat) (news : List Value) : Prop := ∃ a cap, x = .slice a m cap ∧ (m = 0 ∨ ∃ ad : Addr, a = some ad ∧ ∀ j u, news[j]? = some u → w.cell? (ad.add j) = some u)
theorem run_append_row {P : Program} (w : World) (base : Nat) (t ty e : TypeId) (i : TypeInfo) (z : Value) (size bytes : Nat) (ht : P.underlying t = some (.slice e)) (hi : P.info? e = some i) (hz : i.zero = some z) (hsize : i.size = size) (hby : i.bytes = bytes) (hzs : z.cells.size = size) (hsz : 0 < size)
    (v : Value) (n : Nat) (xs : List Value) (hown : w.ownsRow base e size v n xs) (x : Value) (m : Nat) (news : List Value) (hR : Rw w x m news) (hl : news.length = m * size) (h1 : ∀ u ∈ news, u.oneCell' = true) (h63 : n + m ≤ maxLen) (hb : (n + m) * bytes ≤ 140737488355328) (hbase : base ≤ w.heap.size) :
    ∃ a' c' w', (Builtin.append_ #[t, t] ty #[v, x]).run P w = .ok (.slice a' (n + m) c') w' ∧ w'.ownsRow base e size (.slice a' (n + m) c') (n + m) (xs ++ news) ∧ w.grownBy w' v.ownBlock ∧ ((Value.slice a' (n + m) c').ownBlock = v.ownBlock ∨ (Value.slice a' (n + m) c').ownBlock = some w.heap.size) := by
  have key : ∃ v' w', (Builtin.append_ #[t, t] ty #[v, x]).run P w = .ok v' w' ∧ w'.ownsRow base e size v' (n + m) (xs ++ news) ∧ w.grownBy w' v.ownBlock ∧ (v'.ownBlock = v.ownBlock ∨ v'.ownBlock = some w.heap.size) := by
    obtain ⟨a, cap, rfl, hc⟩ := hR
    cases a with
    | none =>
      have hm0 : m = 0 := by
        rcases hc with h0 | ⟨ad, ha, _⟩
        · exact h0
        · cases ha
      subst hm0
      have hn0 : news = [] := List.eq_nil_of_length_eq_zero (by omega)
      subst hn0
      refine ⟨v, w, ?_, by simpa using hown, World.grownBy.refl _ _, .inl rfl⟩
      rcases hown.2 with ⟨rfl, _⟩ | ⟨g, cp, cur, rfl, _, _, hnc, _⟩
      · exact Go.run_append_nothing w t t ty e i ht hi none 0 0 (Nat.le_refl _) _ (Go.Src.ofNil (w := w) ht cap)
      · exact Go.run_append_nothing w t t ty e i ht hi _ n cp hnc _ (Go.Src.ofNil (w := w) ht cap)
    | some ad =>
      have hnews : ∀ j u, news[j]? = some u → w.cell? (ad.add j) = some u := fun j u hu => by
        rcases hc with h0 | ⟨b, ha, hcell⟩
        · subst h0
          have hn0 : news = [] := List.eq_nil_of_length_eq_zero (by omega)
          rw [hn0] at hu; cases hu
        · cases ha; exact hcell j u hu
      obtain ⟨v', w', hr', h2, h3, h4, h5⟩ := run_append_own_at (P := P) w base t ty e i z size bytes ht hi hz hsize hby hzs hsz v n xs hown ad m cap news hl hnews h1 h63 hb hbase
      exact ⟨v', w', hr', h2, h3, h5⟩
  obtain ⟨v', w', hr', h2, h3, h4⟩ := key
  rcases own_shape h2 with ⟨rfl, h0⟩ | ⟨g, c, rfl, _⟩
  · rw [h0] at h2 ⊢
    exact ⟨none, 0, w', hr', h2, h3, h4⟩
  · exact ⟨_, _, w', hr', h2, h3, h4⟩
theorem step_append_row {P : Program} {w : World} {ops : Array Oper} {o : Oper} {a : Act} {K : Act → World → Prop} {Q : Exit → Act → World → Prop} {E : Prop} (hgd : o.guard = none) (s x : Operand) (t : TypeId)
    (ho : o.op = .call { callee := .builtin .append, args := #[s, x], argTypes := #[t, t] })
    (base : Nat) (e : TypeId) (i : TypeInfo) (z : Value) (size bytes : Nat) (ht : P.underlying t = some (.slice e)) (hi : P.info? e = some i) (hz : i.zero = some z) (hsize : i.size = size) (hby : i.bytes = bytes) (hzs : z.cells.size = size) (hsz : 0 < size)
    (v : Value) (n : Nat) (xs : List Value) (hs : a.eval s = v) (hown : w.ownsRow base e size v n xs) (xv : Value) (m : Nat) (news : List Value) (hx : a.eval x = xv) (hR : Rw w xv m news) (hl : news.length = m * size) (h1 : ∀ u ∈ news, u.oneCell' = true) (h63 : n + m ≤ maxLen) (hb : (n + m) * bytes ≤ 140737488355328) (hbase : base ≤ w.heap.size)
    (h : ∀ a' c' w', w'.ownsRow base e size (.slice a' (n + m) c') (n + m) (xs ++ news) → w.grownBy w' v.ownBlock → ((Value.slice a' (n + m) c').ownBlock = v.ownBlock ∨ (Value.slice a' (n + m) c').ownBlock = some w.heap.size) → K (a.put o.dst (.slice a' (n + m) c')) w') :
    if Region.wanted o (yielded ops a.tmps) = true then Oper.wp P o a w K Q else E := by
  have hw : Region.wanted o (yielded ops a.tmps) = true := by simp [Region.wanted, hgd]
  rw [if_pos hw]
  obtain ⟨a', c', w', hr, h2, h3, h4⟩ := run_append_row (P := P) w base t o.type e i z size bytes ht hi hz hsize hby hzs hsz v n xs hown xv m news hR hl h1 h63 hb hbase
  unfold Oper.wp execOp
  simp only [ho, resolve, invoke, builtin, Sem.run_bind, Sem.run_pure, Result.andThen_ok, List.map_toArray, List.map_cons, List.map_nil, hs, hx, hr]
  exact h a' c' w' h2 h3 h4
theorem wpList_append_row {P : Program} (w : World) {ops : Array Oper} {rest : List Oper} {o : Oper} {a : Act} {Q : Exit → Act → World → Prop} (hgd : o.guard = none) (s x : Operand) (t : TypeId)
    (ho : o.op = .call { callee := .builtin .append, args := #[s, x], argTypes := #[t, t] })
    (base : Nat) (e : TypeId) (i : TypeInfo) (z : Value) (size bytes : Nat) (ht : P.underlying t = some (.slice e)) (hi : P.info? e = some i) (hz : i.zero = some z) (hsize : i.size = size) (hby : i.bytes = bytes) (hzs : z.cells.size = size) (hsz : 0 < size)
    (v : Value) (n : Nat) (xs : List Value) (hs : a.eval s = v) (hown : w.ownsRow base e size v n xs) (xv : Value) (m : Nat) (news : List Value) (hx : a.eval x = xv) (hR : Rw w xv m news) (hl : news.length = m * size) (h1 : ∀ u ∈ news, u.oneCell' = true) (h63 : n + m ≤ maxLen) (hb : (n + m) * bytes ≤ 140737488355328) (hbase : base ≤ w.heap.size)
    (h : ∀ a' c' w', w'.ownsRow base e size (.slice a' (n + m) c') (n + m) (xs ++ news) → w.grownBy w' v.ownBlock → ((Value.slice a' (n + m) c').ownBlock = v.ownBlock ∨ (Value.slice a' (n + m) c').ownBlock = some w.heap.size) → wpList P ops Q rest (a.put o.dst (.slice a' (n + m) c')) w') :
    wpList P ops Q (o :: rest) a w := by
  refine wpList_plain hgd fun K hK => ?_
  obtain ⟨a', c', w', hr, h2, h3, h4⟩ := run_append_row (P := P) w base t o.type e i z size bytes ht hi hz hsize hby hzs hsz v n xs hown xv m news hR hl h1 h63 hb hbase
  unfold Oper.wp execOp
  simp only [ho, resolve, invoke, builtin, Sem.run_bind, Sem.run_pure, Result.andThen_ok, List.map_toArray, List.map_cons, List.map_nil, hs, hx, hr]
  exact hK _ _ (h a' c' w' h2 h3 h4)
theorem Strs.rw {w : World} {v : Value} {l : List ByteArray} (h : Strs w v l) : Rw w v l.length (l.map Value.string) := by
  obtain ⟨a, cap, rfl, hm, hc⟩ := h
  refine ⟨a, cap, rfl, ?_⟩
  rcases hc with h0 | ⟨b, off, rfl, hlt, hc⟩
  · exact .inl h0
  · refine .inr ⟨_, rfl, fun j u hu => ?_⟩
    have hadd : (⟨b, off, none⟩ : Addr).add j = ⟨b, off + j, none⟩ := by unfold Addr.add; split <;> simp_all
    rw [List.getElem?_map] at hu
    by_cases hj : j < l.length
    · rw [hadd, hc j hj]
      rw [List.getElem?_eq_getElem hj] at hu
      rw [List.getD_eq_getElem?_getD, List.getElem?_eq_getElem hj]
      simpa using hu
    · rw [List.getElem?_eq_none (by omega)] at hu; cases hu
end Go.Proofs.YtkcpdjeemdlgcaaDoor
namespace Go.Proofs.YtkcpdjeemdlgcaaDoor.Sha
open Go.ChangeShapes Go.WideShapes Go.ChangeAt Go.RowKit
set_option linter.unusedVariables false
set_option linter.unusedSimpArgs false

/-- What l07Drop answers: a branch that can be read. -/
def DrR (B0 : Nat → Prop) (b : Br) (w : World) (e : Ending) (w' : World) : Prop := ∃ sa n cap, e = .returned (.agg #[.string b.key, .string b.val, .int .i64 b.at_, .slice sa n cap]) ∧ Brs (fun x => B0 x ∨ w.heap.size ≤ x) w' (.slice sa n cap) b.kids ∧ Below w.heap.size w w'
/-- The fork with its kid changed, or the other kid. -/
def repl (kb a : Nat) (hv : ByteArray) (l r tq : Tr) : Option Tr → Tr
  | none => tq
  | some t' => if kb = 0 then .fork a hv t' r else .fork a hv l t'
theorem drop_0 (h : ByteArray) (a : Nat) (hv : ByteArray) (l r : Tr) (hb : bitN h a = 0) : dropT h (.fork a hv l r) = some (repl 0 a hv l r r (dropT h l)) := by
  have e : dropT h (.fork a hv l r) = if bitN h a = 0 then (match dropT h l with | none => some r | some l' => some (.fork a hv l' r)) else (match dropT h r with | none => some l | some r' => some (.fork a hv l r')) := rfl
  rw [e, if_pos hb]
  cases dropT h l <;> rfl
theorem drop_1 (h : ByteArray) (a : Nat) (hv : ByteArray) (l r : Tr) (hb : bitN h a = 1) : dropT h (.fork a hv l r) = some (repl 1 a hv l r l (dropT h r)) := by
  have e : dropT h (.fork a hv l r) = if bitN h a = 0 then (match dropT h l with | none => some r | some l' => some (.fork a hv l' r)) else (match dropT h r with | none => some l | some r' => some (.fork a hv l r')) := rfl
  rw [e, if_neg (by omega)]
  cases dropT h r <;> rfl
theorem grown6 {w w5 w6 : World} {E : Nat} (hb : Below w.heap.size w w5) (hg : w5.grownBy w6 (some E)) (hE : w.heap.size ≤ E) : Below w.heap.size w w6 := hb.grown hg hb.size (fun r hr => by cases hr; exact hE)
theorem grownT {w5 w6 : World} {E : Nat} (hg : w5.grownBy w6 (some E)) : Touch (fun q => q = E) w5 w6 := (Touch.refl (fun q => q = E) w5).grown hg (fun q hq _ => by cases hq; rfl)
/-- The cells of two branches in a row. -/
def row2 (b0 b1 : Br) (v0 v1 : Value) : List Value := [.string b0.key, .string b0.val, .int .i64 b0.at_, v0, .string b1.key, .string b1.val, .int .i64 b1.at_, v1]
theorem brs_two {T : Nat → Prop} {B g c : Nat} {w : World} {b0 b1 : Br} {v0 v1 : Value} (h : w.ownsRow B 27 4 (.slice (some ⟨g, 0, none⟩) 2 c) 2 (row2 b0 b1 v0 v1)) (z0 : b0.key.size ≤ maxLen ∧ b0.val.size ≤ maxLen) (z1 : b1.key.size ≤ maxLen ∧ b1.val.size ≤ maxLen) (k0 : Brs T w v0 b0.kids) (k1 : Brs T w v1 b1.kids) (hT : T g) :
    Brs T w (.slice (some ⟨g, 0, none⟩) 2 c) [b0, b1] := by
  obtain ⟨hl, hc⟩ := id h
  rcases hc with ⟨hx, _⟩ | ⟨g', cap', cur, hv, hb, hg, hn, hm, hz, ht⟩
  · cases hx
  · simp only [Value.slice.injEq, Option.some.injEq, Addr.mk.injEq] at hv
    obtain ⟨⟨rfl, _, _⟩, _, rfl⟩ := hv
    refine .row g 0 c [b0, b1] (fun i => if i = 0 then v0 else v1) (by simp) hn hm (Array.getElem?_eq_some_iff.1 hg).1 hT (fun i hi => ?_) (fun i hi => ?_) (fun i hi => ?_)
    · have hi2 : i < 2 := hi
      rw [Nat.zero_add]
      rcases (show i = 0 ∨ i = 1 by omega) with rfl | rfl
      · exact ⟨(h.cellAt 0 (by omega)).trans rfl, (h.cellAt 1 (by omega)).trans rfl, (h.cellAt 2 (by omega)).trans rfl, (h.cellAt 3 (by omega)).trans rfl⟩
      · exact ⟨(h.cellAt 4 (by omega)).trans rfl, (h.cellAt 5 (by omega)).trans rfl, (h.cellAt 6 (by omega)).trans rfl, (h.cellAt 7 (by omega)).trans rfl⟩
    · have hi2 : i < 2 := hi
      rcases (show i = 0 ∨ i = 1 by omega) with rfl | rfl
      · exact z0
      · exact z1
    · have hi2 : i < 2 := hi
      rcases (show i = 0 ∨ i = 1 by omega) with rfl | rfl
      · exact k0
      · exact k1
theorem drop_some (h : ByteArray) (a : Nat) (hv : ByteArray) (l r : Tr) : ∃ t', dropT h (.fork a hv l r) = some t' := by
  rcases bitN_01 h a with hb | hb
  · exact ⟨_, drop_0 h a hv l r hb⟩
  · exact ⟨_, drop_1 h a hv l r hb⟩
theorem row2_rw {S : Nat → Prop} {w wx : World} {bb off cap : Nat} {b0 b1 : Br} {kvf : Nat → Value} (h : BrAt S w bb off [b0, b1] kvf) (hb : Below w.heap.size w wx) : Rw wx (.slice (some ⟨bb, off, none⟩) 2 cap) 2 (row2 b0 b1 (kvf 0) (kvf 1)) := by
  obtain ⟨s0, s1, s2, s3⟩ := h.cells 0 (by simp)
  obtain ⟨d0, d1, d2, d3⟩ := h.cells 1 (by simp)
  have e : ∀ i, wx.cell? ⟨bb, i, none⟩ = w.cell? ⟨bb, i, none⟩ := fun i => hb.cell (p := ⟨bb, i, none⟩) h.lt
  have ea : ∀ i, (⟨bb, off, none⟩ : Addr).add i = ⟨bb, off + i, none⟩ := fun i => by unfold Addr.add; split <;> simp_all
  refine ⟨_, cap, rfl, .inr ⟨_, rfl, fun j u hj => ?_⟩⟩
  rw [ea, e]
  have hj8 : j < 8 := (List.getElem?_eq_some_iff.1 hj).1
  simp only [Nat.zero_mul, Nat.add_zero, Nat.one_mul] at s0 s1 s2 s3 d0 d1 d2 d3
  rcases (show j = 0 ∨ j = 1 ∨ j = 2 ∨ j = 3 ∨ j = 4 ∨ j = 5 ∨ j = 6 ∨ j = 7 by omega) with rfl | rfl | rfl | rfl | rfl | rfl | rfl | rfl <;> (cases hj; assumption)
theorem row2_one {b0 b1 : Br} {a0 a1 : Option Addr} {n0 n1 c0 c1 : Nat} : ∀ u ∈ row2 b0 b1 (.slice a0 n0 c0) (.slice a1 n1 c1), u.oneCell' = true := by
  intro u hu
  simp only [row2, List.mem_cons, List.not_mem_nil, or_false] at hu
  rcases hu with rfl | rfl | rfl | rfl | rfl | rfl | rfl | rfl <;> rfl
end Go.Proofs.YtkcpdjeemdlgcaaDoor.Sha
namespace Go.Proofs.YtkcpdjeemdlgcaaDoor.Sha
open Go.ChangeShapes Go.WideShapes Go.ChangeAt Go.RowKit
set_option linter.unusedVariables false
set_option linter.unusedSimpArgs false

theorem own_lit4 {w : World} {B X : Nat} {cs : Array Value} (h : w.heap[X]? = some (.cells cs 27 (0, 0))) (hB : B ≤ X) (hn : cs.size = 8) : w.ownsRow B 27 4 (.slice (some ⟨X, 0, none⟩) 2 2) 2 cs.toList :=
  ⟨by simp [hn], .inr ⟨X, 2, cs, rfl, hB, h, Nat.le_refl _, by unfold maxLen; omega, by simp [hn], by rw [show 2 * 4 = cs.size from hn.symm, ← Array.length_toList, List.take_length]⟩⟩
set_option maxRecDepth 100000 in
set_option maxHeartbeats 4000000 in
theorem l07Insert_build (k v h : ByteArray) (hh : h.size = 32) (at_ : Nat) (ha : at_ < 256) (hkv : TrOK (.leaf k v)) (t : Tr) (hok : TrOK t) (hc : t.toBr.kids.length = 0 ∨ (at_ : Int) < t.toBr.at_) (B0 : Nat → Prop) (kv : Value) (w : World) (hB0 : ∀ x, B0 x → x < w.heap.size) (hB : Brs B0 w kv t.toBr.kids) :
    Calls Tryd.prog 91 #[.agg #[.string t.toBr.key, .string t.toBr.val, .int .i64 t.toBr.at_, kv], .string h, .int .i64 at_, .agg #[.string k, .string v, .int .i64 256, .slice none 0 0]] w fun e w' => DrR B0 (forkT at_ h k v t).toBr w e w' := by
  obtain ⟨sa, cap, rfl, hcap, hcm⟩ := hB.shape
  have HZT := hide (toBr_small hok)
  have HZK := hide (toBr_small hkv)
  have HLF := hide (fun wx => l07Leaf_any t.toBr.key t.toBr.val t.toBr.at_ sa t.toBr.kids.length cap wx (by unfold maxLen at hcm ⊢; omega))
  have HBT := hide (fun wx => l07Bit_any h at_ wx hh ha)
  have HKB := hide hB
  have B1 := hide ((((Below.refl w.heap.size w).alloc (Nat.le_refl _) (.cells #[.string t.toBr.key, .string t.toBr.val, .int .i64 t.toBr.at_, .slice sa t.toBr.kids.length cap] 27)).alloc (by simp) (.cells #[.string k, .string v, .int .i64 256, .slice none 0 0] 27)).alloc (by simp; omega) (.cells #[.string ⟨#[]⟩, .string ⟨#[]⟩, .int .i64 0, .slice none 0 0] 27))
  have X1 := hide (((Blk.new w #[.string t.toBr.key, .string t.toBr.val, .int .i64 t.toBr.at_, .slice sa t.toBr.kids.length cap] 27 w.heap.size rfl).alloc (.cells #[.string k, .string v, .int .i64 256, .slice none 0 0] 27)).alloc (.cells #[.string ⟨#[]⟩, .string ⟨#[]⟩, .int .i64 0, .slice none 0 0] 27))
  have L1 := hide ((Blk.new (w.alloc (.cells #[.string t.toBr.key, .string t.toBr.val, .int .i64 t.toBr.at_, .slice sa t.toBr.kids.length cap] 27)) #[.string k, .string v, .int .i64 256, .slice none 0 0] 27 (w.heap.size + 1) (by simp)).alloc (.cells #[.string ⟨#[]⟩, .string ⟨#[]⟩, .int .i64 0, .slice none 0 0] 27))
  have R1 := hide (Blk.new ((w.alloc (.cells #[.string t.toBr.key, .string t.toBr.val, .int .i64 t.toBr.at_, .slice sa t.toBr.kids.length cap] 27)).alloc (.cells #[.string k, .string v, .int .i64 256, .slice none 0 0] 27)) #[.string ⟨#[]⟩, .string ⟨#[]⟩, .int .i64 0, .slice none 0 0] 27 (w.heap.size + 1 + 1) (by simp))
  have HRS := hide (show w.heap.size < w.heap.size + 1 + 1 by omega)
  have hne : ((at_ : Int) == 256) = false := by rw [beq_eq_false_iff_ne]; omega
  clear hB hok hkv
  go_enter Tryd.func91, Tryd.ntmps91
  go_upto_region 3 with fail
  generalize ((w.alloc (.cells #[.string t.toBr.key, .string t.toBr.val, .int .i64 t.toBr.at_, .slice sa t.toBr.kids.length cap] 27)).alloc (.cells #[.string k, .string v, .int .i64 256, .slice none 0 0] 27)).alloc (.cells #[.string ⟨#[]⟩, .string ⟨#[]⟩, .int .i64 0, .slice none 0 0] 27) = w1 at *
  generalize w.heap.size + 1 + 1 = R at *
  generalize w.heap.size + 1 = L at *
  have x0 := (unhide X1).cell 0 rfl
  have x1 := (unhide X1).cell 1 rfl
  have x2 := (unhide X1).cell 2 rfl
  have x3 := (unhide X1).cell 3 rfl
  go_cut [25] (fun s wx => s = .bool true ∧ Below w1.heap.size w1 wx)
  case first =>
    cases hlf : decide (t.toBr.kids.length = 0)
    · have hlt : (at_ : Int) < t.toBr.at_ := by
        rcases hc with h0 | h0
        · rw [decide_eq_true h0] at hlf; cases hlf
        · exact h0
      rw [hlf] at HLF
      clear hc hlf
      go_wp2_with fail
      refine (unhide HLF w1).mono ?_
      rintro e w2 ⟨rfl, hb2⟩
      have HB2 := hide hb2
      have y2 := ((unhide X1).below hb2).cell 2 rfl
      clear hb2
      go_wp2_with fail
      go_meet
      exact ⟨by first | rfl | simp [hlt], unhide HB2⟩
    · rw [hlf] at HLF
      clear hc hlf
      go_wp2_with fail
      refine (unhide HLF w1).mono ?_
      rintro e w2 ⟨rfl, hb2⟩
      have HB2 := hide hb2
      clear hb2
      go_wp2_with fail
      go_meet
      exact ⟨rfl, unhide HB2⟩
  case rest =>
    obtain ⟨rfl, hbc⟩ := hcut
    obtain ⟨w2, hw2⟩ : ∃ w2, w2 = wc := ⟨_, rfl⟩
    subst hw2
    have B2 := hide ((unhide B1).trans (hbc.mono (unhide B1).size))
    have R2 := hide ((unhide R1).below hbc)
    have X2 := (unhide X1).below hbc
    have L2 := (unhide L1).below hbc
    clear x0 x1 x2 x3 hbc B1 X1 R1 L1 hc
    have x0 := X2.cell 0 rfl
    have x1 := X2.cell 1 rfl
    have x2 := X2.cell 2 rfl
    have x3 := X2.cell 3 rfl
    have l0 := L2.cell 0 rfl
    have l1 := L2.cell 1 rfl
    have l2 := L2.cell 2 rfl
    have l3 := L2.cell 3 rfl
    clear X2 L2
    rcases bitN_01 h at_ with hb | hb
    · have HF : Hid (forkT at_ h k v t = .fork at_ h (.leaf k v) t) := hide (by unfold forkT; rw [if_pos hb])
      rw [hb] at HBT
      have HGR2 : Hid (∀ sa n cap w', Brs (fun x => B0 x ∨ w.heap.size ≤ x) w' (.slice sa n cap) [Br.mk k v 256 [], t.toBr] → Below w.heap.size w w' → DrR B0 (forkT at_ h k v t).toBr w (.returned (.agg #[.string ⟨#[]⟩, .string ⟨#[]⟩, .int .i64 at_, .slice sa n cap])) w') := hide (fun sa n cap w' h1 hb => by rw [unhide HF]; exact ⟨sa, n, cap, rfl, h1, hb⟩)
      have BA := (Below.refl w2.heap.size w2).alloc (Nat.le_refl _) (.cells #[.string k, .string v, .int .i64 256, .slice none 0 0, .string t.toBr.key, .string t.toBr.val, .int .i64 t.toBr.at_, .slice sa t.toBr.kids.length cap] 27)
      have R3 := (unhide R2).below BA
      have B3 := hide ((unhide B2).trans (BA.mono (unhide B2).size))
      have O3 : Hid ((w2.alloc (.cells #[.string k, .string v, .int .i64 256, .slice none 0 0, .string t.toBr.key, .string t.toBr.val, .int .i64 t.toBr.at_, .slice sa t.toBr.kids.length cap] 27)).ownsRow w2.heap.size 27 4 (.slice (some ⟨w2.heap.size, 0, none⟩) 2 2) 2 #[.string k, .string v, .int .i64 256, .slice none 0 0, .string t.toBr.key, .string t.toBr.val, .int .i64 t.toBr.at_, .slice sa t.toBr.kids.length cap].toList) := hide (own_lit4 (heap_alloc_new w2 _) (Nat.le_refl _) rfl)
      have r0 := R3.cell 0 rfl
      have r1 := R3.cell 1 rfl
      have r2 := R3.cell 2 rfl
      have r3 := R3.cell 3 rfl
      have f0 := R3.fro 0
      have f1 := R3.fro 1
      have f2 := R3.fro 2
      have f3 := R3.fro 3
      have hZ := set4_blk R3 (.string ⟨#[]⟩) (.string ⟨#[]⟩) (.int .i64 at_) (.slice (some ⟨w2.heap.size, 0, none⟩) 2 2)
      have z0 := hZ.cell 0 rfl
      have z1 := hZ.cell 1 rfl
      have z2 := hZ.cell 2 rfl
      have z3 := hZ.cell 3 rfl
      have HT4 := hide (set4_touch (w2.alloc (.cells #[.string k, .string v, .int .i64 256, .slice none 0 0, .string t.toBr.key, .string t.toBr.val, .int .i64 t.toBr.at_, .slice sa t.toBr.kids.length cap] 27)) R (.string ⟨#[]⟩) (.string ⟨#[]⟩) (.int .i64 at_) (.slice (some ⟨w2.heap.size, 0, none⟩) 2 2))
      have HBF := hide ((unhide B3).trans ((unhide HT4).below (unhide B3).size (fun q hq e => by have := unhide HRS; omega)))
      have hR2 := (unhide R2).1
      have HRL := hide (And.intro (unhide B2).size hR2)
      unfold set4 at z0 z1 z2 z3
      clear hZ R3 BA hR2
      go_wp2_with fail
      refine (unhide HBT w2).mono ?_
      rintro e w9 ⟨rfl, hw9⟩
      subst w9
      go_wp2_with fail
      refine bodyPost_ret (v := .agg #[.string ⟨#[]⟩, .string ⟨#[]⟩, .int .i64 at_, .slice (some ⟨w2.heap.size, 0, none⟩) 2 2]) (by simp [results, Tryd.results91, go_sem, z0, z1, z2, z3]) rfl ?_
      have O9 := own_kept (unhide O3) (unhide HT4) (fun q hq e => by
        have e1 : w2.heap.size = q := by simpa [Value.ownBlock] using hq
        have e2 : q = R := e
        have := (unhide HRL).2
        omega)
      have KT := ((unhide HKB).mono (T := fun x => B0 x ∨ w.heap.size ≤ x) (fun x hx => .inl hx)).blw (unhide HBF)
      have KN := Brs.nil (w := set4 (w2.alloc (.cells #[.string k, .string v, .int .i64 256, .slice none 0 0, .string t.toBr.key, .string t.toBr.val, .int .i64 t.toBr.at_, .slice sa t.toBr.kids.length cap] 27)) R (.string ⟨#[]⟩) (.string ⟨#[]⟩) (.int .i64 at_) (.slice (some ⟨w2.heap.size, 0, none⟩) 2 2)) (S := fun x => B0 x ∨ w.heap.size ≤ x) none 0 (by unfold maxLen; omega)
      exact unhide HGR2 (some ⟨w2.heap.size, 0, none⟩) 2 2 _ (brs_two (b0 := Br.mk k v 256 []) (b1 := t.toBr) (v0 := .slice none 0 0) (v1 := .slice sa t.toBr.kids.length cap) O9 (unhide HZK) (unhide HZT) KN KT (.inr (unhide HRL).1)) (unhide HBF)
    · have HF : Hid (forkT at_ h k v t = .fork at_ h t (.leaf k v)) := hide (by unfold forkT; rw [if_neg (by omega)])
      rw [hb] at HBT
      have HGR2 : Hid (∀ sa n cap w', Brs (fun x => B0 x ∨ w.heap.size ≤ x) w' (.slice sa n cap) [t.toBr, Br.mk k v 256 []] → Below w.heap.size w w' → DrR B0 (forkT at_ h k v t).toBr w (.returned (.agg #[.string ⟨#[]⟩, .string ⟨#[]⟩, .int .i64 at_, .slice sa n cap])) w') := hide (fun sa n cap w' h1 hb => by rw [unhide HF]; exact ⟨sa, n, cap, rfl, h1, hb⟩)
      have BA := (Below.refl w2.heap.size w2).alloc (Nat.le_refl _) (.cells #[.string t.toBr.key, .string t.toBr.val, .int .i64 t.toBr.at_, .slice sa t.toBr.kids.length cap, .string k, .string v, .int .i64 256, .slice none 0 0] 27)
      have R3 := (unhide R2).below BA
      have B3 := hide ((unhide B2).trans (BA.mono (unhide B2).size))
      have O3 : Hid ((w2.alloc (.cells #[.string t.toBr.key, .string t.toBr.val, .int .i64 t.toBr.at_, .slice sa t.toBr.kids.length cap, .string k, .string v, .int .i64 256, .slice none 0 0] 27)).ownsRow w2.heap.size 27 4 (.slice (some ⟨w2.heap.size, 0, none⟩) 2 2) 2 #[.string t.toBr.key, .string t.toBr.val, .int .i64 t.toBr.at_, .slice sa t.toBr.kids.length cap, .string k, .string v, .int .i64 256, .slice none 0 0].toList) := hide (own_lit4 (heap_alloc_new w2 _) (Nat.le_refl _) rfl)
      have r0 := R3.cell 0 rfl
      have r1 := R3.cell 1 rfl
      have r2 := R3.cell 2 rfl
      have r3 := R3.cell 3 rfl
      have f0 := R3.fro 0
      have f1 := R3.fro 1
      have f2 := R3.fro 2
      have f3 := R3.fro 3
      have hZ := set4_blk R3 (.string ⟨#[]⟩) (.string ⟨#[]⟩) (.int .i64 at_) (.slice (some ⟨w2.heap.size, 0, none⟩) 2 2)
      have z0 := hZ.cell 0 rfl
      have z1 := hZ.cell 1 rfl
      have z2 := hZ.cell 2 rfl
      have z3 := hZ.cell 3 rfl
      have HT4 := hide (set4_touch (w2.alloc (.cells #[.string t.toBr.key, .string t.toBr.val, .int .i64 t.toBr.at_, .slice sa t.toBr.kids.length cap, .string k, .string v, .int .i64 256, .slice none 0 0] 27)) R (.string ⟨#[]⟩) (.string ⟨#[]⟩) (.int .i64 at_) (.slice (some ⟨w2.heap.size, 0, none⟩) 2 2))
      have HBF := hide ((unhide B3).trans ((unhide HT4).below (unhide B3).size (fun q hq e => by have := unhide HRS; omega)))
      have hR2 := (unhide R2).1
      have HRL := hide (And.intro (unhide B2).size hR2)
      unfold set4 at z0 z1 z2 z3
      clear hZ R3 BA hR2
      go_wp2_with fail
      refine (unhide HBT w2).mono ?_
      rintro e w9 ⟨rfl, hw9⟩
      subst w9
      go_wp2_with fail
      refine bodyPost_ret (v := .agg #[.string ⟨#[]⟩, .string ⟨#[]⟩, .int .i64 at_, .slice (some ⟨w2.heap.size, 0, none⟩) 2 2]) (by simp [results, Tryd.results91, go_sem, z0, z1, z2, z3]) rfl ?_
      have O9 := own_kept (unhide O3) (unhide HT4) (fun q hq e => by
        have e1 : w2.heap.size = q := by simpa [Value.ownBlock] using hq
        have e2 : q = R := e
        have := (unhide HRL).2
        omega)
      have KT := ((unhide HKB).mono (T := fun x => B0 x ∨ w.heap.size ≤ x) (fun x hx => .inl hx)).blw (unhide HBF)
      have KN := Brs.nil (w := set4 (w2.alloc (.cells #[.string t.toBr.key, .string t.toBr.val, .int .i64 t.toBr.at_, .slice sa t.toBr.kids.length cap, .string k, .string v, .int .i64 256, .slice none 0 0] 27)) R (.string ⟨#[]⟩) (.string ⟨#[]⟩) (.int .i64 at_) (.slice (some ⟨w2.heap.size, 0, none⟩) 2 2)) (S := fun x => B0 x ∨ w.heap.size ≤ x) none 0 (by unfold maxLen; omega)
      exact unhide HGR2 (some ⟨w2.heap.size, 0, none⟩) 2 2 _ (brs_two (b0 := t.toBr) (b1 := Br.mk k v 256 []) (v0 := .slice sa t.toBr.kids.length cap) (v1 := .slice none 0 0) O9 (unhide HZT) (unhide HZK) KT KN (.inr (unhide HRL).1)) (unhide HBF)
end Go.Proofs.YtkcpdjeemdlgcaaDoor.Sha
namespace Go.Proofs.YtkcpdjeemdlgcaaDoor.Sha
open Go.ChangeShapes Go.WideShapes Go.ChangeAt Go.RowKit
set_option linter.unusedVariables false
set_option linter.unusedSimpArgs false

set_option maxRecDepth 100000 in
set_option maxHeartbeats 4000000 in
theorem l07Insert_leaf (k v h k' v' : ByteArray) (B0 : Nat → Prop) (kv : Value) (w : World) (hB : Brs B0 w kv []) :
    Calls Tryd.prog 91 #[.agg #[.string k', .string v', .int .i64 256, kv], .string h, .int .i64 256, .agg #[.string k, .string v, .int .i64 256, .slice none 0 0]] w fun e w' => DrR B0 (Tr.leaf k v).toBr w e w' := by
  obtain ⟨sa, cap, rfl, hcap, hcm⟩ := hB.shape
  have HLF := hide (fun wx => l07Leaf_any k' v' 256 sa 0 cap wx (by unfold maxLen; omega))
  rw [show decide ((0 : Nat) = 0) = true from rfl] at HLF
  dsimp only [List.length_nil] at hB ⊢
  have HGR : Hid (∀ w', Below w.heap.size w w' → DrR B0 (Tr.leaf k v).toBr w (.returned (.agg #[.string k, .string v, .int .i64 256, .slice none 0 0])) w') := hide (fun w' hb => ⟨none, 0, 0, rfl, .nil _ _ (by unfold maxLen; omega), hb⟩)
  have B1 := hide ((((Below.refl w.heap.size w).alloc (Nat.le_refl _) (.cells #[.string k', .string v', .int .i64 256, .slice sa 0 cap] 27)).alloc (by simp) (.cells #[.string k, .string v, .int .i64 256, .slice none 0 0] 27)).alloc (by simp; omega) (.cells #[.string ⟨#[]⟩, .string ⟨#[]⟩, .int .i64 0, .slice none 0 0] 27))
  have L1 := hide ((Blk.new (w.alloc (.cells #[.string k', .string v', .int .i64 256, .slice sa 0 cap] 27)) #[.string k, .string v, .int .i64 256, .slice none 0 0] 27 (w.heap.size + 1) (by simp)).alloc (.cells #[.string ⟨#[]⟩, .string ⟨#[]⟩, .int .i64 0, .slice none 0 0] 27))
  have R1 := hide (Blk.new ((w.alloc (.cells #[.string k', .string v', .int .i64 256, .slice sa 0 cap] 27)).alloc (.cells #[.string k, .string v, .int .i64 256, .slice none 0 0] 27)) #[.string ⟨#[]⟩, .string ⟨#[]⟩, .int .i64 0, .slice none 0 0] 27 (w.heap.size + 1 + 1) (by simp))
  have HRS := hide (show w.heap.size < w.heap.size + 1 + 1 by omega)
  clear hB
  go_enter Tryd.func91, Tryd.ntmps91
  go_wp2_with fail
  generalize ((w.alloc (.cells #[.string k', .string v', .int .i64 256, .slice sa 0 cap] 27)).alloc (.cells #[.string k, .string v, .int .i64 256, .slice none 0 0] 27)).alloc (.cells #[.string ⟨#[]⟩, .string ⟨#[]⟩, .int .i64 0, .slice none 0 0] 27) = w1 at *
  generalize w.heap.size + 1 + 1 = R at *
  generalize w.heap.size + 1 = L at *
  refine (unhide HLF w1).mono ?_
  rintro e w2 ⟨rfl, hb2⟩
  have B2 := hide ((unhide B1).trans (hb2.mono (unhide B1).size))
  have R2 := hide ((unhide R1).below hb2)
  have L2 := (unhide L1).below hb2
  have l0 := L2.cell 0 rfl
  have l1 := L2.cell 1 rfl
  have l2 := L2.cell 2 rfl
  have l3 := L2.cell 3 rfl
  clear hb2 B1 R1 L1 L2
  have r0 := (unhide R2).cell 0 rfl
  have r1 := (unhide R2).cell 1 rfl
  have r2 := (unhide R2).cell 2 rfl
  have r3 := (unhide R2).cell 3 rfl
  have f0 := (unhide R2).fro 0
  have f1 := (unhide R2).fro 1
  have f2 := (unhide R2).fro 2
  have f3 := (unhide R2).fro 3
  have hZ := set4_blk (unhide R2) (.string k) (.string v) (.int .i64 256) (.slice none 0 0)
  have z0 := hZ.cell 0 rfl
  have z1 := hZ.cell 1 rfl
  have z2 := hZ.cell 2 rfl
  have z3 := hZ.cell 3 rfl
  have HT4 := hide (set4_touch w2 R (.string k) (.string v) (.int .i64 256) (.slice none 0 0))
  have HBF := hide ((unhide B2).trans ((unhide HT4).below (unhide B2).size (fun q hq e => by have := (unhide HRS); omega)))
  unfold set4 at z0 z1 z2 z3
  clear hZ
  go_wp2_with fail
  refine bodyPost_ret (v := .agg #[.string k, .string v, .int .i64 256, .slice none 0 0]) (by simp [results, Tryd.results91, go_sem, z0, z1, z2, z3]) rfl ?_
  exact unhide HGR _ (unhide HBF)
/-- The fork with its kid changed. -/
def replT (kb a : Nat) (hv : ByteArray) (l r t' : Tr) : Tr := if kb = 0 then .fork a hv t' r else .fork a hv l t'
set_option maxRecDepth 100000 in
set_option maxHeartbeats 8000000 in
theorem l07Insert_any (k v h : ByteArray) (hh : h.size = 32) (at_ : Nat) (hat0 : at_ ≤ 256) (hkv : TrOK (.leaf k v)) : ∀ (t : Tr), TrOK t → ∀ (m : Nat), Rise m t → Sep t → at_ = fd (kh (leadL h t).1) h → ∀ (B0 : Nat → Prop) (kv : Value) (w : World), (∀ x, B0 x → x < w.heap.size) → Brs B0 w kv t.toBr.kids →
    Calls Tryd.prog 91 #[.agg #[.string t.toBr.key, .string t.toBr.val, .int .i64 t.toBr.at_, kv], .string h, .int .i64 at_, .agg #[.string k, .string v, .int .i64 256, .slice none 0 0]] w fun e w' => DrR B0 (putT h at_ k v t).toBr w e w' := by
  intro t
  induction t with
  | leaf k' v' =>
    intro hok m hr hs hfd B0 kv w hB0 hB
    by_cases h256 : at_ = 256
    · subst h256
      have := l07Insert_leaf k v h k' v' B0 kv w hB
      unfold putT
      rw [if_pos rfl]
      exact this
    · have := l07Insert_build k v h hh at_ (by omega) hkv (.leaf k' v') hok (.inl rfl) B0 kv w hB0 hB
      unfold putT
      rw [if_neg h256]
      exact this
  | fork a hv l r ihl ihr =>
    intro hok m hr hs hfd B0 kv w hB0 hB
    have hne : at_ ≠ a := fun e => by
      have h1 := ((fd_iff (kh (leadL h (.fork a hv l r)).1) h at_ (by have := hr.2.1; omega)).1 hfd.symm).2
      rw [e] at h1
      exact h1 (lead_bit h hr hs)
    by_cases hlt : a < at_
    · obtain ⟨ha, ho9, okl, okr⟩ := hok
      obtain ⟨r0, r1, r2, r3⟩ := hr
      obtain ⟨q1, q2, q3, sl, sr⟩ := hs
      obtain ⟨sa, cap, rfl, hcap, hcm⟩ := hB.shape
      have hkm := hcm
      obtain ⟨kb, tn, hkb, hb2, HDT, okn, hgn, IH⟩ : ∃ (kb : Nat) (tn : Tr), bitN h a = kb ∧ kb < 2 ∧ Hid (putT h at_ k v (.fork a hv l r) = replT kb a hv l r (putT h at_ k v tn)) ∧ TrOK tn ∧ ([l.toBr, r.toBr] : List Br).getD kb default = tn.toBr ∧
          Hid (∀ (B0 : Nat → Prop) (kv : Value) (w : World), (∀ x, B0 x → x < w.heap.size) → Brs B0 w kv tn.toBr.kids → Calls Tryd.prog 91 #[.agg #[.string tn.toBr.key, .string tn.toBr.val, .int .i64 tn.toBr.at_, kv], .string h, .int .i64 at_, .agg #[.string k, .string v, .int .i64 256, .slice none 0 0]] w fun e w' => DrR B0 (putT h at_ k v tn).toBr w e w') := by
        rcases bitN_01 h a with hb | hb
        · exact ⟨0, l, hb, by omega, hide (by (conv => lhs; unfold putT; rw [if_pos hlt, if_pos hb]); rfl), okl, rfl, hide (ihl okl _ r2 sl (by rw [hfd]; conv => lhs; unfold leadL; rw [if_pos hb]))⟩
        · exact ⟨1, r, hb, by omega, hide (by (conv => lhs; unfold putT; rw [if_pos hlt, if_neg (by omega)]); rfl), okr, rfl, hide (ihr okr _ r3 sr (by rw [hfd]; conv => lhs; unfold leadL; rw [if_neg (by omega)]))⟩
      clear ihl ihr hfd hne q1 q2 q3 sl sr r0 r2 r3 ho9
      rw [unhide HDT]
      have HOT : Hid (TrOK (putT h at_ k v tn)) := hide (putT_ok h at_ k v hat0 hh hkv.1 hkv.2 tn okn)
      generalize putT h at_ k v tn = t' at *
      have HGR : Hid (∀ sa n cap w', Brs (fun x => B0 x ∨ w.heap.size ≤ x) w' (.slice sa n cap) (replT kb a hv l r t').toBr.kids → Below w.heap.size w w' → DrR B0 (replT kb a hv l r t').toBr w (.returned (.agg #[.string (replT kb a hv l r t').toBr.key, .string (replT kb a hv l r t').toBr.val, .int .i64 (replT kb a hv l r t').toBr.at_, .slice sa n cap])) w') := hide (fun sa n cap w' h1 hb => ⟨sa, n, cap, rfl, h1, hb⟩)
      dsimp only [Tr.toBr, Br.key, Br.val, Br.at_, Br.kids] at hB hcap ⊢
      rw [show ([l.toBr, r.toBr] : List Br).length = 2 from rfl] at hB hcap ⊢
      obtain ⟨bb, off, kvf, rfl, _, hat⟩ := hB.at (by simp)
      have hbb := hat.lt
      obtain ⟨d0, d1, d2, d3⟩ := hat.cells kb (by simpa using hb2)
      have KN := hide (hat.kids kb (by simpa using hb2))
      rw [hgn] at d0 d1 d2 KN
      obtain ⟨kan, kcn, hkvn, _, hknm⟩ := (unhide KN).shape
      rw [hkvn] at KN d3
      have HLF := hide (fun wx => l07Leaf_any ⟨#[]⟩ ⟨#[]⟩ a (some ⟨bb, off, none⟩) 2 cap wx (by unfold maxLen at hkm ⊢; omega))
      rw [show decide ((2 : Nat) = 0) = false from rfl] at HLF
      have HBT := hide (fun wx => l07Bit_any h a wx hh r1)
      rw [hkb] at HBT
      have B1 := hide ((((Below.refl w.heap.size w).alloc (Nat.le_refl _) (.cells #[.string ⟨#[]⟩, .string ⟨#[]⟩, .int .i64 a, .slice (some ⟨bb, off, none⟩) 2 cap] 27)).alloc (by simp) (.cells #[.string k, .string v, .int .i64 256, .slice none 0 0] 27)).alloc (by simp; omega) (.cells #[.string ⟨#[]⟩, .string ⟨#[]⟩, .int .i64 0, .slice none 0 0] 27))
      have X1 := hide (((Blk.new w #[.string ⟨#[]⟩, .string ⟨#[]⟩, .int .i64 a, .slice (some ⟨bb, off, none⟩) 2 cap] 27 w.heap.size rfl).alloc (.cells #[.string k, .string v, .int .i64 256, .slice none 0 0] 27)).alloc (.cells #[.string ⟨#[]⟩, .string ⟨#[]⟩, .int .i64 0, .slice none 0 0] 27))
      have L1 := hide ((Blk.new (w.alloc (.cells #[.string ⟨#[]⟩, .string ⟨#[]⟩, .int .i64 a, .slice (some ⟨bb, off, none⟩) 2 cap] 27)) #[.string k, .string v, .int .i64 256, .slice none 0 0] 27 (w.heap.size + 1) (by simp)).alloc (.cells #[.string ⟨#[]⟩, .string ⟨#[]⟩, .int .i64 0, .slice none 0 0] 27))
      have R1 := hide (Blk.new ((w.alloc (.cells #[.string ⟨#[]⟩, .string ⟨#[]⟩, .int .i64 a, .slice (some ⟨bb, off, none⟩) 2 cap] 27)).alloc (.cells #[.string k, .string v, .int .i64 256, .slice none 0 0] 27)) #[.string ⟨#[]⟩, .string ⟨#[]⟩, .int .i64 0, .slice none 0 0] 27 (w.heap.size + 1 + 1) (by simp))
      have HRS := hide (show w.heap.size < w.heap.size + 1 + 1 ∧ w.heap.size < w.heap.size + 1 by omega)
      have HAT := hide hat
      have hgt : ¬ (at_ : Int) < (a : Int) := by omega
      clear hB hat hkvn hkb hgn HDT
      go_enter Tryd.func91, Tryd.ntmps91
      go_upto_region 1 with fail
      generalize ((w.alloc (.cells #[.string ⟨#[]⟩, .string ⟨#[]⟩, .int .i64 a, .slice (some ⟨bb, off, none⟩) 2 cap] 27)).alloc (.cells #[.string k, .string v, .int .i64 256, .slice none 0 0] 27)).alloc (.cells #[.string ⟨#[]⟩, .string ⟨#[]⟩, .int .i64 0, .slice none 0 0] 27) = w1 at *
      generalize w.heap.size + 1 + 1 = R at *
      generalize w.heap.size + 1 = L at *
      have x0 := (unhide X1).cell 0 rfl
      have x1 := (unhide X1).cell 1 rfl
      have x2 := (unhide X1).cell 2 rfl
      have x3 := (unhide X1).cell 3 rfl
      go_cut [16] (fun s wx => s = .bool false ∧ Below w1.heap.size w1 wx)
      case first =>
        by_cases h256 : at_ = 256
        · subst h256
          go_wp2_with fail
          refine (unhide HLF w1).mono ?_
          rintro e w2 ⟨rfl, hb2'⟩
          have HB2 := hide hb2'
          clear hb2'
          go_wp2_with fail
          go_meet
          exact ⟨rfl, unhide HB2⟩
        · have h2 : ((at_ : Int) == 256) = false := by rw [beq_eq_false_iff_ne]; omega
          go_wp2_with fail
          go_meet
          exact ⟨rfl, Below.refl _ _⟩
      case rest =>
        obtain ⟨rfl, hbc⟩ := hcut
        obtain ⟨w2, hw2⟩ : ∃ w2, w2 = wc := ⟨_, rfl⟩
        subst hw2
        have B2 := hide ((unhide B1).trans (hbc.mono (unhide B1).size))
        have X2 := hide ((unhide X1).below hbc)
        have L2 := hide ((unhide L1).below hbc)
        have R2 := hide ((unhide R1).below hbc)
        clear x0 x1 x2 x3 hbc B1 X1 L1 R1
        have x0 := (unhide X2).cell 0 rfl
        have x1 := (unhide X2).cell 1 rfl
        have x2 := (unhide X2).cell 2 rfl
        have x3 := (unhide X2).cell 3 rfl
        go_wp2_with fail
        refine (unhide HLF w2).mono ?_
        rintro e w3 ⟨rfl, hb3⟩
        have B3 := hide ((unhide B2).trans (hb3.mono (unhide B2).size))
        have X3 := hide ((unhide X2).below hb3)
        have L3 := hide ((unhide L2).below hb3)
        have R3 := hide ((unhide R2).below hb3)
        clear hb3 B2 X2 L2 R2 HLF x0 x1 x2 x3
        have x2 := (unhide X3).cell 2 rfl
        go_wp2_with fail
        refine (unhide HBT w3).mono ?_
        rintro e w9 ⟨rfl, hw9⟩
        subst w9
        have m0 : (0 : Int) ≤ (kb : Int) := by omega
        have m1 : (kb : Int) < 2 := by omega
        obtain ⟨ka0, kc0, hk0, _, _⟩ := ((unhide HAT).kids 0 (by simp)).shape
        obtain ⟨ka1, kc1, hk1, _, _⟩ := ((unhide HAT).kids 1 (by simp)).shape
        have BB := (Below.refl w3.heap.size w3).alloc (Nat.le_refl _) (.cells #[] 27)
        have B5 := hide ((unhide B3).trans (BB.mono (unhide B3).size))
        have X5 := hide ((unhide X3).below BB)
        have L5 := hide ((unhide L3).below BB)
        have R5 := hide ((unhide R3).below BB)
        have O5 : Hid ((w3.alloc (.cells #[] 27)).ownsRow w3.heap.size 27 4 (.slice (some ⟨w3.heap.size, 0, none⟩) 0 0) 0 []) := hide (World.ownsRow_made w3 #[] 0 (Nat.le_refl _) (by unfold maxLen; omega) rfl)
        have HRW := hide (row2_rw (cap := cap) (unhide HAT) (unhide B5))
        have H1C : Hid (∀ u ∈ row2 l.toBr r.toBr (kvf 0) (kvf 1), u.oneCell' = true) := hide (by rw [hk0, hk1]; exact row2_one)
        have x35 := (unhide X5).cell 3 rfl
        have hE5 : (w3.alloc (.cells #[] 27)).heap.size = w3.heap.size + 1 := by simp
        obtain ⟨i0, hi, hz0, hz1, hz2⟩ := info_parts infoBr
        have hw4 := (unhide B3).size
        have hX4' : w.heap.size < w3.heap.size := (unhide X3).1
        have hL4' : L < w3.heap.size := (unhide L3).1
        have hR4' : R < w3.heap.size := (unhide R3).1
        clear BB X3 R3 B3 L3 x2 hk0 hk1
        go_upto_region 9 with (at_builtin; refine wpList_append_row _ rfl _ _ _ rfl w3.heap.size 27 i0 _ 4 64 Tryd.underlying25 hi hz0 hz1 hz2 rfl (by omega) _ 0 [] rfl (unhide O5) _ 2 (row2 l.toBr r.toBr (kvf 0) (kvf 1)) rfl (unhide HRW) rfl (unhide H1C) (by unfold maxLen; omega) (by omega) (by omega) ?_; intro a6 c6 w6 hown6 hgrow6 hat6; have R6' := hide (And.intro hown6 (And.intro hgrow6 hat6)); clear hown6 hgrow6 hat6)
        obtain ⟨hown6, hgrow6, hat6⟩ := unhide R6'
        obtain ⟨g6, c6', he6, hg6, hg6'⟩ := World.ownsRow.form hown6 (by omega)
        cases he6
        rw [List.nil_append] at hown6
        have B6 := hide (grown6 (unhide B5) hgrow6 hw4)
        have T6 : Touch (fun q => q = w3.heap.size) _ w6 := grownT hgrow6
        have X6 := hide ((unhide X5).kept T6 (fun e => by have e' : w.heap.size = w3.heap.size := e; omega))
        have L6 := hide ((unhide L5).kept T6 (fun e => by have e' : L = w3.heap.size := e; omega))
        have R6 := hide ((unhide R5).kept T6 (fun e => by have e' : R = w3.heap.size := e; omega))
        have O6 := hide hown6
        have x36 := (unhide X6).cell 3 rfl
        have l60 := (unhide L6).cell 0 rfl
        have l61 := (unhide L6).cell 1 rfl
        have l62 := (unhide L6).cell 2 rfl
        have l63 := (unhide L6).cell 3 rfl
        have t0 := ((unhide B6).cell (p := ⟨bb, off + kb * 4, none⟩) hbb).trans d0
        have t1 := ((unhide B6).cell (p := ⟨bb, off + kb * 4 + 1, none⟩) hbb).trans d1
        have t2 := ((unhide B6).cell (p := ⟨bb, off + kb * 4 + 2, none⟩) hbb).trans d2
        have t3 := ((unhide B6).cell (p := ⟨bb, off + kb * 4 + 3, none⟩) hbb).trans d3
        clear hown6 hgrow6 hat6 T6 R6' X5 R5 L5 B5 O5 HRW H1C x35
        have HIH := hide (fun wx (hbx : Below w6.heap.size w6 wx) => unhide IH B0 _ wx (fun x hx => Nat.lt_of_lt_of_le (hB0 x hx) ((unhide B6).trans (hbx.mono (unhide B6).size)).size) ((unhide KN).blw ((unhide B6).trans (hbx.mono (unhide B6).size))))
        have HE4 : Hid (∃ e0 e1 e2 e3, (row2 l.toBr r.toBr (kvf 0) (kvf 1))[kb * 4]? = some e0 ∧ (row2 l.toBr r.toBr (kvf 0) (kvf 1))[kb * 4 + 1]? = some e1 ∧ (row2 l.toBr r.toBr (kvf 0) (kvf 1))[kb * 4 + 2]? = some e2 ∧ (row2 l.toBr r.toBr (kvf 0) (kvf 1))[kb * 4 + 3]? = some e3) := hide ⟨_, _, _, _, List.getElem?_eq_getElem (by simp [row2]; omega), List.getElem?_eq_getElem (by simp [row2]; omega), List.getElem?_eq_getElem (by simp [row2]; omega), List.getElem?_eq_getElem (by simp [row2]; omega)⟩
        obtain ⟨e0, e1, e2, e3, he0, he1, he2, he3⟩ := unhide HE4
        have HST : Hid (∀ w7, Below w6.heap.size w6 w7 → (w7.cell? ⟨g6, kb * 4, none⟩ = some e0 ∧ w7.cell? ⟨g6, kb * 4 + 1, none⟩ = some e1 ∧ w7.cell? ⟨g6, kb * 4 + 2, none⟩ = some e2 ∧ w7.cell? ⟨g6, kb * 4 + 3, none⟩ = some e3) ∧ (w7.frozen? ⟨g6, kb * 4, none⟩ = false ∧ w7.frozen? ⟨g6, kb * 4 + 1, none⟩ = false ∧ w7.frozen? ⟨g6, kb * 4 + 2, none⟩ = false ∧ w7.frozen? ⟨g6, kb * 4 + 3, none⟩ = false)) := hide (fun w7 hb7 => by
          have O7 := own_kept (T := fun _ => False) (unhide O6) (Touch.ofBelow hb7) (fun _ _ h => h)
          exact ⟨⟨(O7.cellAt (kb * 4) (by omega)).trans he0, (O7.cellAt (kb * 4 + 1) (by omega)).trans he1, (O7.cellAt (kb * 4 + 2) (by omega)).trans he2, (O7.cellAt (kb * 4 + 3) (by omega)).trans he3⟩, O7.frozenAt (kb * 4), O7.frozenAt (kb * 4 + 1), O7.frozenAt (kb * 4 + 2), O7.frozenAt (kb * 4 + 3)⟩)
        clear he0 he1 he2 he3
        go_cut [] (fun wx => ∃ (w7 : World) (s7 : Option Addr) (n7 c7 : Nat), Brs (fun x => B0 x ∨ w6.heap.size ≤ x) w7 (.slice s7 n7 c7) t'.toBr.kids ∧ Below w6.heap.size w6 w7 ∧ wx = (((w7.setCell ⟨g6, kb * 4, none⟩ (.string t'.toBr.key)).setCell ⟨g6, kb * 4 + 1, none⟩ (.string t'.toBr.val)).setCell ⟨g6, kb * 4 + 2, none⟩ (.int .i64 t'.toBr.at_)).setCell ⟨g6, kb * 4 + 3, none⟩ (.slice s7 n7 c7))
        case first =>
          go_wp2_with fail
          go_region_law ((go_simp; go_at_call 91; refine (unhide HIH _ (below_drewN (Below.refl _ _) 1)).mono ?_; rintro e w7 ⟨s7, n7, c7, rfl, hBr7, hb7⟩; (have HB7 := hide (And.intro hBr7 ((below_drewN (Below.refl w6.heap.size w6) 1).trans hb7))); clear hBr7 hb7; (obtain ⟨⟨g0, g1, g2, g3⟩, i0', i1', i2', i3'⟩ := unhide HST w7 (unhide HB7).2); go_simp))
          all_goals
            go_wp2_with fail
            go_meet
            exact ⟨w7, s7, n7, c7, (unhide HB7).1, (unhide HB7).2, rfl⟩
        case rest =>
          obtain ⟨w7, s7, n7, c7, hBr7, hb7, hwc⟩ := hcut
          have O7 := own_kept (T := fun _ => False) (unhide O6) (Touch.ofBelow hb7) (fun _ _ h => h)
          have B7 := (unhide B6).trans (hb7.mono (unhide B6).size)
          have hz67 := hb7.size
          have X7 := (unhide X6).below hb7
          have R7 := (unhide R6).below hb7
          have O8 := (((O7.stored (kb * 4) (.string t'.toBr.key)).1.stored (kb * 4 + 1) (.string t'.toBr.val)).1.stored (kb * 4 + 2) (.int .i64 t'.toBr.at_)).1.stored (kb * 4 + 3) (.slice s7 n7 c7) |>.1
          have T8 : Touch (fun q => q = g6) w7 ((((w7.setCell ⟨g6, kb * 4, none⟩ (.string t'.toBr.key)).setCell ⟨g6, kb * 4 + 1, none⟩ (.string t'.toBr.val)).setCell ⟨g6, kb * 4 + 2, none⟩ (.int .i64 t'.toBr.at_)).setCell ⟨g6, kb * 4 + 3, none⟩ (.slice s7 n7 c7)) :=
            ((((Touch.refl (fun q => q = g6) w7).setCell ⟨g6, kb * 4, none⟩ _ (fun _ => rfl)).setCell ⟨g6, kb * 4 + 1, none⟩ _ (fun _ => rfl)).setCell ⟨g6, kb * 4 + 2, none⟩ _ (fun _ => rfl)).setCell ⟨g6, kb * 4 + 3, none⟩ _ (fun _ => rfl)
          rw [← hwc] at O8 T8
          have X8 := hide (X7.kept T8 (fun e => by have e' : w.heap.size = g6 := e; omega))
          have R8 := hide (R7.kept T8 (fun e => by have e' : R = g6 := e; omega))
          have B8 := hide (B7.trans (T8.below B7.size (fun q hq e => by have e' : q = g6 := e; omega)))
          have HBr8 := hide (hBr7.touch T8 (fun q hq e => by have e' : q = g6 := e; rcases hq with hq | hq; (have h8 := hB0 q hq; omega); omega))
          have HO8 := hide O8
          clear O7 O8 T8 B7 X7 R7 hBr7 hb7 hwc X6 R6 L6 B6 O6 x36 l60 l61 l62 l63 t0 t1 t2 t3 HIH HST HE4
          obtain ⟨w8, hw8⟩ : ∃ w8, w8 = wc := ⟨_, rfl⟩
          subst hw8
          have x28 := (unhide X8).cell 2 rfl
          have r0' := (unhide R8).cell 0 rfl
          have r1' := (unhide R8).cell 1 rfl
          have r2' := (unhide R8).cell 2 rfl
          have r3' := (unhide R8).cell 3 rfl
          have f0 := (unhide R8).fro 0
          have f1 := (unhide R8).fro 1
          have f2 := (unhide R8).fro 2
          have f3 := (unhide R8).fro 3
          have hZ := set4_blk (unhide R8) (.string ⟨#[]⟩) (.string ⟨#[]⟩) (.int .i64 a) (.slice (some ⟨g6, 0, none⟩) 2 c6)
          have z0 := hZ.cell 0 rfl
          have z1 := hZ.cell 1 rfl
          have z2 := hZ.cell 2 rfl
          have z3 := hZ.cell 3 rfl
          have HT4 := hide (set4_touch w8 R (.string ⟨#[]⟩) (.string ⟨#[]⟩) (.int .i64 a) (.slice (some ⟨g6, 0, none⟩) 2 c6))
          have HBF := hide ((unhide B8).trans ((unhide HT4).below (unhide B8).size (fun q hq e => by have := (unhide HRS); omega)))
          unfold set4 at z0 z1 z2 z3
          clear hZ
          go_wp2_with fail
          refine bodyPost_ret (v := .agg #[.string ⟨#[]⟩, .string ⟨#[]⟩, .int .i64 a, .slice (some ⟨g6, 0, none⟩) 2 c6]) (by simp [results, Tryd.results91, go_sem, z0, z1, z2, z3]) rfl ?_
          have hrs := unhide HRS
          have O9 := own_kept (unhide HO8) (unhide HT4) (fun q hq e => by
            have e1 : g6 = q := by simpa [Value.ownBlock] using hq
            have e2 : q = R := e
            omega)
          have K9 := ((unhide HBr8).touch (unhide HT4) (fun q hq e => by have e2 : q = R := e; rcases hq with hq | hq; (have h8 := hB0 q hq; omega); omega)).mono (T := fun x => B0 x ∨ w.heap.size ≤ x) (fun x hx => hx.imp id (fun h => by omega))
          have zt := toBr_small (unhide HOT)
          have zl := toBr_small okl
          have zr := toBr_small okr
          have L0' := (((unhide HAT).kids 0 (by simp)).mono (T := fun x => B0 x ∨ w.heap.size ≤ x) (fun x hx => .inl hx)).blw (unhide HBF)
          have L1' := (((unhide HAT).kids 1 (by simp)).mono (T := fun x => B0 x ∨ w.heap.size ≤ x) (fun x hx => .inl hx)).blw (unhide HBF)
          rcases (show kb = 0 ∨ kb = 1 by omega) with hk | hk
          · subst hk
            exact unhide HGR (some ⟨g6, 0, none⟩) 2 c6 _ (brs_two (b0 := t'.toBr) (b1 := r.toBr) (v0 := .slice s7 n7 c7) (v1 := kvf 1) O9 zt zr K9 L1' (.inr (by omega))) (unhide HBF)
          · subst hk
            exact unhide HGR (some ⟨g6, 0, none⟩) 2 c6 _ (brs_two (b0 := l.toBr) (b1 := t'.toBr) (v0 := kvf 0) (v1 := .slice s7 n7 c7) O9 zl zt L0' K9 (.inr (by omega))) (unhide HBF)
    · have := l07Insert_build k v h hh at_ (by have := hr.2.1; omega) hkv (.fork a hv l r) hok (.inr (by show (at_ : Int) < (a : Int); omega)) B0 kv w hB0 hB
      unfold putT
      rw [if_neg hlt]
      exact this
end Go.Proofs.YtkcpdjeemdlgcaaDoor.Sha
namespace Go.Proofs.YtkcpdjeemdlgcaaDoor.Sha
open Go.ChangeShapes Go.WideShapes Go.ChangeAt Go.RowKit
set_option linter.unusedVariables false
set_option linter.unusedSimpArgs false

/-- The map with a key. -/
def mpT (o : Option Tr) (key val : ByteArray) : Tr := match o with
  | none => .leaf key val
  | some t => putT (kh key) (putAt t key) key val t
theorem putT_lvN (h : ByteArray) (a : Nat) (k v : ByteArray) (ha : a ≤ 256) : ∀ t, TrOK t → (putT h a k v t).lvN = if a < 256 then t.lvN + 1 else t.lvN
  | .leaf k' v', ho => by
    unfold putT
    by_cases e : a = 256
    · rw [if_pos e, if_neg (by omega)]; rfl
    · rw [if_neg e, if_pos (by omega)]; unfold forkT; split <;> rfl
  | .fork b hb l r, ho => by
    unfold putT
    by_cases e : b < a
    · rw [if_pos e]
      split
      · show (putT h a k v l).lvN + r.lvN = _
        rw [putT_lvN h a k v ha l ho.2.2.1]
        show _ = if a < 256 then l.lvN + r.lvN + 1 else l.lvN + r.lvN
        split <;> omega
      · show l.lvN + (putT h a k v r).lvN = _
        rw [putT_lvN h a k v ha r ho.2.2.2]
        show _ = if a < 256 then l.lvN + r.lvN + 1 else l.lvN + r.lvN
        split <;> omega
    · rw [if_neg e, if_pos (by have := ho.1; omega)]
      unfold forkT
      split
      · show 1 + (l.lvN + r.lvN) = l.lvN + r.lvN + 1; omega
      · show (l.lvN + r.lvN) + 1 = l.lvN + r.lvN + 1; rfl
theorem tr_cnt : ∀ t : Tr, t.toBr.cnt + 1 ≤ 2 * t.lvN
  | .leaf k v => by rw [Br.cnt_eq]; show 1 + cntL [] + 1 ≤ 2 * 1; unfold cntL; omega
  | .fork a hv l r => by
    have h1 := tr_cnt l
    have h2 := tr_cnt r
    rw [Br.cnt_eq]
    show 1 + cntL [l.toBr, r.toBr] + 1 ≤ 2 * (l.lvN + r.lvN)
    rw [cntL_cons, cntL_cons]
    unfold cntL
    omega
theorem tr_cntL (t : Tr) : cntL t.toBr.kids ≤ 2 * t.lvN := by
  have h := tr_cnt t
  rw [Br.cnt_eq] at h
  omega
theorem mpT_ok {o : Option Tr} {key val : ByteArray} (ho : OkO o) (hkv : TrOK (.leaf key val)) : TrOK (mpT o key val) := by
  cases o with
  | none => exact hkv
  | some t => exact putT_ok (kh key) (putAt t key) key val (fd_le _ _) (kh_size (by have := (okK_iff.1 hkv.1).2; omega)) hkv.1 hkv.2 t ho
set_option maxRecDepth 100000 in
set_option maxHeartbeats 4000000 in
theorem l07Put_any (o : Option Tr) (hok : OkO o) (hri : RiseO o) (hsp : SepO o) (key val : ByteArray) (hkv : TrOK (.leaf key val)) (B0 : Nat → Prop) (kv : Value) (w : World) (hB0 : ∀ x, B0 x → x < w.heap.size) (hB : Brs B0 w kv (brOf o).kids) :
    Calls Tryd.prog 44 #[.agg #[.string (brOf o).key, .string (brOf o).val, .int .i64 (brOf o).at_, kv], .string key, .string val] w fun e w' => DrR B0 (mpT o key val).toBr w e w' := by
  obtain ⟨sa, cap, rfl, hcap, hcm⟩ := hB.shape
  have hk24 := (okK_iff.1 hkv.1).2
  have B1 := hide (((Below.refl w.heap.size w).alloc (Nat.le_refl _) (.cells #[.string (brOf o).key, .string (brOf o).val, .int .i64 (brOf o).at_, .slice sa (brOf o).kids.length cap] 27)).alloc (by simp) (.cells #[.string ⟨#[]⟩, .string ⟨#[]⟩, .int .i64 0, .slice none 0 0] 27))
  have X1 := hide ((Blk.new w #[.string (brOf o).key, .string (brOf o).val, .int .i64 (brOf o).at_, .slice sa (brOf o).kids.length cap] 27 w.heap.size rfl).alloc (.cells #[.string ⟨#[]⟩, .string ⟨#[]⟩, .int .i64 0, .slice none 0 0] 27))
  have R1 := hide (Blk.new (w.alloc (.cells #[.string (brOf o).key, .string (brOf o).val, .int .i64 (brOf o).at_, .slice sa (brOf o).kids.length cap] 27)) #[.string ⟨#[]⟩, .string ⟨#[]⟩, .int .i64 0, .slice none 0 0] 27 (w.heap.size + 1) (by simp))
  have HRS := hide (show w.heap.size < w.heap.size + 1 by omega)
  have HE := hide (fun wx => l07Empty_any (brOf o).key (brOf o).val (brOf o).at_ (brOf o).kids sa cap wx (by omega))
  have e9 : Br.mk (brOf o).key (brOf o).val (brOf o).at_ (brOf o).kids = brOf o := by cases brOf o; rfl
  rw [e9] at HE
  clear e9
  have HKB := hide hB
  have HNW := hide (fun wx => l07New_any key val wx)
  clear hB
  cases o with
  | none =>
    have he : emptyBr (brOf none) = true := (empty_iff _ _ _ _).2 ⟨rfl, rfl, rfl, rfl⟩
    rw [he] at HE
    have HGR : Hid (∀ w', Below w.heap.size w w' → DrR B0 (mpT none key val).toBr w (.returned (.agg #[.string key, .string val, .int .i64 256, .slice none 0 0])) w') := hide (fun w' hb => ⟨none, 0, 0, rfl, .nil _ _ (by unfold maxLen; omega), hb⟩)
    dsimp only [brOf, Br.key, Br.val, Br.at_, Br.kids, List.length_nil] at *
    clear he HKB
    go_enter Tryd.func44, Tryd.ntmps44
    go_wp2_with fail
    generalize (w.alloc (.cells #[.string ⟨#[]⟩, .string ⟨#[]⟩, .int .i64 0, .slice sa 0 cap] 27)).alloc (.cells #[.string ⟨#[]⟩, .string ⟨#[]⟩, .int .i64 0, .slice none 0 0] 27) = w1 at *
    generalize w.heap.size + 1 = R at *
    refine (unhide HE w1).mono ?_
    rintro e w2 ⟨rfl, hb2⟩
    have B2 := hide ((unhide B1).trans (hb2.mono (unhide B1).size))
    have R2 := hide ((unhide R1).below hb2)
    clear hb2 B1 R1 X1
    go_wp2_with fail
    refine (unhide HNW w2).mono ?_
    rintro e w3 ⟨rfl, hb3⟩
    have B3 := hide ((unhide B2).trans (hb3.mono (unhide B2).size))
    have R3 := hide ((unhide R2).below hb3)
    clear hb3 B2 R2
    have r0 := (unhide R3).cell 0 rfl
    have r1 := (unhide R3).cell 1 rfl
    have r2 := (unhide R3).cell 2 rfl
    have r3 := (unhide R3).cell 3 rfl
    have f0 := (unhide R3).fro 0
    have f1 := (unhide R3).fro 1
    have f2 := (unhide R3).fro 2
    have f3 := (unhide R3).fro 3
    have hZ := set4_blk (unhide R3) (.string key) (.string val) (.int .i64 256) (.slice none 0 0)
    have z0 := hZ.cell 0 rfl
    have z1 := hZ.cell 1 rfl
    have z2 := hZ.cell 2 rfl
    have z3 := hZ.cell 3 rfl
    have HT4 := hide (set4_touch w3 R (.string key) (.string val) (.int .i64 256) (.slice none 0 0))
    have HBF := hide ((unhide B3).trans ((unhide HT4).below (unhide B3).size (fun q hq e => by have := (unhide HRS); omega)))
    unfold set4 at z0 z1 z2 z3
    clear hZ
    go_wp2_with fail
    refine bodyPost_ret (v := .agg #[.string key, .string val, .int .i64 256, .slice none 0 0]) (by simp [results, Tryd.results44, go_sem, z0, z1, z2, z3]) rfl ?_
    exact unhide HGR _ (unhide HBF)
  | some t =>
    rw [show emptyBr (brOf (some t)) = false from not_empty hok] at HE
    have HHS := hide (fun wx => l07Hash_any key wx (by omega))
    have hks := kh_size (k := key) (by omega)
    have hlo := lead_ok (kh key) t hok
    have hlk := kh_size (k := (leadL (kh key) t).1) (by have := (okK_iff.1 hlo.1).2; omega)
    dsimp only [brOf] at *
    have HNR := hide (fun wx (hx : Below w.heap.size w wx) => l07Near_any (kh key) hks t hok hri _ _ wx ((unhide HKB).blw hx))
    have HDF := hide (fun wx => l07Differ_any (kh key) (kh (leadL (kh key) t).1) wx hks hlk)
    rw [fd_comm] at HDF
    have HIN := hide (fun wx (hx : Below w.heap.size w wx) => l07Insert_any key val (kh key) hks (fd (kh (leadL (kh key) t).1) (kh key)) (fd_le _ _) hkv t hok 0 hri hsp.1 rfl B0 _ wx (fun x h9 => Nat.lt_of_lt_of_le (hB0 x h9) hx.size) ((unhide HKB).blw hx))
    have HMT : Hid (mpT (some t) key val = putT (kh key) (fd (kh (leadL (kh key) t).1) (kh key)) key val t) := rfl
    have HGR : Hid (∀ sa n cap w', Brs (fun x => B0 x ∨ w.heap.size ≤ x) w' (.slice sa n cap) (putT (kh key) (fd (kh (leadL (kh key) t).1) (kh key)) key val t).toBr.kids → Below w.heap.size w w' → DrR B0 (mpT (some t) key val).toBr w (.returned (.agg #[.string (putT (kh key) (fd (kh (leadL (kh key) t).1) (kh key)) key val t).toBr.key, .string (putT (kh key) (fd (kh (leadL (kh key) t).1) (kh key)) key val t).toBr.val, .int .i64 (putT (kh key) (fd (kh (leadL (kh key) t).1) (kh key)) key val t).toBr.at_, .slice sa n cap])) w') := hide (fun sa n cap w' h1 hb => ⟨sa, n, cap, rfl, h1, hb⟩)
    generalize (putT (kh key) (fd (kh (leadL (kh key) t).1) (kh key)) key val t).toBr = D at *
    generalize kh (leadL (kh key) t).1 = lh at *
    generalize fd lh (kh key) = A at *
    generalize kh key = hh at *
    clear hlo hlk hks hok hri hsp hkv HMT HKB
    go_enter Tryd.func44, Tryd.ntmps44
    go_wp2_with fail
    generalize (w.alloc (.cells #[.string t.toBr.key, .string t.toBr.val, .int .i64 t.toBr.at_, .slice sa t.toBr.kids.length cap] 27)).alloc (.cells #[.string ⟨#[]⟩, .string ⟨#[]⟩, .int .i64 0, .slice none 0 0] 27) = w1 at *
    generalize w.heap.size + 1 = R at *
    refine (unhide HE w1).mono ?_
    rintro e w2 ⟨rfl, hb2⟩
    have B2 := hide ((unhide B1).trans (hb2.mono (unhide B1).size))
    have X2 := hide ((unhide X1).below hb2)
    have R2 := hide ((unhide R1).below hb2)
    clear hb2 B1 R1 X1 HE
    go_wp2_with fail
    refine (unhide HHS w2).mono ?_
    rintro e w3 ⟨rfl, hb3⟩
    have B3 := hide ((unhide B2).trans (hb3.mono (unhide B2).size))
    have X3 := hide ((unhide X2).below hb3)
    have R3 := hide ((unhide R2).below hb3)
    clear hb3 B2 X2 R2 HHS
    have x0 := (unhide X3).cell 0 rfl
    have x1 := (unhide X3).cell 1 rfl
    have x2 := (unhide X3).cell 2 rfl
    have x3 := (unhide X3).cell 3 rfl
    go_wp2_with fail
    refine (unhide HNR w3 (unhide B3)).mono ?_
    rintro e w4 ⟨rfl, hb4⟩
    have B4 := hide ((unhide B3).trans (hb4.mono (unhide B3).size))
    have X4 := hide ((unhide X3).below hb4)
    have R4 := hide ((unhide R3).below hb4)
    clear hb4 B3 X3 R3 HNR x0 x1 x2 x3
    go_wp2_with fail
    refine (unhide HDF w4).mono ?_
    rintro e w9 ⟨rfl, hw9⟩
    subst w9
    have x0 := (unhide X4).cell 0 rfl
    have x1 := (unhide X4).cell 1 rfl
    have x2 := (unhide X4).cell 2 rfl
    have x3 := (unhide X4).cell 3 rfl
    have HSX : Hid (∀ wx, Below w4.heap.size w4 wx → wx.cell? ⟨w.heap.size, 0, none⟩ = some (.string t.toBr.key) ∧ wx.cell? ⟨w.heap.size, 1, none⟩ = some (.string t.toBr.val) ∧ wx.cell? ⟨w.heap.size, 2, none⟩ = some (.int .i64 t.toBr.at_) ∧ wx.cell? ⟨w.heap.size, 3, none⟩ = some (.slice sa t.toBr.kids.length cap)) := hide (fun wx hb => by
      have X := (unhide X4).below hb
      exact ⟨X.cell 0 rfl, X.cell 1 rfl, X.cell 2 rfl, X.cell 3 rfl⟩)
    go_upto_region 5 with fail
    go_cut [] (fun wx => ∃ (w7 : World) (s7 : Option Addr) (n7 c7 : Nat), Brs (fun x => B0 x ∨ w4.heap.size ≤ x) w7 (.slice s7 n7 c7) D.kids ∧ Below w4.heap.size w4 w7 ∧ wx = set4 w7 R (.string D.key) (.string D.val) (.int .i64 D.at_) (.slice s7 n7 c7))
    case first =>
      go_wp2_with fail
      go_region_law (first
        | (go_simp; go_at_call 91; refine (unhide HIN w5 ((unhide B4).trans ((unhide HB5).mono (unhide B4).size))).mono ?_; rintro e w7 ⟨s7, n7, c7, rfl, hBr7, hb7⟩; (have HB7 := hide (And.intro (hBr7.mono (T := fun x => B0 x ∨ w4.heap.size ≤ x) (fun x hx => hx.imp id (fun h => by have := (unhide HB5).size; omega))) ((unhide HB5).trans (hb7.mono (unhide HB5).size)))); clear hBr7 hb7; (have R7 := (unhide R4).below (unhide HB7).2); (have r0 := R7.cell 0 rfl); (have r1 := R7.cell 1 rfl); (have r2 := R7.cell 2 rfl); (have r3 := R7.cell 3 rfl); (have f0 := R7.fro 0); (have f1 := R7.fro 1); (have f2 := R7.fro 2); (have f3 := R7.fro 3); clear R7; go_simp)
        | (go_simp; go_at_call 88; refine (unhide HNW _).mono ?_; rintro e w5 ⟨rfl, hb5⟩; (have HB5 := hide ((below_drewN (Below.refl w4.heap.size w4) 1).trans hb5)); clear hb5; (obtain ⟨y0, y1, y2, y3⟩ := unhide HSX w5 (unhide HB5)); go_simp))
      all_goals
        go_wp2_with fail
        go_meet
        exact ⟨w7, s7, n7, c7, (unhide HB7).1, (unhide HB7).2, rfl⟩
    case rest =>
      obtain ⟨w7, s7, n7, c7, hBr7, hb7, hwc⟩ := hcut
      have B7 := (unhide B4).trans (hb7.mono (unhide B4).size)
      have hZ := set4_blk ((unhide R4).below hb7) (.string D.key) (.string D.val) (.int .i64 D.at_) (.slice s7 n7 c7)
      have HT4 := set4_touch w7 R (.string D.key) (.string D.val) (.int .i64 D.at_) (.slice s7 n7 c7)
      rw [← hwc] at hZ HT4
      have HBF := hide (B7.trans (HT4.below B7.size (fun q hq e => by have := (unhide HRS); omega)))
      have hR4 := (unhide R4).1
      have HBR := hide ((hBr7.touch HT4 (fun q hq e => by have e2 : q = R := e; have := unhide HRS; rcases hq with hq | hq; (have h8 := hB0 q hq; omega); omega)).mono (T := fun x => B0 x ∨ w.heap.size ≤ x) (fun x hx => hx.imp id (fun h => by have := (unhide B4).size; omega)))
      have z0 := hZ.cell 0 rfl
      have z1 := hZ.cell 1 rfl
      have z2 := hZ.cell 2 rfl
      have z3 := hZ.cell 3 rfl
      clear hZ HT4 B7 hBr7 hb7 hwc B4 X4 R4 x0 x1 x2 x3 HSX HIN HNW HDF
      obtain ⟨w8, hw8⟩ : ∃ w8, w8 = wc := ⟨_, rfl⟩
      subst hw8
      go_wp2_with fail
      refine bodyPost_ret (v := .agg #[.string D.key, .string D.val, .int .i64 D.at_, .slice s7 n7 c7]) (by simp [results, Tryd.results44, go_sem, z0, z1, z2, z3]) rfl ?_
      exact unhide HGR _ _ _ _ (unhide HBR) (unhide HBF)
end Go.Proofs.YtkcpdjeemdlgcaaDoor.Sha
