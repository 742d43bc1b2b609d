/- The specification's l07Get; spec.MapGet. The specification's l07Near, l07Differ, l07New. The specification's l07Size. The laws' marks in branches: markBranchS, markBranch. The specification's l07Own: a branch copied into memory of the call's own. What a slice that can be read holds, put behind a row of the call's own: elements of any number of cells; the slice may be empty, the row too. The specification's l07Drop. The specification's l07Insert. The specification's l07Insert, whole. The specification's l07Put. (*mapNode).lead, its leaf known ahead. impl.MapPut. Pure: a right map read again from its branch; a key that is put and dropped again leaves the root; a key that was dropped is not there. The keys that the laws draw (24), those that fill a map (k0 .. k39): no two have one hash. Pure: a key that is put into a map of drawn keys and dropped again. Pure: what CheckKey says; a map's own proof leads to its root. Pure: what a drawn map's proof of a key is. -/
import Derived.Test.YtnajpeaieeaflaaDoorBrV
import Derived.Test.YtnajpeaieeaflaaDoorBrC
import Derived.Deep.RegionHeldLaw
import Derived.Deep.RegionLaw
import Derived.Test.YtnajpeaieeaflaaDoorGxA
import Derived.Test.YtnajpeaieeaflaaDoorSet4
import Derived.Deep.RegionHeld3
import Derived.Test.YtnajpeaieeaflaaDoorStr
import Derived.Test.YtnajpeaieeaflaaDoorBrS
import Derived.Deep.AppendLies
import Derived.Test.YtnajpeaieeaflaaDoorStrO
import Derived.Maps.AppendAt
import Derived.Deep.Upon
import Derived.Deep.DeepCutAuto
import Derived.Test.YtnajpeaieeaflaaDoorBrU
import Derived.Test.YtnajpeaieeaflaaDoorQb
import Derived.Test.YtnajpeaieeaflaaDoorWst
import Derived.Test.YtnajpeaieeaflaaDoorBrP
import Derived.Test.YtnajpeaieeaflaaDoorBrG
import Derived.Test.YtnajpeaieeaflaaDoorBrY
namespace Go.Proofs.YtnajpeaieeaflaaDoor.Sha
open Go.ChangeShapes Go.WideShapes Go.ChangeAt Go.RowKit
set_option linter.unusedVariables false
set_option linter.unusedSimpArgs false

/-- The number in the third cell of a block. -/
def atCell2 (X : Nat) (w : World) : Nat := match w.cell? ⟨X, 2, none⟩ with
  | some (.int _ a) => a.toNat
  | _ => 0
theorem atCell2_is {X : Nat} {w : World} {a : Nat} (h : w.cell? ⟨X, 2, none⟩ = some (.int .i64 a)) : atCell2 X w = a := by
  unfold atCell2
  rw [h]
  simp
theorem toBr_at (t : Tr) : t.toBr.at_ = (t.at_ : Int) := by cases t <;> rfl
/-- What l07Get answers. -/
def GetR (o : Option Tr) (key : ByteArray) (w : World) (e : Ending) (w' : World) : Prop := ∃ (k v : ByteArray) (a : Int) (sa : Option Addr) (n cap : Nat) (fb : Bool), e = .returned (.tuple #[.agg #[.string k, .string v, .int .i64 a, .slice sa n cap], .bool fb]) ∧ Below w.heap.size w w' ∧
  match o with
  | none => fb = false
  | some t => v = (leadL (kh key) t).2 ∧ fb = decide ((leadL (kh key) t).1 = key)
--FI
end Go.Proofs.YtnajpeaieeaflaaDoor.Sha
namespace Go.Proofs.YtnajpeaieeaflaaDoor.Sha
open Go.ChangeShapes Go.WideShapes Go.ChangeAt Go.RowKit
set_option linter.unusedVariables false
set_option linter.unusedSimpArgs false

set_option maxRecDepth 100000 in
set_option maxHeartbeats 4000000 in
theorem l07Near_any (h : ByteArray) (hh : h.size = 32) (t : Tr) (hok : TrOK t) (hri : Rise 0 t) (S : Nat → Prop) (kv : Value) (w : World) (hB : Brs S w kv t.toBr.kids) :
    Calls Tryd.prog 75 #[.agg #[.string t.toBr.key, .string t.toBr.val, .int .i64 t.toBr.at_, kv], .string h] w fun e w' => e = .returned (.string (kh (leadL h t).1)) ∧ Below w.heap.size w w' := by
  obtain ⟨sa, cap, rfl, hcap, hcm⟩ := hB.shape
  have B1 := hide ((Below.refl w.heap.size w).alloc (Nat.le_refl _) (.cells #[.string t.toBr.key, .string t.toBr.val, .int .i64 t.toBr.at_, .slice sa t.toBr.kids.length cap] 25))
  have X1 := hide (Blk.new w #[.string t.toBr.key, .string t.toBr.val, .int .i64 t.toBr.at_, .slice sa t.toBr.kids.length cap] 25 w.heap.size rfl)
  have HKB := hide hB.bound
  have HGR : Hid (∀ x w', Below w.heap.size w w' → x = kh (leadL h t).1 → Ending.returned (.string x) = .returned (.string (kh (leadL h t).1)) ∧ Below w.heap.size w w') := hide (fun x w' hb he => ⟨by rw [he], hb⟩)
  have HOK := hide hok
  have HRI := hide hri
  clear hB hok hri
  go_enter Tryd.func75, Tryd.ntmps75
  go_wp2_with fail
  generalize w.alloc (.cells #[.string t.toBr.key, .string t.toBr.val, .int .i64 t.toBr.at_, .slice sa t.toBr.kids.length cap] 25) = w1 at *
  go_loopw [] (fun wr => ∃ (m : Nat) (t' : Tr) (ka : Option Addr) (kc : Nat), Blk wr w.heap.size [.string t'.toBr.key, .string t'.toBr.val, .int .i64 t'.toBr.at_, .slice ka t'.toBr.kids.length kc] ∧ Brs (fun x => x < w.heap.size) w (.slice ka t'.toBr.kids.length kc) t'.toBr.kids ∧ Rise m t' ∧ TrOK t' ∧ leadL h t' = leadL h t ∧ Below w.heap.size w wr) (fun wr => 256 - atCell2 w.heap.size wr)
  case atStart => exact ⟨0, t, sa, cap, unhide X1, unhide HKB, unhide HRI, unhide HOK, rfl, unhide B1⟩
  case round =>
    clear HKB HRI HOK B1 X1
    obtain ⟨m, t', ka, kc, hX, hKB, hRI, hOK, hL, hbw⟩ := hrel
    obtain ⟨_, _, _, _, hkm⟩ := hKB.shape
    have HLF := hide (fun wx => l07Leaf_any t'.toBr.key t'.toBr.val t'.toBr.at_ ka t'.toBr.kids.length kc wx (by unfold maxLen at hkm ⊢; have := hKB.shape; omega))
    have HX := hide hX
    have x0 := hX.cell 0 rfl
    have x1 := hX.cell 1 rfl
    have x2 := hX.cell 2 rfl
    have x3 := hX.cell 3 rfl
    have HBW := hide hbw
    have HL := hide hL
    have HA := hide (atCell2_is (X := w.heap.size) (w := wr) (a := t'.at_) (by rw [x2, toBr_at]))
    clear hX hbw hL
    cases t' with
    | leaf k v =>
      rw [show decide ((Tr.leaf k v).toBr.kids.length = 0) = true from rfl] at HLF
      dsimp only [Tr.toBr, Br.key, Br.val, Br.at_, Br.kids, List.length_nil] at HLF x0 x1 x2 x3 HX hKB
      have HLL : Hid (kh k = kh (leadL h t).1) := hide (by rw [← unhide HL]; rfl)
      have hk24 := (okK_iff.1 hOK.1).2
      have HHS := hide (fun wx => l07Hash_any k wx (by omega))
      go_wp2_with fail
      refine (unhide HLF wr).mono ?_
      rintro e w4 ⟨rfl, hb4⟩
      have B4 := hide ((unhide HBW).trans (hb4.mono (unhide HBW).size))
      have X4 := hide ((unhide HX).below hb4)
      clear hb4 x0 x1 x2 x3 HX HBW
      have x0 := (unhide X4).cell 0 rfl
      go_wp2_with fail
      refine (unhide HHS w4).mono ?_
      rintro e w5 ⟨rfl, hb5⟩
      have B5 := hide ((unhide B4).trans (hb5.mono (unhide B4).size))
      clear hb5
      generalize kh k = q at *
      go_wp2_with fail
      go_ret
      exact unhide HGR _ _ (unhide B5) (unhide HLL)
    | fork a hv l r =>
      rw [show decide ((Tr.fork a hv l r).toBr.kids.length = 0) = false from rfl] at HLF
      dsimp only [Tr.toBr, Br.key, Br.val, Br.at_, Br.kids] at HLF x0 x1 x2 x3 HX hKB
      rw [show ([l.toBr, r.toBr] : List Br).length = 2 from rfl] at HLF x3 HX hKB
      obtain ⟨r0, r1, r2, r3⟩ := hRI
      obtain ⟨_, _, okl, okr⟩ := hOK
      obtain ⟨bb, off, kvf, rfl, _, hat⟩ := hKB.at (by simp)
      have hbb := hat.lt
      obtain ⟨s00, s01, s02, s03⟩ := hat.cells 0 (by simp)
      obtain ⟨s10, s11, s12, s13⟩ := hat.cells 1 (by simp)
      have K0 := hide (hat.kids 0 (by simp))
      have K1 := hide (hat.kids 1 (by simp))
      simp only [List.getD_cons_zero, List.getD_cons_succ, Nat.zero_mul, Nat.add_zero, Nat.one_mul] at s00 s01 s02 s03 s10 s11 s12 s13 K0 K1
      obtain ⟨ka0, kc0, hkv0, _, _⟩ := (unhide K0).shape
      obtain ⟨ka1, kc1, hkv1, _, _⟩ := (unhide K1).shape
      rw [hkv0] at K0 s03
      rw [hkv1] at K1 s13
      have HLE : Hid (leadL h (.fork a hv l r) = if bitN h a = 0 then leadL h l else leadL h r) := rfl
      have HBT := hide (fun wx => l07Bit_any h a wx hh r1)
      have hA : Hid (atCell2 w.heap.size wr = a) := HA
      clear hKB hat hkv0 hkv1 HA
      go_wp2_with fail
      refine (unhide HLF wr).mono ?_
      rintro e w4 ⟨rfl, hb4⟩
      have B4 := hide ((unhide HBW).trans (hb4.mono (unhide HBW).size))
      have X4 := hide ((unhide HX).below hb4)
      clear hb4 x0 x1 x2 x3 HX HBW
      have x0 := (unhide X4).cell 0 rfl
      have x1 := (unhide X4).cell 1 rfl
      have x2 := (unhide X4).cell 2 rfl
      have x3 := (unhide X4).cell 3 rfl
      have f0 := (unhide X4).fro 0
      have f1 := (unhide X4).fro 1
      have f2 := (unhide X4).fro 2
      have f3 := (unhide X4).fro 3
      have B4d := unhide B4
      have t00 := (B4d.cell (p := ⟨bb, off, none⟩) hbb).trans s00
      have t01 := (B4d.cell (p := ⟨bb, off + 1, none⟩) hbb).trans s01
      have t02 := (B4d.cell (p := ⟨bb, off + 2, none⟩) hbb).trans s02
      have t03 := (B4d.cell (p := ⟨bb, off + 3, none⟩) hbb).trans s03
      have t10 := (B4d.cell (p := ⟨bb, off + 4, none⟩) hbb).trans s10
      have t11 := (B4d.cell (p := ⟨bb, off + 4 + 1, none⟩) hbb).trans s11
      have t12 := (B4d.cell (p := ⟨bb, off + 4 + 2, none⟩) hbb).trans s12
      have t13 := (B4d.cell (p := ⟨bb, off + 4 + 3, none⟩) hbb).trans s13
      clear s00 s01 s02 s03 s10 s11 s12 s13 B4d
      rcases bitN_01 h a with hb | hb
      · rw [hb] at HBT HLE
        rw [if_pos rfl] at HLE
        have XN : Hid (Blk ((((w4.setCell ⟨w.heap.size, 0, none⟩ (.string l.toBr.key)).setCell ⟨w.heap.size, 1, none⟩ (.string l.toBr.val)).setCell ⟨w.heap.size, 2, none⟩ (.int .i64 l.toBr.at_)).setCell ⟨w.heap.size, 3, none⟩ (.slice ka0 l.toBr.kids.length kc0)).drew w.heap.size [.string l.toBr.key, .string l.toBr.val, .int .i64 l.toBr.at_, .slice ka0 l.toBr.kids.length kc0]) := hide ((((((unhide X4).set 0 (.string l.toBr.key) (by simp)).set 1 (.string l.toBr.val) (by simp)).set 2 (.int .i64 l.toBr.at_) (by simp)).set 3 (.slice ka0 l.toBr.kids.length kc0) (by simp)).drewN 1)
        have BN : Hid (Below w.heap.size w ((((w4.setCell ⟨w.heap.size, 0, none⟩ (.string l.toBr.key)).setCell ⟨w.heap.size, 1, none⟩ (.string l.toBr.val)).setCell ⟨w.heap.size, 2, none⟩ (.int .i64 l.toBr.at_)).setCell ⟨w.heap.size, 3, none⟩ (.slice ka0 l.toBr.kids.length kc0)).drew) := hide (((((unhide B4).setCell (p := ⟨w.heap.size, 0, none⟩) (Nat.le_refl _) (.string l.toBr.key)).setCell (p := ⟨w.heap.size, 1, none⟩) (Nat.le_refl _) (.string l.toBr.val)).setCell (p := ⟨w.heap.size, 2, none⟩) (Nat.le_refl _) (.int .i64 l.toBr.at_)).setCell (p := ⟨w.heap.size, 3, none⟩) (Nat.le_refl _) (.slice ka0 l.toBr.kids.length kc0)).drew
        go_wp2_with fail
        go_region_law ((go_simp; go_at_call 38; refine (unhide HBT _).mono ?_; rintro e w9 ⟨rfl, hw9⟩; subst w9; go_simp))
        all_goals
          generalize ((((w4.setCell ⟨w.heap.size, 0, none⟩ (.string l.toBr.key)).setCell ⟨w.heap.size, 1, none⟩ (.string l.toBr.val)).setCell ⟨w.heap.size, 2, none⟩ (.int .i64 l.toBr.at_)).setCell ⟨w.heap.size, 3, none⟩ (.slice ka0 l.toBr.kids.length kc0)).drew = w5 at *
          clear x0 x1 x2 x3 f0 f1 f2 f3 t00 t01 t02 t03 t10 t11 t12 t13
          go_wp2_with fail
          have hat := atCell2_is (X := w.heap.size) (w := w5) (a := l.at_) (by rw [(unhide XN).cell 2 rfl, toBr_at])
          have hle := r2.le
          have hle2 := r2.le256
          refine ⟨⟨a + 1, l, ka0, kc0, unhide XN, unhide K0, r2, okl, by rw [← unhide HL, unhide HLE], unhide BN⟩, ?_⟩
          rw [hat, unhide hA]
          omega
      · rw [hb] at HBT HLE
        rw [if_neg (by omega)] at HLE
        have XN : Hid (Blk ((((w4.setCell ⟨w.heap.size, 0, none⟩ (.string r.toBr.key)).setCell ⟨w.heap.size, 1, none⟩ (.string r.toBr.val)).setCell ⟨w.heap.size, 2, none⟩ (.int .i64 r.toBr.at_)).setCell ⟨w.heap.size, 3, none⟩ (.slice ka1 r.toBr.kids.length kc1)).drew w.heap.size [.string r.toBr.key, .string r.toBr.val, .int .i64 r.toBr.at_, .slice ka1 r.toBr.kids.length kc1]) := hide ((((((unhide X4).set 0 (.string r.toBr.key) (by simp)).set 1 (.string r.toBr.val) (by simp)).set 2 (.int .i64 r.toBr.at_) (by simp)).set 3 (.slice ka1 r.toBr.kids.length kc1) (by simp)).drewN 1)
        have BN : Hid (Below w.heap.size w ((((w4.setCell ⟨w.heap.size, 0, none⟩ (.string r.toBr.key)).setCell ⟨w.heap.size, 1, none⟩ (.string r.toBr.val)).setCell ⟨w.heap.size, 2, none⟩ (.int .i64 r.toBr.at_)).setCell ⟨w.heap.size, 3, none⟩ (.slice ka1 r.toBr.kids.length kc1)).drew) := hide (((((unhide B4).setCell (p := ⟨w.heap.size, 0, none⟩) (Nat.le_refl _) (.string r.toBr.key)).setCell (p := ⟨w.heap.size, 1, none⟩) (Nat.le_refl _) (.string r.toBr.val)).setCell (p := ⟨w.heap.size, 2, none⟩) (Nat.le_refl _) (.int .i64 r.toBr.at_)).setCell (p := ⟨w.heap.size, 3, none⟩) (Nat.le_refl _) (.slice ka1 r.toBr.kids.length kc1)).drew
        go_wp2_with fail
        go_region_law ((go_simp; go_at_call 38; refine (unhide HBT _).mono ?_; rintro e w9 ⟨rfl, hw9⟩; subst w9; go_simp))
        all_goals
          generalize ((((w4.setCell ⟨w.heap.size, 0, none⟩ (.string r.toBr.key)).setCell ⟨w.heap.size, 1, none⟩ (.string r.toBr.val)).setCell ⟨w.heap.size, 2, none⟩ (.int .i64 r.toBr.at_)).setCell ⟨w.heap.size, 3, none⟩ (.slice ka1 r.toBr.kids.length kc1)).drew = w5 at *
          clear x0 x1 x2 x3 f0 f1 f2 f3 t00 t01 t02 t03 t10 t11 t12 t13
          go_wp2_with fail
          have hat := atCell2_is (X := w.heap.size) (w := w5) (a := r.at_) (by rw [(unhide XN).cell 2 rfl, toBr_at])
          have hle := r3.le
          have hle2 := r3.le256
          refine ⟨⟨a + 1, r, ka1, kc1, unhide XN, unhide K1, r3, okr, by rw [← unhide HL, unhide HLE], unhide BN⟩, ?_⟩
          rw [hat, unhide hA]
          omega
set_option maxRecDepth 100000 in
set_option maxHeartbeats 1000000 in
theorem l07Differ_any (x y : ByteArray) (w : World) (hx : x.size = 32) (hy : y.size = 32) :
    Calls Tryd.prog 74 #[.string x, .string y] w fun e w' => e = .returned (.int .i64 (fd x y)) ∧ w' = w := by
  have HF : Hid (fd x y = fdF x y 256 0) := rfl
  have HX := hide (fun i (hi : i < 256) => l07Bit_any x i w hx hi)
  have HY := hide (fun i (hi : i < 256) => l07Bit_any y i w hy hi)
  go_enter Tryd.func74, Tryd.ntmps74
  go_wp2_with fail
  go_loop [5] (fun i => ∃ k : Nat, k ≤ 256 ∧ i = .int .i64 k ∧ fdF x y (256 - k) k = fd x y) (fun i => 256 - (intOf i).toNat)
  case atStart => exact ⟨0, Nat.zero_le _, rfl, rfl⟩
  case round =>
    obtain ⟨k, hk, rfl, hfd⟩ := hrel
    by_cases hlt : k < 256
    · have p1 : (k : Int) < 256 := by omega
      have HXk := hide (unhide HX k hlt)
      have HYk := hide (unhide HY k hlt)
      have HD : Hid (fd x y = if bitN x k = bitN y k then fdF x y (256 - (k + 1)) (k + 1) else k) := hide (by
        rw [← hfd, show 256 - k = (256 - (k + 1)) + 1 by omega]
        rfl)
      clear hfd
      have hx1 := bitN_01 x k
      have hy1 := bitN_01 y k
      by_cases he : bitN x k = bitN y k
      · rw [if_pos he] at HD
        rw [he] at HXk
        generalize bitN y k = q at *
        clear he
        go_wp2_with fail
        refine (unhide HXk).mono ?_
        rintro e w9 ⟨rfl, hw9⟩
        subst w9
        go_wp2_with fail
        refine (unhide HYk).mono ?_
        rintro e w9 ⟨rfl, hw9⟩
        subst w9
        go_wp2_with fail
        go_round
        case rel => exact ⟨k + 1, by omega, by go_num, (unhide HD).symm⟩
        case measure => simp [intOf]; omega
      · rw [if_neg he] at HD
        generalize bitN x k = q1 at *
        generalize bitN y k = q2 at *
        have hne : (q1 != q2) = true := by simpa using he
        go_wp2_with fail
        refine (unhide HXk).mono ?_
        rintro e w9 ⟨rfl, hw9⟩
        subst w9
        go_wp2_with fail
        refine (unhide HYk).mono ?_
        rintro e w9 ⟨rfl, hw9⟩
        subst w9
        go_wp2_with fail
        go_ret
        exact ⟨by rw [unhide HD]; rfl, rfl⟩
    · obtain rfl : k = 256 := by omega
      have HD : Hid (fd x y = 256) := hide hfd.symm
      clear hfd
      go_wp2_with fail
      go_ret
      exact ⟨by rw [unhide HD]; rfl, rfl⟩
set_option maxRecDepth 100000 in
set_option maxHeartbeats 1000000 in
theorem l07New_any (k v : ByteArray) (w : World) :
    Calls Tryd.prog 73 #[.string k, .string v] w fun e w' => e = .returned (.agg #[.string k, .string v, .int .i64 256, .slice none 0 0]) ∧ Below w.heap.size w w' := by
  have R1 := hide (Blk.new w #[.string ⟨#[]⟩, .string ⟨#[]⟩, .int .i64 0, .slice none 0 0] 25 w.heap.size rfl)
  have B1 := hide ((Below.refl w.heap.size w).alloc (Nat.le_refl _) (.cells #[.string ⟨#[]⟩, .string ⟨#[]⟩, .int .i64 0, .slice none 0 0] 25))
  go_enter Tryd.func73, Tryd.ntmps73
  go_upto_region 1 with fail
  generalize w.alloc (.cells #[.string ⟨#[]⟩, .string ⟨#[]⟩, .int .i64 0, .slice none 0 0] 25) = w1 at *
  have r0 := (unhide R1).cell 0 rfl
  have r1 := (unhide R1).cell 1 rfl
  have r2 := (unhide R1).cell 2 rfl
  have r3 := (unhide R1).cell 3 rfl
  have f0 := (unhide R1).fro 0
  have f1 := (unhide R1).fro 1
  have f2 := (unhide R1).fro 2
  have f3 := (unhide R1).fro 3
  have hZ := set4_blk (unhide R1) (.string k) (.string v) (.int .i64 256) (.slice none 0 0)
  have z0 := hZ.cell 0 rfl
  have z1 := hZ.cell 1 rfl
  have z2 := hZ.cell 2 rfl
  have z3 := hZ.cell 3 rfl
  have HT4 := set4_touch w1 w.heap.size (.string k) (.string v) (.int .i64 256) (.slice none 0 0)
  have HBF := hide ((unhide B1).trans (HT4.below (unhide B1).size (fun q hq e => by omega)))
  unfold set4 at z0 z1 z2 z3
  clear hZ HT4
  go_wp2_with fail
  refine bodyPost_ret (v := .agg #[.string k, .string v, .int .i64 256, .slice none 0 0]) (by simp [results, Tryd.results73, go_sem, z0, z1, z2, z3]) rfl ?_
  exact ⟨rfl, unhide HBF⟩
end Go.Proofs.YtnajpeaieeaflaaDoor.Sha
namespace Go.Proofs.YtnajpeaieeaflaaDoor.Sha
open Go.ChangeShapes Go.WideShapes Go.ChangeAt Go.RowKit
set_option linter.unusedVariables false
set_option linter.unusedSimpArgs false

theorem wrapS (n : Int) (h0 : 0 ≤ n) (h1 : n < 9223372036854775808) : IntKind.i64.wrap n = n := by
  simp only [IntKind.wrap, IntKind.bits, IntKind.signed]
  simp
  omega
set_option maxRecDepth 100000 in
set_option maxHeartbeats 4000000 in
theorem l07Size_any : ∀ (t : Tr), TrOK t → t.lvN ≤ 1000 → ∀ (S : Nat → Prop) (kv : Value) (w : World), Brs S w kv t.toBr.kids →
    Calls Tryd.prog 43 #[.agg #[.string t.toBr.key, .string t.toBr.val, .int .i64 t.toBr.at_, kv]] w fun e w' => e = .returned (.int .i64 t.lvN) ∧ Below w.heap.size w w' := by
  intro t
  induction t with
  | leaf k v =>
    intro hok hsz S kv w hB
    obtain ⟨sa, cap, rfl, _, hcm⟩ := hB.shape
    have HNE := not_empty hok
    have hk := (okK_iff.1 hok.1).2
    have hv : v.size ≤ 60 := hok.2
    dsimp only [Tr.toBr, Br.key, Br.val, Br.at_, Br.kids] at HNE ⊢
    have B0 := hide ((Below.refl w.heap.size w).alloc (Nat.le_refl _) (.cells #[.string k, .string v, .int .i64 256, .slice sa 0 cap] 25))
    have X0 := hide (Blk.new w #[.string k, .string v, .int .i64 256, .slice sa 0 cap] 25 w.heap.size rfl)
    have HE := hide (fun wx => l07Empty_any k v 256 [] sa cap wx (by simp))
    have HLF := hide (fun wx => l07Leaf_any k v 256 sa 0 cap wx (by omega))
    rw [HNE] at HE
    simp only [List.length_nil] at HE
    rw [show decide (0 = 0) = true from rfl] at HLF
    have HV : Hid ((Tr.leaf k v).lvN = 1) := rfl
    clear hB hok HNE
    go_enter Tryd.func43, Tryd.ntmps43
    go_wp2_with fail
    generalize w.alloc (.cells #[.string k, .string v, .int .i64 256, .slice sa 0 cap] 25) = w1 at *
    refine (unhide HE w1).mono ?_
    rintro e w2 ⟨rfl, hb2⟩
    have B2 := hide ((unhide B0).trans (hb2.mono (unhide B0).size))
    have X2 := hide ((unhide X0).below hb2)
    clear hb2
    have x0 := (unhide X2).cell 0 rfl
    have x1 := (unhide X2).cell 1 rfl
    have x2 := (unhide X2).cell 2 rfl
    have x3 := (unhide X2).cell 3 rfl
    go_wp2_with fail
    refine (unhide HLF w2).mono ?_
    rintro e w3 ⟨rfl, hb3⟩
    have B3 := hide ((unhide B2).trans (hb3.mono (unhide B2).size))
    have X3 := hide ((unhide X2).below hb3)
    clear hb3 x0 x1 x2 x3
    have x0 := (unhide X3).cell 0 rfl
    have x1 := (unhide X3).cell 1 rfl
    go_wp2_with fail
    go_ret
    exact ⟨ret_int (by rw [unhide HV]; rfl), unhide B3⟩
  | fork a hh l r ihl ihr =>
    intro hok hsz S kv w hB
    obtain ⟨sa, cap, rfl, _, hcm⟩ := hB.shape
    have HNE := not_empty hok
    obtain ⟨ha, _, okl, okr⟩ := hok
    dsimp only [Tr.toBr, Br.key, Br.val, Br.at_, Br.kids] at HNE hB ⊢
    have B0 := hide ((Below.refl w.heap.size w).alloc (Nat.le_refl _) (.cells #[.string ⟨#[]⟩, .string ⟨#[]⟩, .int .i64 a, .slice sa 2 cap] 25))
    have X0 := hide (Blk.new w #[.string ⟨#[]⟩, .string ⟨#[]⟩, .int .i64 a, .slice sa 2 cap] 25 w.heap.size rfl)
    have HE := hide (fun wx => l07Empty_any ⟨#[]⟩ ⟨#[]⟩ a [l.toBr, r.toBr] sa cap wx (by unfold maxLen; simp))
    have HLF := hide (fun wx => l07Leaf_any ⟨#[]⟩ ⟨#[]⟩ a sa 2 cap wx (by unfold maxLen; omega))
    rw [HNE] at HE
    rw [show decide (2 = 0) = false from rfl] at HLF
    obtain ⟨bb, off, kvf, rfl, _, hat⟩ := hB.at (by simp)
    have hbb := hat.lt
    obtain ⟨s00, s01, s02, s03⟩ := hat.cells 0 (by simp)
    obtain ⟨s10, s11, s12, s13⟩ := hat.cells 1 (by simp)
    have K0 := hide (hat.kids 0 (by simp))
    have K1 := hide (hat.kids 1 (by simp))
    simp only [List.getD_cons_zero, List.getD_cons_succ, Nat.zero_mul, Nat.add_zero, Nat.one_mul] at s00 s01 s02 s03 s10 s11 s12 s13 K0 K1
    obtain ⟨ka0, kc0, hkv0, _, _⟩ := (unhide K0).shape
    obtain ⟨ka1, kc1, hkv1, _, _⟩ := (unhide K1).shape
    rw [hkv0] at K0 s03
    rw [hkv1] at K1 s13
    have hz2 : l.lvN + r.lvN ≤ 1000 := hsz
    have hz0 : l.lvN ≤ 1000 := by omega
    have hz1 : r.lvN ≤ 1000 := by omega
    have HL := hide (fun wx (hx : Below w.heap.size w wx) => ihl okl hz0 S _ wx ((unhide K0).blw hx))
    have HR := hide (fun wx (hx : Below w.heap.size w wx) => ihr okr hz1 S _ wx ((unhide K1).blw hx))
    have HV : Hid ((Tr.fork a hh l r).lvN = l.lvN + r.lvN) := rfl
    clear hB hat hkv0 hkv1 K0 K1 ihl ihr HNE
    generalize l.toBr = b0 at *
    generalize r.toBr = b1 at *
    generalize l.lvN = rl at *
    generalize r.lvN = rr at *
    simp only [List.length_cons, List.length_nil] at HE
    go_enter Tryd.func43, Tryd.ntmps43
    go_wp2_with fail
    generalize w.alloc (.cells #[.string ⟨#[]⟩, .string ⟨#[]⟩, .int .i64 a, .slice (some ⟨bb, off, none⟩) 2 cap] 25) = w1 at *
    refine (unhide HE w1).mono ?_
    rintro e w2 ⟨rfl, hb2⟩
    have B2 := hide ((unhide B0).trans (hb2.mono (unhide B0).size))
    have X2 := hide ((unhide X0).below hb2)
    clear hb2
    have x0 := (unhide X2).cell 0 rfl
    have x1 := (unhide X2).cell 1 rfl
    have x2 := (unhide X2).cell 2 rfl
    have x3 := (unhide X2).cell 3 rfl
    go_wp2_with fail
    refine (unhide HLF w2).mono ?_
    rintro e w3 ⟨rfl, hb3⟩
    have B3 := hide ((unhide B2).trans (hb3.mono (unhide B2).size))
    have X3 := hide ((unhide X2).below hb3)
    clear hb3 x0 x1 x2 x3
    have hX := (unhide X3).1
    have hw3 := (unhide B3).size
    have HSX : Hid (∀ wx, Below w3.heap.size w3 wx → wx.cell? ⟨w.heap.size, 3, none⟩ = some (.slice (some ⟨bb, off, none⟩) 2 cap) ∧ wx.cell? ⟨bb, off, none⟩ = some (.string b0.key) ∧ wx.cell? ⟨bb, off + 1, none⟩ = some (.string b0.val) ∧ wx.cell? ⟨bb, off + 2, none⟩ = some (.int .i64 b0.at_) ∧ wx.cell? ⟨bb, off + 3, none⟩ = some (.slice ka0 b0.kids.length kc0) ∧ wx.cell? ⟨bb, off + 4, none⟩ = some (.string b1.key) ∧ wx.cell? ⟨bb, off + 4 + 1, none⟩ = some (.string b1.val) ∧ wx.cell? ⟨bb, off + 4 + 2, none⟩ = some (.int .i64 b1.at_) ∧ wx.cell? ⟨bb, off + 4 + 3, none⟩ = some (.slice ka1 b1.kids.length kc1)) := hide (fun wx hb => by
      have hb' := (unhide B3).trans (hb.mono hw3)
      have X := (unhide X3).below hb
      exact ⟨X.cell 3 rfl, (hb'.cell (p := ⟨bb, off, none⟩) hbb).trans s00, (hb'.cell (p := ⟨bb, off + 1, none⟩) hbb).trans s01, (hb'.cell (p := ⟨bb, off + 2, none⟩) hbb).trans s02, (hb'.cell (p := ⟨bb, off + 3, none⟩) hbb).trans s03, (hb'.cell (p := ⟨bb, off + 4, none⟩) hbb).trans s10, (hb'.cell (p := ⟨bb, off + 4 + 1, none⟩) hbb).trans s11, (hb'.cell (p := ⟨bb, off + 4 + 2, none⟩) hbb).trans s12, (hb'.cell (p := ⟨bb, off + 4 + 3, none⟩) hbb).trans s13⟩)
    obtain ⟨y3, t00, t01, t02, t03, t10, t11, t12, t13⟩ := unhide HSX w3 (Below.refl _ _)
    clear s00 s01 s02 s03 s10 s11 s12 s13
    go_wp2_with fail
    go_region_held3 (fun wx => wx.cell? ⟨w.heap.size, 3, none⟩ = some (.slice (some ⟨bb, off, none⟩) 2 cap) ∧ wx.cell? ⟨bb, off, none⟩ = some (.string b0.key) ∧ wx.cell? ⟨bb, off + 1, none⟩ = some (.string b0.val) ∧ wx.cell? ⟨bb, off + 2, none⟩ = some (.int .i64 b0.at_) ∧ wx.cell? ⟨bb, off + 3, none⟩ = some (.slice ka0 b0.kids.length kc0) ∧ wx.cell? ⟨bb, off + 4, none⟩ = some (.string b1.key) ∧ wx.cell? ⟨bb, off + 4 + 1, none⟩ = some (.string b1.val) ∧ wx.cell? ⟨bb, off + 4 + 2, none⟩ = some (.int .i64 b1.at_) ∧ wx.cell? ⟨bb, off + 4 + 3, none⟩ = some (.slice ka1 b1.kids.length kc1)) (first | go_keep | exact unhide HSX _ hc2 | exact unhide HSX _ hc1) (first
      | (go_at_call 43; refine (unhide HR _ ((unhide B3).trans (hc1.mono hw3))).mono ?_; rintro e w5 ⟨rfl, hb5⟩; have hc2 := hc1.trans (hb5.mono hc1.size))
      | (go_at_call 43; refine (unhide HL _ ((unhide B3).trans (((Below.refl _ w3).drew).mono hw3))).mono ?_; rintro e w4 ⟨rfl, hb4⟩; have hc1 : Below w3.heap.size w3 w4 := ((Below.refl _ w3).drew).trans hb4))
    have K := hide ((unhide B3).trans (hc2.mono hw3))
    clear hb4 hb5 hc1 hc2 y3 t00 t01 t02 t03 t10 t11 t12 t13
    go_wp2_with fail
    go_ret
    refine ⟨ret_int ?_, unhide K⟩
    rw [unhide HV, wrapS _ (by omega) (by omega)]
    omega
end Go.Proofs.YtnajpeaieeaflaaDoor.Sha
namespace Go.Proofs.YtnajpeaieeaflaaDoor.Sha
open Go.ChangeShapes Go.WideShapes Go.ChangeAt Go.RowKit
set_option linter.unusedVariables false
set_option linter.unusedSimpArgs false

theorem mtxR_size : ∀ (n k : Nat), k ≤ n → ∀ out : ByteArray, (mtxR k out).size ≤ out.size + k := by
  intro n
  induction n with
  | zero =>
    intro k hk out
    obtain rfl : k = 0 := by omega
    rw [mtxR, dif_pos rfl]; omega
  | succ n ih =>
    intro k hk out
    by_cases h : k = 0
    · rw [mtxR, dif_pos h]; omega
    · rw [mtxR, dif_neg h]
      have := ih (k / 10) (by omega) (strOfNums [48 + ((k % 10 : Nat) : Int)] ++ out)
      rw [ByteArray.size_append, strOfNums_size, List.length_cons, List.length_nil] at this
      omega
theorem mtx_size (k : Nat) : (mtx k).size ≤ 1 + k := by
  unfold mtx
  rw [ByteArray.size_append, strOfNums_size]
  have := mtxR_size k k (Nat.le_refl _) (strOfNums [])
  rw [strOfNums_size] at this
  simp at this ⊢
  omega
mutual
/-- How many branches there are. -/
def Br.cnt : Br → Nat
  | .mk _ _ _ l => 1 + cntL l
def cntL : List Br → Nat
  | [] => 0
  | b :: r => Br.cnt b + cntL r
end
mutual
/-- Branches, marked from a number on. -/
def markB (k : Nat) : Br → Br
  | .mk _ _ _ l => .mk (mtx k) (mtx (k + 1)) ((k + 2 : Nat) : Int) (markL (k + 3) l)
def markL (k : Nat) : List Br → List Br
  | [] => []
  | b :: r => markB k b :: markL (k + 3 * Br.cnt b) r
end
theorem cntL_cons (b : Br) (r : List Br) : cntL (b :: r) = b.cnt + cntL r := by conv => lhs; unfold cntL
theorem Br.cnt_eq (b : Br) : b.cnt = 1 + cntL b.kids := by cases b; unfold Br.cnt; rfl
theorem markB_key (k : Nat) (b : Br) : (markB k b).key = mtx k ∧ (markB k b).val = mtx (k + 1) ∧ (markB k b).at_ = ((k + 2 : Nat) : Int) ∧ (markB k b).kids = markL (k + 3) b.kids := by
  cases b; unfold markB; exact ⟨rfl, rfl, rfl, rfl⟩
theorem markL_len : ∀ (k : Nat) (l : List Br), (markL k l).length = l.length
  | k, [] => by unfold markL; rfl
  | k, b :: r => by unfold markL; simp [markL_len _ r]
theorem markL_get : ∀ (l : List Br) (k i : Nat), i < l.length → (markL k l).getD i default = markB (k + 3 * cntL (l.take i)) (l.getD i default)
  | [], k, i, h => by simp at h
  | b :: r, k, 0, h => by unfold markL; simp [cntL]
  | b :: r, k, i + 1, h => by
    have := markL_get r (k + 3 * b.cnt) i (by simpa using h)
    unfold markL
    simp only [List.getD_cons_succ, List.take_succ_cons]
    rw [this, cntL_cons]
    congr 1
    omega
theorem cnt_take : ∀ (l : List Br) (i : Nat), i < l.length → cntL (l.take (i + 1)) = cntL (l.take i) + (l.getD i default).cnt
  | [], i, h => by simp at h
  | b :: r, 0, h => by simp [cntL]
  | b :: r, i + 1, h => by
    have := cnt_take r i (by simpa using h)
    simp only [List.take_succ_cons, List.getD_cons_succ]
    rw [cntL_cons, cntL_cons, this]
    omega
theorem cnt_take_le : ∀ (l : List Br) (i : Nat), cntL (l.take i) ≤ cntL l
  | [], i => by simp
  | b :: r, 0 => by simp [cntL]
  | b :: r, i + 1 => by
    have := cnt_take_le r i
    simp only [List.take_succ_cons]
    rw [cntL_cons, cntL_cons]
    omega
mutual
theorem Br.cnt_wt : ∀ b : Br, (b.cnt : Int) ≤ 1 + b.wt
  | .mk k v _ l => by unfold Br.cnt Br.wt; have := cntL_wt l; omega
theorem cntL_wt : ∀ l : List Br, (cntL l : Int) ≤ wtL l
  | [] => by unfold cntL wtL; omega
  | b :: r => by unfold cntL wtL; have := Br.cnt_wt b; have := cntL_wt r; omega
end
end Go.Proofs.YtnajpeaieeaflaaDoor.Sha
namespace Go.Proofs.YtnajpeaieeaflaaDoor.Sha
open Go.ChangeShapes Go.WideShapes Go.ChangeAt Go.RowKit
set_option linter.unusedVariables false
set_option linter.unusedSimpArgs false

/-- The copy that grows: the argument's box X, the result's R, the copy's O; the row of kids, and each kid's slices. -/
structure Ow (X R O : Nat) (w wr : World) (ax : List Value) (k v : ByteArray) (a : Int) (l : List Br) (j : Nat) (sv : Value) (xs : List Value) (kvf : Nat → Value) (Si : Nat → Nat → Prop) : Prop where
  x : Blk wr X ax
  r : Blk wr R [.string ⟨#[]⟩, .string ⟨#[]⟩, .int .i64 0, .slice none 0 0]
  o : Blk wr O [.string k, .string v, .int .i64 a, sv]
  own : wr.ownsRow (O + 1) 25 4 sv j xs
  row : RowIs xs l kvf j
  kid : ∀ i, i < j → BrO wr (Si i) (kvf i) (l.getD i default).kids
  sep : ∀ i b, i < j → Si i b → O < b ∧ b < wr.heap.size ∧ sv.ownBlock ≠ some b
  dis : ∀ i i' b, i < i' → i' < j → Si i b → ¬ Si i' b
  b : Below X w wr
  s0 : X < R
  s1 : R < O
variable {X R O : Nat} {w wr : World} {ax : List Value} {k v : ByteArray} {a : Int} {l : List Br} {j : Nat} {sv : Value} {xs : List Value} {kvf : Nat → Value} {Si : Nat → Nat → Prop}
theorem Ow.below {wx : World} (h : Ow X R O w wr ax k v a l j sv xs kvf Si) (hb : Below wr.heap.size wr wx) : Ow X R O w wx ax k v a l j sv xs kvf Si :=
  ⟨h.x.below hb, h.r.below hb, h.o.below hb, own_kept (T := fun _ => False) h.own (Touch.ofBelow hb) (fun _ _ h => h), h.row, fun i hi => (h.kid i hi).blw hb, fun i b hi hs => ⟨(h.sep i b hi hs).1, Nat.lt_of_lt_of_le (h.sep i b hi hs).2.1 hb.size, (h.sep i b hi hs).2.2⟩, h.dis, h.b.trans (hb.mono (Nat.le_of_lt h.x.1)), h.s0, h.s1⟩
theorem Ow.push {w6 w7 : World} {Sk : Nat → Prop} {ks : Value} {m : Nat} (h : Ow X R O w w6 ax k v a l j sv xs kvf Si) (ob : Obj) {gg cg : Nat}
    (hk : BrO w6 Sk ks (l.getD j default).kids) (hS : ∀ b, Sk b → m ≤ b ∧ b < w6.heap.size) (hm : O < m) (hSi : ∀ i b, i < j → Si i b → b < m) (hso : ∀ b, sv.ownBlock = some b → b < m)
    (hown : w7.ownsRow (O + 1) 25 4 (.slice (some ⟨gg, 0, none⟩) (j + 1) cg) (j + 1) (xs ++ [.string (l.getD j default).key, .string (l.getD j default).val, .int .i64 (l.getD j default).at_, ks]))
    (hgrow : (w6.alloc ob).grownBy w7 sv.ownBlock) (hat : sv.ownBlock = some gg ∨ gg = w6.heap.size + 1) :
    Blk w7 O [.string k, .string v, .int .i64 a, sv] ∧ Ow X R O w (w7.setCell ⟨O, 3, none⟩ (.slice (some ⟨gg, 0, none⟩) (j + 1) cg)) ax k v a l (j + 1) (.slice (some ⟨gg, 0, none⟩) (j + 1) cg) (xs ++ [.string (l.getD j default).key, .string (l.getD j default).val, .int .i64 (l.getD j default).at_, ks]) (fun i => if i = j then ks else kvf i) (fun i => if i = j then Sk else Si i) := by
  have t1 : Touch (fun q => sv.ownBlock = some q) w6 w7 := ((Touch.refl (fun q => sv.ownBlock = some q) w6).alloc ob).grown hgrow (fun q hq _ => hq)
  have hlt := fun q (hq : sv.ownBlock = some q) => World.ownsRow.lt h.own q hq
  have o7 : Blk w7 O [.string k, .string v, .int .i64 a, sv] := h.o.kept t1 (fun e => by have := (hlt O e).1; omega)
  have t2 : Touch (fun q => sv.ownBlock = some q ∨ q = O) w6 (w7.setCell ⟨O, 3, none⟩ (.slice (some ⟨gg, 0, none⟩) (j + 1) cg)) :=
    (((Touch.refl (fun q => sv.ownBlock = some q ∨ q = O) w6).trans t1 (fun _ _ h => .inl h))).setCell ⟨O, 3, none⟩ _ (fun _ => .inr rfl)
  have h0 := h.s0
  have h1 := h.s1
  have hO := h.o.1
  have hxl : xs.length = j * 4 := h.own.1
  have hgO : gg ≠ O := by
    rcases hat with e | e
    · have := (hlt gg e).1; omega
    · omega
  have hsz := t2.size
  refine ⟨o7, ?_⟩
  refine ⟨h.x.kept t2 (fun e => ?_), h.r.kept t2 (fun e => ?_), o7.set 3 _ (by simp), ?_, ?_, ?_, ?_, ?_, h.b.trans (t2.below (Nat.le_of_lt h.x.1) (fun q hq e => ?_)), h0, h1⟩
  · rcases e with e | e
    · have := (hlt X e).1; omega
    · omega
  · rcases e with e | e
    · have := (hlt R e).1; omega
    · omega
  · exact own_kept (T := fun q => q = O) hown ((Touch.refl (fun q => q = O) w7).setCell ⟨O, 3, none⟩ _ (fun _ => rfl)) (fun q hq e => by
      have e2 : gg = q := by simpa [Value.ownBlock] using hq
      omega)
  · intro i hi
    by_cases e : i = j
    · subst e
      dsimp only
      rw [if_pos rfl]
      refine ⟨?_, ?_, ?_, ?_⟩ <;> rw [List.getElem?_append_right (by omega), hxl]
      · rw [show i * 4 - i * 4 = 0 by omega]; rfl
      · rw [show i * 4 + 1 - i * 4 = 1 by omega]; rfl
      · rw [show i * 4 + 2 - i * 4 = 2 by omega]; rfl
      · rw [show i * 4 + 3 - i * 4 = 3 by omega]; rfl
    · dsimp only
      rw [if_neg e]
      obtain ⟨e0, e1, e2, e3⟩ := h.row i (by omega)
      rw [List.getElem?_append_left (by omega), List.getElem?_append_left (by omega), List.getElem?_append_left (by omega), List.getElem?_append_left (by omega)]
      exact ⟨e0, e1, e2, e3⟩
  · intro i hi
    by_cases e : i = j
    · subst e
      rw [if_pos rfl, if_pos rfl]
      exact hk.touch t2 (fun b hb e => by
        rcases e with e | e
        · have := hso b e; have := (hS b hb).1; omega
        · have := (hS b hb).1; omega)
    · rw [if_neg e, if_neg e]
      exact (h.kid i (by omega)).touch t2 (fun b hb e => by
        rcases e with e | e
        · exact (h.sep i b (by omega) hb).2.2 e
        · have := (h.sep i b (by omega) hb).1; omega)
  · intro i b hi hb
    by_cases e : i = j
    · subst e
      rw [if_pos rfl] at hb
      have hb2 := hS b hb
      refine ⟨by omega, by omega, fun e2 => ?_⟩
      have e3 : gg = b := by simpa [Value.ownBlock] using e2
      rcases hat with e | e
      · have := hso gg e; omega
      · omega
    · rw [if_neg e] at hb
      have hb2 := h.sep i b (by omega) hb
      refine ⟨hb2.1, by omega, fun e2 => ?_⟩
      have e3 : gg = b := by simpa [Value.ownBlock] using e2
      rcases hat with e | e
      · exact hb2.2.2 (by rw [e, e3])
      · omega
  · intro i i' b hii hi' hb hb2
    by_cases e : i' = j
    · subst e
      rw [if_pos rfl] at hb2
      rw [if_neg (by omega)] at hb
      have := hSi i b (by omega) hb
      have := (hS b hb2).1
      omega
    · rw [if_neg e] at hb2
      rw [if_neg (by omega)] at hb
      exact h.dis i i' b hii (by omega) hb hb2
  · rcases e with e | e
    · have := (hlt q e).1; omega
    · omega
theorem Ow.shape (h : Ow X R O w wr ax k v a l j sv xs kvf Si) : ∃ ga gc, sv = .slice ga j gc := by
  rcases h.own.2 with ⟨rfl, h0⟩ | ⟨g, cap, cur, rfl, _⟩
  · exact ⟨none, 0, by rw [h0]⟩
  · exact ⟨_, _, rfl⟩
theorem Ow.fin {n : Nat} {ga : Option Addr} {gc : Nat} (h : Ow w.heap.size R O w wr ax k v a l l.length (.slice ga l.length gc) xs kvf Si) (hs : ∀ i, i < l.length → (l.getD i default).key.size ≤ maxLen ∧ (l.getD i default).val.size ≤ maxLen) :
    Blk (set4 wr R (.string k) (.string v) (.int .i64 a) (.slice ga l.length gc)) R [.string k, .string v, .int .i64 a, .slice ga l.length gc] ∧
    BrO (set4 wr R (.string k) (.string v) (.int .i64 a) (.slice ga l.length gc)) (fun x => w.heap.size ≤ x ∧ x < (set4 wr R (.string k) (.string v) (.int .i64 a) (.slice ga l.length gc)).heap.size) (.slice ga l.length gc) l ∧
    Below w.heap.size w (set4 wr R (.string k) (.string v) (.int .i64 a) (.slice ga l.length gc)) := by
  have ht := set4_touch wr R (.string k) (.string v) (.int .i64 a) (.slice ga l.length gc)
  have hts := ht.size
  have h0 := h.s0
  have h1 := h.s1
  refine ⟨set4_blk h.r _ _ _ _, ?_, h.b.trans (ht.below h.b.size (fun q hq e => by omega))⟩
  have hO : BrO wr (fun x => w.heap.size ≤ x ∧ x < wr.heap.size ∧ x ≠ R) (.slice ga l.length gc) l := by
    rcases h.own.2 with ⟨e, h0⟩ | ⟨g, cap, cur, e, hg, r⟩
    · obtain rfl := List.eq_nil_of_length_eq_zero h0
      cases e
      exact .nil _ _ _ (by unfold maxLen; omega)
    · have hlt := World.ownsRow.lt h.own
      cases e
      by_cases hl : l.length = 0
      · obtain rfl := List.eq_nil_of_length_eq_zero hl
        exact .nil _ _ _ r.2.2.1
      have hgl := hlt g rfl
      refine BrO.row _ g gc l kvf xs Si (by omega) ⟨by omega, by omega, by omega⟩ (World.ownsRow.mono h.own (Nat.zero_le _)) h.row hs ?_ h.dis h.kid
      intro i b hi hb
      have h3 := h.sep i b hi hb
      exact ⟨⟨by omega, by omega, by omega⟩, fun e => h3.2.2 (by rw [e]; rfl)⟩
  exact (hO.touch ht (fun q hq e => hq.2.2 e)).mono (fun q hq => ⟨hq.1, by omega⟩)
theorem cnt_len : ∀ l : List Br, l.length ≤ cntL l
  | [] => by simp
  | b :: r => by
    have := cnt_len r
    have := Br.cnt_eq b
    rw [cntL_cons, List.length_cons]
    omega
theorem cnt_kid (l : List Br) (j : Nat) (hj : j < l.length) : cntL (l.getD j default).kids ≤ cntL l := by
  have h1 := cnt_take l j hj
  have h2 := cnt_take_le l (j + 1)
  have h3 := Br.cnt_eq (l.getD j default)
  omega
theorem br_eta (b : Br) : Br.mk b.key b.val b.at_ b.kids = b := by cases b; rfl
set_option maxRecDepth 100000 in
set_option maxHeartbeats 4000000 in
theorem l07Own_any {S : Nat → Prop} {w0 : World} {u : Value} {l : List Br} (h : Brs S w0 u l) : ∀ (k v : ByteArray) (a : Int) (w : World), cntL l ≤ 1048576 → Below w0.heap.size w0 w →
    Calls Tryd.prog 48 #[.agg #[.string k, .string v, .int .i64 a, u]] w fun e w' => BranchR (.mk k v a l) w e w' := by
  obtain ⟨i0, hi, hz0, hz1, hz2⟩ := info_parts infoBr
  induction h with
  | nil sa cap hc =>
    intro k v a w hcn hb0
    have HGR : Hid (∀ sa n cap w', BrO w' (fun x => w.heap.size ≤ x ∧ x < w'.heap.size) (.slice sa n cap) [] → Below w.heap.size w w' → BranchR (.mk k v a []) w (.returned (.agg #[.string k, .string v, .int .i64 a, .slice sa n cap])) w') := hide (fun sa n cap w' h1 hb => ⟨sa, n, cap, rfl, h1, hb⟩)
    have G1 : Hid (Ow w.heap.size (w.heap.size + 1) (w.heap.size + 1 + 1) w (((w.alloc (.cells #[.string k, .string v, .int .i64 a, .slice sa 0 cap] 25)).alloc (.cells #[.string ⟨#[]⟩, .string ⟨#[]⟩, .int .i64 0, .slice none 0 0] 25)).alloc (.cells #[.string k, .string v, .int .i64 a, .slice none 0 0] 25)) [.string k, .string v, .int .i64 a, .slice sa 0 cap] k v a [] 0 (.slice none 0 0) [] (fun _ => undef) (fun _ _ => False)) := hide
      ⟨((Blk.new w _ _ w.heap.size rfl).alloc _).alloc _, (Blk.new _ _ _ (w.heap.size + 1) (by simp)).alloc _, Blk.new _ _ _ (w.heap.size + 1 + 1) (by simp), World.ownsRow_nil _ _ _ _, fun i hi => absurd hi (by omega), fun i hi => absurd hi (by omega), fun i b hi => absurd hi (by omega), fun i i' b h1 h2 => absurd h2 (by omega), (((Below.refl _ _).alloc (Nat.le_refl _) _).alloc (by simp) _).alloc (by simp; omega) _, by omega, by omega⟩
    clear hb0
    go_enter Tryd.func48, Tryd.ntmps48
    go_wp2_with fail
    generalize ((w.alloc (.cells #[.string k, .string v, .int .i64 a, .slice sa 0 cap] 25)).alloc (.cells #[.string ⟨#[]⟩, .string ⟨#[]⟩, .int .i64 0, .slice none 0 0] 25)).alloc (.cells #[.string k, .string v, .int .i64 a, .slice none 0 0] 25) = w1 at *
    generalize w.heap.size + 1 + 1 = O at *
    generalize w.heap.size + 1 = R at *
    go_loopw [4] (fun i wr => i = .int .i64 0 ∧ wr = w1) (fun _ _ => 0)
    case atStart => exact ⟨rfl, rfl⟩
    case round =>
      obtain ⟨rfl, hwr⟩ := hrel
      subst wr
      have hE := Ow.fin (n := 0) (l := []) (unhide G1) (fun i hi => absurd hi (by simp))
      have x3 := (unhide G1).x.cell 3 rfl
      have o0 := (unhide G1).o.cell 0 rfl
      have o1 := (unhide G1).o.cell 1 rfl
      have o2 := (unhide G1).o.cell 2 rfl
      have o3 := (unhide G1).o.cell 3 rfl
      have r0 := (unhide G1).r.cell 0 rfl
      have r1 := (unhide G1).r.cell 1 rfl
      have r2 := (unhide G1).r.cell 2 rfl
      have r3 := (unhide G1).r.cell 3 rfl
      have f0 := (unhide G1).r.fro 0
      have f1 := (unhide G1).r.fro 1
      have f2 := (unhide G1).r.fro 2
      have f3 := (unhide G1).r.fro 3
      have z0 := hE.1.cell 0 rfl
      have z1 := hE.1.cell 1 rfl
      have z2 := hE.1.cell 2 rfl
      have z3 := hE.1.cell 3 rfl
      have HE := hide hE
      unfold set4 at z0 z1 z2 z3
      simp only [List.length_nil] at z0 z1 z2 z3
      clear hE
      go_wp2_with fail
      refine bodyPost_ret (v := .agg #[.string k, .string v, .int .i64 a, .slice none 0 0]) (by simp [results, Tryd.results48, go_sem, z0, z1, z2, z3]) rfl ?_
      exact unhide HGR _ _ _ _ (unhide HE).2.1 (unhide HE).2.2
  | row b off cap l kv p0 p1 p2 p3 p4 p5 p6 p7 ih =>
    intro k v a w hcn hb0
    have HC := hide (BrAt.mk p3 p4 p5 p6 p7 : BrAt S w0 b off l kv)
    have HI := hide ih
    have HB0 := hide hb0
    have HSM := hide p6
    have hlm : l.length ≤ 9223372036854775807 := by unfold maxLen at p2; omega
    have hlm2 : l.length ≤ maxLen := by omega
    have hlen := cnt_len l
    have HCK := hide (fun i hi => cnt_kid l i hi)
    have HGR : Hid (∀ sa n cap w', BrO w' (fun x => w.heap.size ≤ x ∧ x < w'.heap.size) (.slice sa n cap) l → Below w.heap.size w w' → BranchR (.mk k v a l) w (.returned (.agg #[.string k, .string v, .int .i64 a, .slice sa n cap])) w') := hide (fun sa n cap w' h1 hb => ⟨sa, n, cap, rfl, h1, hb⟩)
    have G1 : Hid (Ow w.heap.size (w.heap.size + 1) (w.heap.size + 1 + 1) w (((w.alloc (.cells #[.string k, .string v, .int .i64 a, .slice (some ⟨b, off, none⟩) l.length cap] 25)).alloc (.cells #[.string ⟨#[]⟩, .string ⟨#[]⟩, .int .i64 0, .slice none 0 0] 25)).alloc (.cells #[.string k, .string v, .int .i64 a, .slice none 0 0] 25)) [.string k, .string v, .int .i64 a, .slice (some ⟨b, off, none⟩) l.length cap] k v a l 0 (.slice none 0 0) [] (fun _ => undef) (fun _ _ => False)) := hide
      ⟨((Blk.new w _ _ w.heap.size rfl).alloc _).alloc _, (Blk.new _ _ _ (w.heap.size + 1) (by simp)).alloc _, Blk.new _ _ _ (w.heap.size + 1 + 1) (by simp), World.ownsRow_nil _ _ _ _, fun i hi => absurd hi (by omega), fun i hi => absurd hi (by omega), fun i b hi => absurd hi (by omega), fun i i' b h1 h2 => absurd h2 (by omega), (((Below.refl _ _).alloc (Nat.le_refl _) _).alloc (by simp) _).alloc (by simp; omega) _, by omega, by omega⟩
    clear p3 p4 p5 p6 p7 ih hb0 p1 p2
    go_enter Tryd.func48, Tryd.ntmps48
    go_wp2_with fail
    generalize ((w.alloc (.cells #[.string k, .string v, .int .i64 a, .slice (some ⟨b, off, none⟩) l.length cap] 25)).alloc (.cells #[.string ⟨#[]⟩, .string ⟨#[]⟩, .int .i64 0, .slice none 0 0] 25)).alloc (.cells #[.string k, .string v, .int .i64 a, .slice none 0 0] 25) = w1 at *
    generalize w.heap.size + 1 + 1 = O at *
    generalize w.heap.size + 1 = R at *
    go_loopw [4] (fun i wr => ∃ (j : Nat) (sv : Value) (xs : List Value) (kvf : Nat → Value) (Si : Nat → Nat → Prop), j ≤ l.length ∧ i = .int .i64 j ∧ Ow w.heap.size R O w wr [.string k, .string v, .int .i64 a, .slice (some ⟨b, off, none⟩) l.length cap] k v a l j sv xs kvf Si) (fun i _ => l.length - (intOf i).toNat)
    case atStart => exact ⟨0, _, _, _, _, Nat.zero_le _, rfl, unhide G1⟩
    case round =>
      obtain ⟨j, sv, xs, kvf, Si, hj, rfl, hG⟩ := hrel
      obtain ⟨ga, gc, rfl⟩ := hG.shape
      by_cases hlt : j < l.length
      · obtain ⟨s0, s1, s2, s3⟩ := (unhide HC).cells j hlt
        have hbl := (unhide HC).lt
        have hbw := (unhide HB0).trans (hG.b.mono (unhide HB0).size)
        have c0 := (hbw.cell (p := ⟨b, off + j * 4, none⟩) hbl).trans s0
        have c1 := (hbw.cell (p := ⟨b, off + j * 4 + 1, none⟩) hbl).trans s1
        have c2 := (hbw.cell (p := ⟨b, off + j * 4 + 2, none⟩) hbl).trans s2
        have c3 := (hbw.cell (p := ⟨b, off + j * 4 + 3, none⟩) hbl).trans s3
        obtain ⟨ka, kc, hkv, _, _⟩ := ((unhide HC).kids j hlt).shape
        have x3 := hG.x.cell 3 rfl
        have o3 := hG.o.cell 3 rfl
        have hO1 := hG.o.1
        have HRT := hide (unhide HI j hlt (l.getD j default).key (l.getD j default).val (l.getD j default).at_ wr.drew (by have := unhide HCK j hlt; omega) (below_drewN hbw 1))
        rw [br_eta, hkv] at HRT
        rw [hkv] at c3
        have HGB := hide (fun wx (hx : Below wr.heap.size wr wx) => hG.below hx)
        have HSI := hide (fun i b hi hb => (hG.sep i b hi hb).2.1)
        have HSO := hide (fun b hb => (World.ownsRow.lt hG.own b hb).2)
        have hxl : xs.length = j * 4 := hG.own.1
        have k0 : (0 : Int) ≤ (j : Int) := by omega
        have k1 : (j : Int) < (l.length : Int) := by omega
        have hj2 : j + 1 ≤ maxLen := by omega
        clear s0 s1 s2 s3 hbw hG hkv
        obtain ⟨kb, hkb⟩ : ∃ kb, kb = l.getD j default := ⟨_, rfl⟩
        rw [← hkb] at c0 c1 c2 c3 HRT
        have HKB := hide hkb
        clear hkb
        go_wp2_with fail
        go_region_law (first
          | (go_simp; go_at_call 48; refine (unhide HRT).mono ?_; rintro e w6 ⟨s1, n1, e1, rfl, hO6, hb6⟩; have hb6' : Below wr.heap.size wr w6 := (below_drewN (Below.refl _ wr) 1).trans hb6; have G6 := unhide HGB w6 hb6'; have k3 := G6.o.cell 3 rfl; have k4 := (((Below.refl w6.heap.size w6).alloc (Nat.le_refl _) (.cells #[.string kb.key, .string kb.val, .int .i64 kb.at_, .slice s1 n1 e1] 25)).cell (p := ⟨O, 3, none⟩) G6.o.1).trans k3; go_simp)
          | (refine step_append_lies _ (by rfl) _ _ _ (by rfl) (O + 1) 25 i0 _ 4 64 Tryd.underlying23 hi hz0 hz1 hz2 rfl (by omega) (.slice ga j gc) j xs (by rfl) (own_kept (T := fun _ => False) G6.own ((Touch.refl _ _).alloc (.cells #[.string kb.key, .string kb.val, .int .i64 kb.at_, .slice s1 n1 e1] 25)) (fun _ _ h => h)) ⟨w6.heap.size, 0, none⟩ 1 1 [.string kb.key, .string kb.val, .int .i64 kb.at_, .slice s1 n1 e1] (by rfl) (by rfl) (World.news_of_block (cs := #[.string kb.key, .string kb.val, .int .i64 kb.at_, .slice s1 n1 e1]) (t := 25) (fr := (0, 0)) (heap_alloc_new w6 _)) (by simp [Value.oneCell']) (by omega) hj2 (by omega) (by have := G6.o.1; simp; omega) (w6.heap.size + 1) (by simp) ?_; intro gg cg w7 hown7 hgrow7 hat7 hlt7; rw [unhide HKB] at hown7 hO6; obtain ⟨O7, G7⟩ := G6.push _ hO6 (fun b hb => hb) hO1 (unhide HSI) (unhide HSO) hown7 hgrow7 hat7; have k7 := O7.cell 3 rfl; have f7 := O7.fro 3))
        all_goals
          have HG7 := hide G7
          clear k3 k4 k7 f7 O7 G7 G6 hown7 hgrow7 hat7 hlt7 hb6 hb6' hO6 x3 o3 c0 c1 c2 c3
          go_wp2_with fail
          refine ⟨⟨j + 1, _, _, _, _, by omega, by go_num, unhide HG7⟩, ?_⟩
          simp [intOf]; omega
      · obtain rfl : j = l.length := by omega
        have hE := Ow.fin (n := 0) hG (unhide HSM)
        have G1 := hide hG
        clear hG
        have x3 := (unhide G1).x.cell 3 rfl
        have o0 := (unhide G1).o.cell 0 rfl
        have o1 := (unhide G1).o.cell 1 rfl
        have o2 := (unhide G1).o.cell 2 rfl
        have o3 := (unhide G1).o.cell 3 rfl
        have r0 := (unhide G1).r.cell 0 rfl
        have r1 := (unhide G1).r.cell 1 rfl
        have r2 := (unhide G1).r.cell 2 rfl
        have r3 := (unhide G1).r.cell 3 rfl
        have f0 := (unhide G1).r.fro 0
        have f1 := (unhide G1).r.fro 1
        have f2 := (unhide G1).r.fro 2
        have f3 := (unhide G1).r.fro 3
        have z0 := hE.1.cell 0 rfl
        have z1 := hE.1.cell 1 rfl
        have z2 := hE.1.cell 2 rfl
        have z3 := hE.1.cell 3 rfl
        have HE := hide hE
        unfold set4 at z0 z1 z2 z3
        clear hE
        go_wp2_with fail
        refine bodyPost_ret (v := .agg #[.string k, .string v, .int .i64 a, .slice ga l.length gc]) (by simp [results, Tryd.results48, go_sem, z0, z1, z2, z3]) rfl ?_
        exact unhide HGR _ _ _ _ (unhide HE).2.1 (unhide HE).2.2
end Go.Proofs.YtnajpeaieeaflaaDoor.Sha
namespace Go.Proofs.YtnajpeaieeaflaaDoor
open Go.ChangeShapes Go.WideShapes Go.ChangeAt Go.RowKit
set_option linter.unusedVariables false

/-- The value is a slice of m elements, whose cells are these. -/
def Rw (w : World) (x : Value) (m : Nat) (news : List Value) : Prop := ∃ a cap, x = .slice a m cap ∧ (m = 0 ∨ ∃ ad : Addr, a = some ad ∧ ∀ j u, news[j]? = some u → w.cell? (ad.add j) = some u)
theorem run_append_row {P : Program} (w : World) (base : Nat) (t ty e : TypeId) (i : TypeInfo) (z : Value) (size bytes : Nat) (ht : P.underlying t = some (.slice e)) (hi : P.info? e = some i) (hz : i.zero = some z) (hsize : i.size = size) (hby : i.bytes = bytes) (hzs : z.cells.size = size) (hsz : 0 < size)
    (v : Value) (n : Nat) (xs : List Value) (hown : w.ownsRow base e size v n xs) (x : Value) (m : Nat) (news : List Value) (hR : Rw w x m news) (hl : news.length = m * size) (h1 : ∀ u ∈ news, u.oneCell' = true) (h63 : n + m ≤ maxLen) (hb : (n + m) * bytes ≤ 140737488355328) (hbase : base ≤ w.heap.size) :
    ∃ a' c' w', (Builtin.append_ #[t, t] ty #[v, x]).run P w = .ok (.slice a' (n + m) c') w' ∧ w'.ownsRow base e size (.slice a' (n + m) c') (n + m) (xs ++ news) ∧ w.grownBy w' v.ownBlock ∧ ((Value.slice a' (n + m) c').ownBlock = v.ownBlock ∨ (Value.slice a' (n + m) c').ownBlock = some w.heap.size) := by
  have key : ∃ v' w', (Builtin.append_ #[t, t] ty #[v, x]).run P w = .ok v' w' ∧ w'.ownsRow base e size v' (n + m) (xs ++ news) ∧ w.grownBy w' v.ownBlock ∧ (v'.ownBlock = v.ownBlock ∨ v'.ownBlock = some w.heap.size) := by
    obtain ⟨a, cap, rfl, hc⟩ := hR
    cases a with
    | none =>
      have hm0 : m = 0 := by
        rcases hc with h0 | ⟨ad, ha, _⟩
        · exact h0
        · cases ha
      subst hm0
      have hn0 : news = [] := List.eq_nil_of_length_eq_zero (by omega)
      subst hn0
      refine ⟨v, w, ?_, by simpa using hown, World.grownBy.refl _ _, .inl rfl⟩
      rcases hown.2 with ⟨rfl, _⟩ | ⟨g, cp, cur, rfl, _, _, hnc, _⟩
      · exact Go.run_append_nothing w t t ty e i ht hi none 0 0 (Nat.le_refl _) _ (Go.Src.ofNil (w := w) ht cap)
      · exact Go.run_append_nothing w t t ty e i ht hi _ n cp hnc _ (Go.Src.ofNil (w := w) ht cap)
    | some ad =>
      have hnews : ∀ j u, news[j]? = some u → w.cell? (ad.add j) = some u := fun j u hu => by
        rcases hc with h0 | ⟨b, ha, hcell⟩
        · subst h0
          have hn0 : news = [] := List.eq_nil_of_length_eq_zero (by omega)
          rw [hn0] at hu; cases hu
        · cases ha; exact hcell j u hu
      obtain ⟨v', w', hr', h2, h3, h4, h5⟩ := run_append_own_at (P := P) w base t ty e i z size bytes ht hi hz hsize hby hzs hsz v n xs hown ad m cap news hl hnews h1 h63 hb hbase
      exact ⟨v', w', hr', h2, h3, h5⟩
  obtain ⟨v', w', hr', h2, h3, h4⟩ := key
  rcases own_shape h2 with ⟨rfl, h0⟩ | ⟨g, c, rfl, _⟩
  · rw [h0] at h2 ⊢
    exact ⟨none, 0, w', hr', h2, h3, h4⟩
  · exact ⟨_, _, w', hr', h2, h3, h4⟩
theorem step_append_row {P : Program} {w : World} {ops : Array Oper} {o : Oper} {a : Act} {K : Act → World → Prop} {Q : Exit → Act → World → Prop} {E : Prop} (hgd : o.guard = none) (s x : Operand) (t : TypeId)
    (ho : o.op = .call { callee := .builtin .append, args := #[s, x], argTypes := #[t, t] })
    (base : Nat) (e : TypeId) (i : TypeInfo) (z : Value) (size bytes : Nat) (ht : P.underlying t = some (.slice e)) (hi : P.info? e = some i) (hz : i.zero = some z) (hsize : i.size = size) (hby : i.bytes = bytes) (hzs : z.cells.size = size) (hsz : 0 < size)
    (v : Value) (n : Nat) (xs : List Value) (hs : a.eval s = v) (hown : w.ownsRow base e size v n xs) (xv : Value) (m : Nat) (news : List Value) (hx : a.eval x = xv) (hR : Rw w xv m news) (hl : news.length = m * size) (h1 : ∀ u ∈ news, u.oneCell' = true) (h63 : n + m ≤ maxLen) (hb : (n + m) * bytes ≤ 140737488355328) (hbase : base ≤ w.heap.size)
    (h : ∀ a' c' w', w'.ownsRow base e size (.slice a' (n + m) c') (n + m) (xs ++ news) → w.grownBy w' v.ownBlock → ((Value.slice a' (n + m) c').ownBlock = v.ownBlock ∨ (Value.slice a' (n + m) c').ownBlock = some w.heap.size) → K (a.put o.dst (.slice a' (n + m) c')) w') :
    if Region.wanted o (yielded ops a.tmps) = true then Oper.wp P o a w K Q else E := by
  have hw : Region.wanted o (yielded ops a.tmps) = true := by simp [Region.wanted, hgd]
  rw [if_pos hw]
  obtain ⟨a', c', w', hr, h2, h3, h4⟩ := run_append_row (P := P) w base t o.type e i z size bytes ht hi hz hsize hby hzs hsz v n xs hown xv m news hR hl h1 h63 hb hbase
  unfold Oper.wp execOp
  simp only [ho, resolve, invoke, builtin, Sem.run_bind, Sem.run_pure, Result.andThen_ok, List.map_toArray, List.map_cons, List.map_nil, hs, hx, hr]
  exact h a' c' w' h2 h3 h4
theorem wpList_append_row {P : Program} (w : World) {ops : Array Oper} {rest : List Oper} {o : Oper} {a : Act} {Q : Exit → Act → World → Prop} (hgd : o.guard = none) (s x : Operand) (t : TypeId)
    (ho : o.op = .call { callee := .builtin .append, args := #[s, x], argTypes := #[t, t] })
    (base : Nat) (e : TypeId) (i : TypeInfo) (z : Value) (size bytes : Nat) (ht : P.underlying t = some (.slice e)) (hi : P.info? e = some i) (hz : i.zero = some z) (hsize : i.size = size) (hby : i.bytes = bytes) (hzs : z.cells.size = size) (hsz : 0 < size)
    (v : Value) (n : Nat) (xs : List Value) (hs : a.eval s = v) (hown : w.ownsRow base e size v n xs) (xv : Value) (m : Nat) (news : List Value) (hx : a.eval x = xv) (hR : Rw w xv m news) (hl : news.length = m * size) (h1 : ∀ u ∈ news, u.oneCell' = true) (h63 : n + m ≤ maxLen) (hb : (n + m) * bytes ≤ 140737488355328) (hbase : base ≤ w.heap.size)
    (h : ∀ a' c' w', w'.ownsRow base e size (.slice a' (n + m) c') (n + m) (xs ++ news) → w.grownBy w' v.ownBlock → ((Value.slice a' (n + m) c').ownBlock = v.ownBlock ∨ (Value.slice a' (n + m) c').ownBlock = some w.heap.size) → wpList P ops Q rest (a.put o.dst (.slice a' (n + m) c')) w') :
    wpList P ops Q (o :: rest) a w := by
  refine wpList_plain hgd fun K hK => ?_
  obtain ⟨a', c', w', hr, h2, h3, h4⟩ := run_append_row (P := P) w base t o.type e i z size bytes ht hi hz hsize hby hzs hsz v n xs hown xv m news hR hl h1 h63 hb hbase
  unfold Oper.wp execOp
  simp only [ho, resolve, invoke, builtin, Sem.run_bind, Sem.run_pure, Result.andThen_ok, List.map_toArray, List.map_cons, List.map_nil, hs, hx, hr]
  exact hK _ _ (h a' c' w' h2 h3 h4)
theorem Strs.rw {w : World} {v : Value} {l : List ByteArray} (h : Strs w v l) : Rw w v l.length (l.map Value.string) := by
  obtain ⟨a, cap, rfl, hm, hc⟩ := h
  refine ⟨a, cap, rfl, ?_⟩
  rcases hc with h0 | ⟨b, off, rfl, hlt, hc⟩
  · exact .inl h0
  · refine .inr ⟨_, rfl, fun j u hu => ?_⟩
    have hadd : (⟨b, off, none⟩ : Addr).add j = ⟨b, off + j, none⟩ := by unfold Addr.add; split <;> simp_all
    rw [List.getElem?_map] at hu
    by_cases hj : j < l.length
    · rw [hadd, hc j hj]
      rw [List.getElem?_eq_getElem hj] at hu
      rw [List.getD_eq_getElem?_getD, List.getElem?_eq_getElem hj]
      simpa using hu
    · rw [List.getElem?_eq_none (by omega)] at hu; cases hu
end Go.Proofs.YtnajpeaieeaflaaDoor
namespace Go.Proofs.YtnajpeaieeaflaaDoor.Sha
open Go.ChangeShapes Go.WideShapes Go.ChangeAt Go.RowKit
set_option linter.unusedVariables false
set_option linter.unusedSimpArgs false

/-- What l07Drop answers: a branch that can be read. -/
def DrR (B0 : Nat → Prop) (b : Br) (w : World) (e : Ending) (w' : World) : Prop := ∃ sa n cap, e = .returned (.agg #[.string b.key, .string b.val, .int .i64 b.at_, .slice sa n cap]) ∧ Brs (fun x => B0 x ∨ w.heap.size ≤ x) w' (.slice sa n cap) b.kids ∧ Below w.heap.size w w'
/-- The fork with its kid changed, or the other kid. -/
def repl (kb a : Nat) (hv : ByteArray) (l r tq : Tr) : Option Tr → Tr
  | none => tq
  | some t' => if kb = 0 then .fork a hv t' r else .fork a hv l t'
theorem drop_0 (h : ByteArray) (a : Nat) (hv : ByteArray) (l r : Tr) (hb : bitN h a = 0) : dropT h (.fork a hv l r) = some (repl 0 a hv l r r (dropT h l)) := by
  have e : dropT h (.fork a hv l r) = if bitN h a = 0 then (match dropT h l with | none => some r | some l' => some (.fork a hv l' r)) else (match dropT h r with | none => some l | some r' => some (.fork a hv l r')) := rfl
  rw [e, if_pos hb]
  cases dropT h l <;> rfl
theorem drop_1 (h : ByteArray) (a : Nat) (hv : ByteArray) (l r : Tr) (hb : bitN h a = 1) : dropT h (.fork a hv l r) = some (repl 1 a hv l r l (dropT h r)) := by
  have e : dropT h (.fork a hv l r) = if bitN h a = 0 then (match dropT h l with | none => some r | some l' => some (.fork a hv l' r)) else (match dropT h r with | none => some l | some r' => some (.fork a hv l r')) := rfl
  rw [e, if_neg (by omega)]
  cases dropT h r <;> rfl
theorem grown6 {w w5 w6 : World} {E : Nat} (hb : Below w.heap.size w w5) (hg : w5.grownBy w6 (some E)) (hE : w.heap.size ≤ E) : Below w.heap.size w w6 := hb.grown hg hb.size (fun r hr => by cases hr; exact hE)
theorem grownT {w5 w6 : World} {E : Nat} (hg : w5.grownBy w6 (some E)) : Touch (fun q => q = E) w5 w6 := (Touch.refl (fun q => q = E) w5).grown hg (fun q hq _ => by cases hq; rfl)
/-- The cells of two branches in a row. -/
def row2 (b0 b1 : Br) (v0 v1 : Value) : List Value := [.string b0.key, .string b0.val, .int .i64 b0.at_, v0, .string b1.key, .string b1.val, .int .i64 b1.at_, v1]
theorem brs_two {T : Nat → Prop} {B g c : Nat} {w : World} {b0 b1 : Br} {v0 v1 : Value} (h : w.ownsRow B 25 4 (.slice (some ⟨g, 0, none⟩) 2 c) 2 (row2 b0 b1 v0 v1)) (z0 : b0.key.size ≤ maxLen ∧ b0.val.size ≤ maxLen) (z1 : b1.key.size ≤ maxLen ∧ b1.val.size ≤ maxLen) (k0 : Brs T w v0 b0.kids) (k1 : Brs T w v1 b1.kids) (hT : T g) :
    Brs T w (.slice (some ⟨g, 0, none⟩) 2 c) [b0, b1] := by
  obtain ⟨hl, hc⟩ := id h
  rcases hc with ⟨hx, _⟩ | ⟨g', cap', cur, hv, hb, hg, hn, hm, hz, ht⟩
  · cases hx
  · simp only [Value.slice.injEq, Option.some.injEq, Addr.mk.injEq] at hv
    obtain ⟨⟨rfl, _, _⟩, _, rfl⟩ := hv
    refine .row g 0 c [b0, b1] (fun i => if i = 0 then v0 else v1) (by simp) hn hm (Array.getElem?_eq_some_iff.1 hg).1 hT (fun i hi => ?_) (fun i hi => ?_) (fun i hi => ?_)
    · have hi2 : i < 2 := hi
      rw [Nat.zero_add]
      rcases (show i = 0 ∨ i = 1 by omega) with rfl | rfl
      · exact ⟨(h.cellAt 0 (by omega)).trans rfl, (h.cellAt 1 (by omega)).trans rfl, (h.cellAt 2 (by omega)).trans rfl, (h.cellAt 3 (by omega)).trans rfl⟩
      · exact ⟨(h.cellAt 4 (by omega)).trans rfl, (h.cellAt 5 (by omega)).trans rfl, (h.cellAt 6 (by omega)).trans rfl, (h.cellAt 7 (by omega)).trans rfl⟩
    · have hi2 : i < 2 := hi
      rcases (show i = 0 ∨ i = 1 by omega) with rfl | rfl
      · exact z0
      · exact z1
    · have hi2 : i < 2 := hi
      rcases (show i = 0 ∨ i = 1 by omega) with rfl | rfl
      · exact k0
      · exact k1
theorem drop_some (h : ByteArray) (a : Nat) (hv : ByteArray) (l r : Tr) : ∃ t', dropT h (.fork a hv l r) = some t' := by
  rcases bitN_01 h a with hb | hb
  · exact ⟨_, drop_0 h a hv l r hb⟩
  · exact ⟨_, drop_1 h a hv l r hb⟩
theorem row2_rw {S : Nat → Prop} {w wx : World} {bb off cap : Nat} {b0 b1 : Br} {kvf : Nat → Value} (h : BrAt S w bb off [b0, b1] kvf) (hb : Below w.heap.size w wx) : Rw wx (.slice (some ⟨bb, off, none⟩) 2 cap) 2 (row2 b0 b1 (kvf 0) (kvf 1)) := by
  obtain ⟨s0, s1, s2, s3⟩ := h.cells 0 (by simp)
  obtain ⟨d0, d1, d2, d3⟩ := h.cells 1 (by simp)
  have e : ∀ i, wx.cell? ⟨bb, i, none⟩ = w.cell? ⟨bb, i, none⟩ := fun i => hb.cell (p := ⟨bb, i, none⟩) h.lt
  have ea : ∀ i, (⟨bb, off, none⟩ : Addr).add i = ⟨bb, off + i, none⟩ := fun i => by unfold Addr.add; split <;> simp_all
  refine ⟨_, cap, rfl, .inr ⟨_, rfl, fun j u hj => ?_⟩⟩
  rw [ea, e]
  have hj8 : j < 8 := (List.getElem?_eq_some_iff.1 hj).1
  simp only [Nat.zero_mul, Nat.add_zero, Nat.one_mul] at s0 s1 s2 s3 d0 d1 d2 d3
  rcases (show j = 0 ∨ j = 1 ∨ j = 2 ∨ j = 3 ∨ j = 4 ∨ j = 5 ∨ j = 6 ∨ j = 7 by omega) with rfl | rfl | rfl | rfl | rfl | rfl | rfl | rfl <;> (cases hj; assumption)
theorem row2_one {b0 b1 : Br} {a0 a1 : Option Addr} {n0 n1 c0 c1 : Nat} : ∀ u ∈ row2 b0 b1 (.slice a0 n0 c0) (.slice a1 n1 c1), u.oneCell' = true := by
  intro u hu
  simp only [row2, List.mem_cons, List.not_mem_nil, or_false] at hu
  rcases hu with rfl | rfl | rfl | rfl | rfl | rfl | rfl | rfl <;> rfl
end Go.Proofs.YtnajpeaieeaflaaDoor.Sha
namespace Go.Proofs.YtnajpeaieeaflaaDoor.Sha
open Go.ChangeShapes Go.WideShapes Go.ChangeAt Go.RowKit
set_option linter.unusedVariables false
set_option linter.unusedSimpArgs false

theorem own_lit4 {w : World} {B X : Nat} {cs : Array Value} (h : w.heap[X]? = some (.cells cs 25 (0, 0))) (hB : B ≤ X) (hn : cs.size = 8) : w.ownsRow B 25 4 (.slice (some ⟨X, 0, none⟩) 2 2) 2 cs.toList :=
  ⟨by simp [hn], .inr ⟨X, 2, cs, rfl, hB, h, Nat.le_refl _, by unfold maxLen; omega, by simp [hn], by rw [show 2 * 4 = cs.size from hn.symm, ← Array.length_toList, List.take_length]⟩⟩
set_option maxRecDepth 100000 in
set_option maxHeartbeats 4000000 in
theorem l07Insert_build (k v h : ByteArray) (hh : h.size = 32) (at_ : Nat) (ha : at_ < 256) (hkv : TrOK (.leaf k v)) (t : Tr) (hok : TrOK t) (hc : t.toBr.kids.length = 0 ∨ (at_ : Int) < t.toBr.at_) (B0 : Nat → Prop) (kv : Value) (w : World) (hB0 : ∀ x, B0 x → x < w.heap.size) (hB : Brs B0 w kv t.toBr.kids) :
    Calls Tryd.prog 76 #[.agg #[.string t.toBr.key, .string t.toBr.val, .int .i64 t.toBr.at_, kv], .string h, .int .i64 at_, .agg #[.string k, .string v, .int .i64 256, .slice none 0 0]] w fun e w' => DrR B0 (forkT at_ h k v t).toBr w e w' := by
  obtain ⟨sa, cap, rfl, hcap, hcm⟩ := hB.shape
  have HZT := hide (toBr_small hok)
  have HZK := hide (toBr_small hkv)
  have HLF := hide (fun wx => l07Leaf_any t.toBr.key t.toBr.val t.toBr.at_ sa t.toBr.kids.length cap wx (by unfold maxLen at hcm ⊢; omega))
  have HBT := hide (fun wx => l07Bit_any h at_ wx hh ha)
  have HKB := hide hB
  have B1 := hide ((((Below.refl w.heap.size w).alloc (Nat.le_refl _) (.cells #[.string t.toBr.key, .string t.toBr.val, .int .i64 t.toBr.at_, .slice sa t.toBr.kids.length cap] 25)).alloc (by simp) (.cells #[.string k, .string v, .int .i64 256, .slice none 0 0] 25)).alloc (by simp; omega) (.cells #[.string ⟨#[]⟩, .string ⟨#[]⟩, .int .i64 0, .slice none 0 0] 25))
  have X1 := hide (((Blk.new w #[.string t.toBr.key, .string t.toBr.val, .int .i64 t.toBr.at_, .slice sa t.toBr.kids.length cap] 25 w.heap.size rfl).alloc (.cells #[.string k, .string v, .int .i64 256, .slice none 0 0] 25)).alloc (.cells #[.string ⟨#[]⟩, .string ⟨#[]⟩, .int .i64 0, .slice none 0 0] 25))
  have L1 := hide ((Blk.new (w.alloc (.cells #[.string t.toBr.key, .string t.toBr.val, .int .i64 t.toBr.at_, .slice sa t.toBr.kids.length cap] 25)) #[.string k, .string v, .int .i64 256, .slice none 0 0] 25 (w.heap.size + 1) (by simp)).alloc (.cells #[.string ⟨#[]⟩, .string ⟨#[]⟩, .int .i64 0, .slice none 0 0] 25))
  have R1 := hide (Blk.new ((w.alloc (.cells #[.string t.toBr.key, .string t.toBr.val, .int .i64 t.toBr.at_, .slice sa t.toBr.kids.length cap] 25)).alloc (.cells #[.string k, .string v, .int .i64 256, .slice none 0 0] 25)) #[.string ⟨#[]⟩, .string ⟨#[]⟩, .int .i64 0, .slice none 0 0] 25 (w.heap.size + 1 + 1) (by simp))
  have HRS := hide (show w.heap.size < w.heap.size + 1 + 1 by omega)
  have hne : ((at_ : Int) == 256) = false := by rw [beq_eq_false_iff_ne]; omega
  clear hB hok hkv
  go_enter Tryd.func76, Tryd.ntmps76
  go_upto_region 3 with fail
  generalize ((w.alloc (.cells #[.string t.toBr.key, .string t.toBr.val, .int .i64 t.toBr.at_, .slice sa t.toBr.kids.length cap] 25)).alloc (.cells #[.string k, .string v, .int .i64 256, .slice none 0 0] 25)).alloc (.cells #[.string ⟨#[]⟩, .string ⟨#[]⟩, .int .i64 0, .slice none 0 0] 25) = w1 at *
  generalize w.heap.size + 1 + 1 = R at *
  generalize w.heap.size + 1 = L at *
  have x0 := (unhide X1).cell 0 rfl
  have x1 := (unhide X1).cell 1 rfl
  have x2 := (unhide X1).cell 2 rfl
  have x3 := (unhide X1).cell 3 rfl
  go_cut [25] (fun s wx => s = .bool true ∧ Below w1.heap.size w1 wx)
  case first =>
    cases hlf : decide (t.toBr.kids.length = 0)
    · have hlt : (at_ : Int) < t.toBr.at_ := by
        rcases hc with h0 | h0
        · rw [decide_eq_true h0] at hlf; cases hlf
        · exact h0
      rw [hlf] at HLF
      clear hc hlf
      go_wp2_with fail
      refine (unhide HLF w1).mono ?_
      rintro e w2 ⟨rfl, hb2⟩
      have HB2 := hide hb2
      have y2 := ((unhide X1).below hb2).cell 2 rfl
      clear hb2
      go_wp2_with fail
      go_meet
      exact ⟨by first | rfl | simp [hlt], unhide HB2⟩
    · rw [hlf] at HLF
      clear hc hlf
      go_wp2_with fail
      refine (unhide HLF w1).mono ?_
      rintro e w2 ⟨rfl, hb2⟩
      have HB2 := hide hb2
      clear hb2
      go_wp2_with fail
      go_meet
      exact ⟨rfl, unhide HB2⟩
  case rest =>
    obtain ⟨rfl, hbc⟩ := hcut
    obtain ⟨w2, hw2⟩ : ∃ w2, w2 = wc := ⟨_, rfl⟩
    subst hw2
    have B2 := hide ((unhide B1).trans (hbc.mono (unhide B1).size))
    have R2 := hide ((unhide R1).below hbc)
    have X2 := (unhide X1).below hbc
    have L2 := (unhide L1).below hbc
    clear x0 x1 x2 x3 hbc B1 X1 R1 L1 hc
    have x0 := X2.cell 0 rfl
    have x1 := X2.cell 1 rfl
    have x2 := X2.cell 2 rfl
    have x3 := X2.cell 3 rfl
    have l0 := L2.cell 0 rfl
    have l1 := L2.cell 1 rfl
    have l2 := L2.cell 2 rfl
    have l3 := L2.cell 3 rfl
    clear X2 L2
    rcases bitN_01 h at_ with hb | hb
    · have HF : Hid (forkT at_ h k v t = .fork at_ h (.leaf k v) t) := hide (by unfold forkT; rw [if_pos hb])
      rw [hb] at HBT
      have HGR2 : Hid (∀ sa n cap w', Brs (fun x => B0 x ∨ w.heap.size ≤ x) w' (.slice sa n cap) [Br.mk k v 256 [], t.toBr] → Below w.heap.size w w' → DrR B0 (forkT at_ h k v t).toBr w (.returned (.agg #[.string ⟨#[]⟩, .string ⟨#[]⟩, .int .i64 at_, .slice sa n cap])) w') := hide (fun sa n cap w' h1 hb => by rw [unhide HF]; exact ⟨sa, n, cap, rfl, h1, hb⟩)
      have BA := (Below.refl w2.heap.size w2).alloc (Nat.le_refl _) (.cells #[.string k, .string v, .int .i64 256, .slice none 0 0, .string t.toBr.key, .string t.toBr.val, .int .i64 t.toBr.at_, .slice sa t.toBr.kids.length cap] 25)
      have R3 := (unhide R2).below BA
      have B3 := hide ((unhide B2).trans (BA.mono (unhide B2).size))
      have O3 : Hid ((w2.alloc (.cells #[.string k, .string v, .int .i64 256, .slice none 0 0, .string t.toBr.key, .string t.toBr.val, .int .i64 t.toBr.at_, .slice sa t.toBr.kids.length cap] 25)).ownsRow w2.heap.size 25 4 (.slice (some ⟨w2.heap.size, 0, none⟩) 2 2) 2 #[.string k, .string v, .int .i64 256, .slice none 0 0, .string t.toBr.key, .string t.toBr.val, .int .i64 t.toBr.at_, .slice sa t.toBr.kids.length cap].toList) := hide (own_lit4 (heap_alloc_new w2 _) (Nat.le_refl _) rfl)
      have r0 := R3.cell 0 rfl
      have r1 := R3.cell 1 rfl
      have r2 := R3.cell 2 rfl
      have r3 := R3.cell 3 rfl
      have f0 := R3.fro 0
      have f1 := R3.fro 1
      have f2 := R3.fro 2
      have f3 := R3.fro 3
      have hZ := set4_blk R3 (.string ⟨#[]⟩) (.string ⟨#[]⟩) (.int .i64 at_) (.slice (some ⟨w2.heap.size, 0, none⟩) 2 2)
      have z0 := hZ.cell 0 rfl
      have z1 := hZ.cell 1 rfl
      have z2 := hZ.cell 2 rfl
      have z3 := hZ.cell 3 rfl
      have HT4 := hide (set4_touch (w2.alloc (.cells #[.string k, .string v, .int .i64 256, .slice none 0 0, .string t.toBr.key, .string t.toBr.val, .int .i64 t.toBr.at_, .slice sa t.toBr.kids.length cap] 25)) R (.string ⟨#[]⟩) (.string ⟨#[]⟩) (.int .i64 at_) (.slice (some ⟨w2.heap.size, 0, none⟩) 2 2))
      have HBF := hide ((unhide B3).trans ((unhide HT4).below (unhide B3).size (fun q hq e => by have := unhide HRS; omega)))
      have hR2 := (unhide R2).1
      have HRL := hide (And.intro (unhide B2).size hR2)
      unfold set4 at z0 z1 z2 z3
      clear hZ R3 BA hR2
      go_wp2_with fail
      refine (unhide HBT w2).mono ?_
      rintro e w9 ⟨rfl, hw9⟩
      subst w9
      go_wp2_with fail
      refine bodyPost_ret (v := .agg #[.string ⟨#[]⟩, .string ⟨#[]⟩, .int .i64 at_, .slice (some ⟨w2.heap.size, 0, none⟩) 2 2]) (by simp [results, Tryd.results76, go_sem, z0, z1, z2, z3]) rfl ?_
      have O9 := own_kept (unhide O3) (unhide HT4) (fun q hq e => by
        have e1 : w2.heap.size = q := by simpa [Value.ownBlock] using hq
        have e2 : q = R := e
        have := (unhide HRL).2
        omega)
      have KT := ((unhide HKB).mono (T := fun x => B0 x ∨ w.heap.size ≤ x) (fun x hx => .inl hx)).blw (unhide HBF)
      have KN := Brs.nil (w := set4 (w2.alloc (.cells #[.string k, .string v, .int .i64 256, .slice none 0 0, .string t.toBr.key, .string t.toBr.val, .int .i64 t.toBr.at_, .slice sa t.toBr.kids.length cap] 25)) R (.string ⟨#[]⟩) (.string ⟨#[]⟩) (.int .i64 at_) (.slice (some ⟨w2.heap.size, 0, none⟩) 2 2)) (S := fun x => B0 x ∨ w.heap.size ≤ x) none 0 (by unfold maxLen; omega)
      exact unhide HGR2 (some ⟨w2.heap.size, 0, none⟩) 2 2 _ (brs_two (b0 := Br.mk k v 256 []) (b1 := t.toBr) (v0 := .slice none 0 0) (v1 := .slice sa t.toBr.kids.length cap) O9 (unhide HZK) (unhide HZT) KN KT (.inr (unhide HRL).1)) (unhide HBF)
    · have HF : Hid (forkT at_ h k v t = .fork at_ h t (.leaf k v)) := hide (by unfold forkT; rw [if_neg (by omega)])
      rw [hb] at HBT
      have HGR2 : Hid (∀ sa n cap w', Brs (fun x => B0 x ∨ w.heap.size ≤ x) w' (.slice sa n cap) [t.toBr, Br.mk k v 256 []] → Below w.heap.size w w' → DrR B0 (forkT at_ h k v t).toBr w (.returned (.agg #[.string ⟨#[]⟩, .string ⟨#[]⟩, .int .i64 at_, .slice sa n cap])) w') := hide (fun sa n cap w' h1 hb => by rw [unhide HF]; exact ⟨sa, n, cap, rfl, h1, hb⟩)
      have BA := (Below.refl w2.heap.size w2).alloc (Nat.le_refl _) (.cells #[.string t.toBr.key, .string t.toBr.val, .int .i64 t.toBr.at_, .slice sa t.toBr.kids.length cap, .string k, .string v, .int .i64 256, .slice none 0 0] 25)
      have R3 := (unhide R2).below BA
      have B3 := hide ((unhide B2).trans (BA.mono (unhide B2).size))
      have O3 : Hid ((w2.alloc (.cells #[.string t.toBr.key, .string t.toBr.val, .int .i64 t.toBr.at_, .slice sa t.toBr.kids.length cap, .string k, .string v, .int .i64 256, .slice none 0 0] 25)).ownsRow w2.heap.size 25 4 (.slice (some ⟨w2.heap.size, 0, none⟩) 2 2) 2 #[.string t.toBr.key, .string t.toBr.val, .int .i64 t.toBr.at_, .slice sa t.toBr.kids.length cap, .string k, .string v, .int .i64 256, .slice none 0 0].toList) := hide (own_lit4 (heap_alloc_new w2 _) (Nat.le_refl _) rfl)
      have r0 := R3.cell 0 rfl
      have r1 := R3.cell 1 rfl
      have r2 := R3.cell 2 rfl
      have r3 := R3.cell 3 rfl
      have f0 := R3.fro 0
      have f1 := R3.fro 1
      have f2 := R3.fro 2
      have f3 := R3.fro 3
      have hZ := set4_blk R3 (.string ⟨#[]⟩) (.string ⟨#[]⟩) (.int .i64 at_) (.slice (some ⟨w2.heap.size, 0, none⟩) 2 2)
      have z0 := hZ.cell 0 rfl
      have z1 := hZ.cell 1 rfl
      have z2 := hZ.cell 2 rfl
      have z3 := hZ.cell 3 rfl
      have HT4 := hide (set4_touch (w2.alloc (.cells #[.string t.toBr.key, .string t.toBr.val, .int .i64 t.toBr.at_, .slice sa t.toBr.kids.length cap, .string k, .string v, .int .i64 256, .slice none 0 0] 25)) R (.string ⟨#[]⟩) (.string ⟨#[]⟩) (.int .i64 at_) (.slice (some ⟨w2.heap.size, 0, none⟩) 2 2))
      have HBF := hide ((unhide B3).trans ((unhide HT4).below (unhide B3).size (fun q hq e => by have := unhide HRS; omega)))
      have hR2 := (unhide R2).1
      have HRL := hide (And.intro (unhide B2).size hR2)
      unfold set4 at z0 z1 z2 z3
      clear hZ R3 BA hR2
      go_wp2_with fail
      refine (unhide HBT w2).mono ?_
      rintro e w9 ⟨rfl, hw9⟩
      subst w9
      go_wp2_with fail
      refine bodyPost_ret (v := .agg #[.string ⟨#[]⟩, .string ⟨#[]⟩, .int .i64 at_, .slice (some ⟨w2.heap.size, 0, none⟩) 2 2]) (by simp [results, Tryd.results76, go_sem, z0, z1, z2, z3]) rfl ?_
      have O9 := own_kept (unhide O3) (unhide HT4) (fun q hq e => by
        have e1 : w2.heap.size = q := by simpa [Value.ownBlock] using hq
        have e2 : q = R := e
        have := (unhide HRL).2
        omega)
      have KT := ((unhide HKB).mono (T := fun x => B0 x ∨ w.heap.size ≤ x) (fun x hx => .inl hx)).blw (unhide HBF)
      have KN := Brs.nil (w := set4 (w2.alloc (.cells #[.string t.toBr.key, .string t.toBr.val, .int .i64 t.toBr.at_, .slice sa t.toBr.kids.length cap, .string k, .string v, .int .i64 256, .slice none 0 0] 25)) R (.string ⟨#[]⟩) (.string ⟨#[]⟩) (.int .i64 at_) (.slice (some ⟨w2.heap.size, 0, none⟩) 2 2)) (S := fun x => B0 x ∨ w.heap.size ≤ x) none 0 (by unfold maxLen; omega)
      exact unhide HGR2 (some ⟨w2.heap.size, 0, none⟩) 2 2 _ (brs_two (b0 := t.toBr) (b1 := Br.mk k v 256 []) (v0 := .slice sa t.toBr.kids.length cap) (v1 := .slice none 0 0) O9 (unhide HZT) (unhide HZK) KT KN (.inr (unhide HRL).1)) (unhide HBF)
end Go.Proofs.YtnajpeaieeaflaaDoor.Sha
namespace Go.Proofs.YtnajpeaieeaflaaDoor.Sha
open Go.ChangeShapes Go.WideShapes Go.ChangeAt Go.RowKit
set_option linter.unusedVariables false
set_option linter.unusedSimpArgs false

set_option maxRecDepth 100000 in
set_option maxHeartbeats 4000000 in
theorem l07Insert_leaf (k v h k' v' : ByteArray) (B0 : Nat → Prop) (kv : Value) (w : World) (hB : Brs B0 w kv []) :
    Calls Tryd.prog 76 #[.agg #[.string k', .string v', .int .i64 256, kv], .string h, .int .i64 256, .agg #[.string k, .string v, .int .i64 256, .slice none 0 0]] w fun e w' => DrR B0 (Tr.leaf k v).toBr w e w' := by
  obtain ⟨sa, cap, rfl, hcap, hcm⟩ := hB.shape
  have HLF := hide (fun wx => l07Leaf_any k' v' 256 sa 0 cap wx (by unfold maxLen; omega))
  rw [show decide ((0 : Nat) = 0) = true from rfl] at HLF
  dsimp only [List.length_nil] at hB ⊢
  have HGR : Hid (∀ w', Below w.heap.size w w' → DrR B0 (Tr.leaf k v).toBr w (.returned (.agg #[.string k, .string v, .int .i64 256, .slice none 0 0])) w') := hide (fun w' hb => ⟨none, 0, 0, rfl, .nil _ _ (by unfold maxLen; omega), hb⟩)
  have B1 := hide ((((Below.refl w.heap.size w).alloc (Nat.le_refl _) (.cells #[.string k', .string v', .int .i64 256, .slice sa 0 cap] 25)).alloc (by simp) (.cells #[.string k, .string v, .int .i64 256, .slice none 0 0] 25)).alloc (by simp; omega) (.cells #[.string ⟨#[]⟩, .string ⟨#[]⟩, .int .i64 0, .slice none 0 0] 25))
  have L1 := hide ((Blk.new (w.alloc (.cells #[.string k', .string v', .int .i64 256, .slice sa 0 cap] 25)) #[.string k, .string v, .int .i64 256, .slice none 0 0] 25 (w.heap.size + 1) (by simp)).alloc (.cells #[.string ⟨#[]⟩, .string ⟨#[]⟩, .int .i64 0, .slice none 0 0] 25))
  have R1 := hide (Blk.new ((w.alloc (.cells #[.string k', .string v', .int .i64 256, .slice sa 0 cap] 25)).alloc (.cells #[.string k, .string v, .int .i64 256, .slice none 0 0] 25)) #[.string ⟨#[]⟩, .string ⟨#[]⟩, .int .i64 0, .slice none 0 0] 25 (w.heap.size + 1 + 1) (by simp))
  have HRS := hide (show w.heap.size < w.heap.size + 1 + 1 by omega)
  clear hB
  go_enter Tryd.func76, Tryd.ntmps76
  go_wp2_with fail
  generalize ((w.alloc (.cells #[.string k', .string v', .int .i64 256, .slice sa 0 cap] 25)).alloc (.cells #[.string k, .string v, .int .i64 256, .slice none 0 0] 25)).alloc (.cells #[.string ⟨#[]⟩, .string ⟨#[]⟩, .int .i64 0, .slice none 0 0] 25) = w1 at *
  generalize w.heap.size + 1 + 1 = R at *
  generalize w.heap.size + 1 = L at *
  refine (unhide HLF w1).mono ?_
  rintro e w2 ⟨rfl, hb2⟩
  have B2 := hide ((unhide B1).trans (hb2.mono (unhide B1).size))
  have R2 := hide ((unhide R1).below hb2)
  have L2 := (unhide L1).below hb2
  have l0 := L2.cell 0 rfl
  have l1 := L2.cell 1 rfl
  have l2 := L2.cell 2 rfl
  have l3 := L2.cell 3 rfl
  clear hb2 B1 R1 L1 L2
  have r0 := (unhide R2).cell 0 rfl
  have r1 := (unhide R2).cell 1 rfl
  have r2 := (unhide R2).cell 2 rfl
  have r3 := (unhide R2).cell 3 rfl
  have f0 := (unhide R2).fro 0
  have f1 := (unhide R2).fro 1
  have f2 := (unhide R2).fro 2
  have f3 := (unhide R2).fro 3
  have hZ := set4_blk (unhide R2) (.string k) (.string v) (.int .i64 256) (.slice none 0 0)
  have z0 := hZ.cell 0 rfl
  have z1 := hZ.cell 1 rfl
  have z2 := hZ.cell 2 rfl
  have z3 := hZ.cell 3 rfl
  have HT4 := hide (set4_touch w2 R (.string k) (.string v) (.int .i64 256) (.slice none 0 0))
  have HBF := hide ((unhide B2).trans ((unhide HT4).below (unhide B2).size (fun q hq e => by have := (unhide HRS); omega)))
  unfold set4 at z0 z1 z2 z3
  clear hZ
  go_wp2_with fail
  refine bodyPost_ret (v := .agg #[.string k, .string v, .int .i64 256, .slice none 0 0]) (by simp [results, Tryd.results76, go_sem, z0, z1, z2, z3]) rfl ?_
  exact unhide HGR _ (unhide HBF)
/-- The fork with its kid changed. -/
def replT (kb a : Nat) (hv : ByteArray) (l r t' : Tr) : Tr := if kb = 0 then .fork a hv t' r else .fork a hv l t'
set_option maxRecDepth 100000 in
set_option maxHeartbeats 8000000 in
theorem l07Insert_any (k v h : ByteArray) (hh : h.size = 32) (at_ : Nat) (hat0 : at_ ≤ 256) (hkv : TrOK (.leaf k v)) : ∀ (t : Tr), TrOK t → ∀ (m : Nat), Rise m t → Sep t → at_ = fd (kh (leadL h t).1) h → ∀ (B0 : Nat → Prop) (kv : Value) (w : World), (∀ x, B0 x → x < w.heap.size) → Brs B0 w kv t.toBr.kids →
    Calls Tryd.prog 76 #[.agg #[.string t.toBr.key, .string t.toBr.val, .int .i64 t.toBr.at_, kv], .string h, .int .i64 at_, .agg #[.string k, .string v, .int .i64 256, .slice none 0 0]] w fun e w' => DrR B0 (putT h at_ k v t).toBr w e w' := by
  intro t
  induction t with
  | leaf k' v' =>
    intro hok m hr hs hfd B0 kv w hB0 hB
    by_cases h256 : at_ = 256
    · subst h256
      have := l07Insert_leaf k v h k' v' B0 kv w hB
      unfold putT
      rw [if_pos rfl]
      exact this
    · have := l07Insert_build k v h hh at_ (by omega) hkv (.leaf k' v') hok (.inl rfl) B0 kv w hB0 hB
      unfold putT
      rw [if_neg h256]
      exact this
  | fork a hv l r ihl ihr =>
    intro hok m hr hs hfd B0 kv w hB0 hB
    have hne : at_ ≠ a := fun e => by
      have h1 := ((fd_iff (kh (leadL h (.fork a hv l r)).1) h at_ (by have := hr.2.1; omega)).1 hfd.symm).2
      rw [e] at h1
      exact h1 (lead_bit h hr hs)
    by_cases hlt : a < at_
    · obtain ⟨ha, ho9, okl, okr⟩ := hok
      obtain ⟨r0, r1, r2, r3⟩ := hr
      obtain ⟨q1, q2, q3, sl, sr⟩ := hs
      obtain ⟨sa, cap, rfl, hcap, hcm⟩ := hB.shape
      have hkm := hcm
      obtain ⟨kb, tn, hkb, hb2, HDT, okn, hgn, IH⟩ : ∃ (kb : Nat) (tn : Tr), bitN h a = kb ∧ kb < 2 ∧ Hid (putT h at_ k v (.fork a hv l r) = replT kb a hv l r (putT h at_ k v tn)) ∧ TrOK tn ∧ ([l.toBr, r.toBr] : List Br).getD kb default = tn.toBr ∧
          Hid (∀ (B0 : Nat → Prop) (kv : Value) (w : World), (∀ x, B0 x → x < w.heap.size) → Brs B0 w kv tn.toBr.kids → Calls Tryd.prog 76 #[.agg #[.string tn.toBr.key, .string tn.toBr.val, .int .i64 tn.toBr.at_, kv], .string h, .int .i64 at_, .agg #[.string k, .string v, .int .i64 256, .slice none 0 0]] w fun e w' => DrR B0 (putT h at_ k v tn).toBr w e w') := by
        rcases bitN_01 h a with hb | hb
        · exact ⟨0, l, hb, by omega, hide (by (conv => lhs; unfold putT; rw [if_pos hlt, if_pos hb]); rfl), okl, rfl, hide (ihl okl _ r2 sl (by rw [hfd]; conv => lhs; unfold leadL; rw [if_pos hb]))⟩
        · exact ⟨1, r, hb, by omega, hide (by (conv => lhs; unfold putT; rw [if_pos hlt, if_neg (by omega)]); rfl), okr, rfl, hide (ihr okr _ r3 sr (by rw [hfd]; conv => lhs; unfold leadL; rw [if_neg (by omega)]))⟩
      clear ihl ihr hfd hne q1 q2 q3 sl sr r0 r2 r3 ho9
      rw [unhide HDT]
      have HOT : Hid (TrOK (putT h at_ k v tn)) := hide (putT_ok h at_ k v hat0 hh hkv.1 hkv.2 tn okn)
      generalize putT h at_ k v tn = t' at *
      have HGR : Hid (∀ sa n cap w', Brs (fun x => B0 x ∨ w.heap.size ≤ x) w' (.slice sa n cap) (replT kb a hv l r t').toBr.kids → Below w.heap.size w w' → DrR B0 (replT kb a hv l r t').toBr w (.returned (.agg #[.string (replT kb a hv l r t').toBr.key, .string (replT kb a hv l r t').toBr.val, .int .i64 (replT kb a hv l r t').toBr.at_, .slice sa n cap])) w') := hide (fun sa n cap w' h1 hb => ⟨sa, n, cap, rfl, h1, hb⟩)
      dsimp only [Tr.toBr, Br.key, Br.val, Br.at_, Br.kids] at hB hcap ⊢
      rw [show ([l.toBr, r.toBr] : List Br).length = 2 from rfl] at hB hcap ⊢
      obtain ⟨bb, off, kvf, rfl, _, hat⟩ := hB.at (by simp)
      have hbb := hat.lt
      obtain ⟨d0, d1, d2, d3⟩ := hat.cells kb (by simpa using hb2)
      have KN := hide (hat.kids kb (by simpa using hb2))
      rw [hgn] at d0 d1 d2 KN
      obtain ⟨kan, kcn, hkvn, _, hknm⟩ := (unhide KN).shape
      rw [hkvn] at KN d3
      have HLF := hide (fun wx => l07Leaf_any ⟨#[]⟩ ⟨#[]⟩ a (some ⟨bb, off, none⟩) 2 cap wx (by unfold maxLen at hkm ⊢; omega))
      rw [show decide ((2 : Nat) = 0) = false from rfl] at HLF
      have HBT := hide (fun wx => l07Bit_any h a wx hh r1)
      rw [hkb] at HBT
      have B1 := hide ((((Below.refl w.heap.size w).alloc (Nat.le_refl _) (.cells #[.string ⟨#[]⟩, .string ⟨#[]⟩, .int .i64 a, .slice (some ⟨bb, off, none⟩) 2 cap] 25)).alloc (by simp) (.cells #[.string k, .string v, .int .i64 256, .slice none 0 0] 25)).alloc (by simp; omega) (.cells #[.string ⟨#[]⟩, .string ⟨#[]⟩, .int .i64 0, .slice none 0 0] 25))
      have X1 := hide (((Blk.new w #[.string ⟨#[]⟩, .string ⟨#[]⟩, .int .i64 a, .slice (some ⟨bb, off, none⟩) 2 cap] 25 w.heap.size rfl).alloc (.cells #[.string k, .string v, .int .i64 256, .slice none 0 0] 25)).alloc (.cells #[.string ⟨#[]⟩, .string ⟨#[]⟩, .int .i64 0, .slice none 0 0] 25))
      have L1 := hide ((Blk.new (w.alloc (.cells #[.string ⟨#[]⟩, .string ⟨#[]⟩, .int .i64 a, .slice (some ⟨bb, off, none⟩) 2 cap] 25)) #[.string k, .string v, .int .i64 256, .slice none 0 0] 25 (w.heap.size + 1) (by simp)).alloc (.cells #[.string ⟨#[]⟩, .string ⟨#[]⟩, .int .i64 0, .slice none 0 0] 25))
      have R1 := hide (Blk.new ((w.alloc (.cells #[.string ⟨#[]⟩, .string ⟨#[]⟩, .int .i64 a, .slice (some ⟨bb, off, none⟩) 2 cap] 25)).alloc (.cells #[.string k, .string v, .int .i64 256, .slice none 0 0] 25)) #[.string ⟨#[]⟩, .string ⟨#[]⟩, .int .i64 0, .slice none 0 0] 25 (w.heap.size + 1 + 1) (by simp))
      have HRS := hide (show w.heap.size < w.heap.size + 1 + 1 ∧ w.heap.size < w.heap.size + 1 by omega)
      have HAT := hide hat
      have hgt : ¬ (at_ : Int) < (a : Int) := by omega
      clear hB hat hkvn hkb hgn HDT
      go_enter Tryd.func76, Tryd.ntmps76
      go_upto_region 1 with fail
      generalize ((w.alloc (.cells #[.string ⟨#[]⟩, .string ⟨#[]⟩, .int .i64 a, .slice (some ⟨bb, off, none⟩) 2 cap] 25)).alloc (.cells #[.string k, .string v, .int .i64 256, .slice none 0 0] 25)).alloc (.cells #[.string ⟨#[]⟩, .string ⟨#[]⟩, .int .i64 0, .slice none 0 0] 25) = w1 at *
      generalize w.heap.size + 1 + 1 = R at *
      generalize w.heap.size + 1 = L at *
      have x0 := (unhide X1).cell 0 rfl
      have x1 := (unhide X1).cell 1 rfl
      have x2 := (unhide X1).cell 2 rfl
      have x3 := (unhide X1).cell 3 rfl
      go_cut [16] (fun s wx => s = .bool false ∧ Below w1.heap.size w1 wx)
      case first =>
        by_cases h256 : at_ = 256
        · subst h256
          go_wp2_with fail
          refine (unhide HLF w1).mono ?_
          rintro e w2 ⟨rfl, hb2'⟩
          have HB2 := hide hb2'
          clear hb2'
          go_wp2_with fail
          go_meet
          exact ⟨rfl, unhide HB2⟩
        · have h2 : ((at_ : Int) == 256) = false := by rw [beq_eq_false_iff_ne]; omega
          go_wp2_with fail
          go_meet
          exact ⟨rfl, Below.refl _ _⟩
      case rest =>
        obtain ⟨rfl, hbc⟩ := hcut
        obtain ⟨w2, hw2⟩ : ∃ w2, w2 = wc := ⟨_, rfl⟩
        subst hw2
        have B2 := hide ((unhide B1).trans (hbc.mono (unhide B1).size))
        have X2 := hide ((unhide X1).below hbc)
        have L2 := hide ((unhide L1).below hbc)
        have R2 := hide ((unhide R1).below hbc)
        clear x0 x1 x2 x3 hbc B1 X1 L1 R1
        have x0 := (unhide X2).cell 0 rfl
        have x1 := (unhide X2).cell 1 rfl
        have x2 := (unhide X2).cell 2 rfl
        have x3 := (unhide X2).cell 3 rfl
        go_wp2_with fail
        refine (unhide HLF w2).mono ?_
        rintro e w3 ⟨rfl, hb3⟩
        have B3 := hide ((unhide B2).trans (hb3.mono (unhide B2).size))
        have X3 := hide ((unhide X2).below hb3)
        have L3 := hide ((unhide L2).below hb3)
        have R3 := hide ((unhide R2).below hb3)
        clear hb3 B2 X2 L2 R2 HLF x0 x1 x2 x3
        have x2 := (unhide X3).cell 2 rfl
        go_wp2_with fail
        refine (unhide HBT w3).mono ?_
        rintro e w9 ⟨rfl, hw9⟩
        subst w9
        have m0 : (0 : Int) ≤ (kb : Int) := by omega
        have m1 : (kb : Int) < 2 := by omega
        obtain ⟨ka0, kc0, hk0, _, _⟩ := ((unhide HAT).kids 0 (by simp)).shape
        obtain ⟨ka1, kc1, hk1, _, _⟩ := ((unhide HAT).kids 1 (by simp)).shape
        have BB := (Below.refl w3.heap.size w3).alloc (Nat.le_refl _) (.cells #[] 25)
        have B5 := hide ((unhide B3).trans (BB.mono (unhide B3).size))
        have X5 := hide ((unhide X3).below BB)
        have L5 := hide ((unhide L3).below BB)
        have R5 := hide ((unhide R3).below BB)
        have O5 : Hid ((w3.alloc (.cells #[] 25)).ownsRow w3.heap.size 25 4 (.slice (some ⟨w3.heap.size, 0, none⟩) 0 0) 0 []) := hide (World.ownsRow_made w3 #[] 0 (Nat.le_refl _) (by unfold maxLen; omega) rfl)
        have HRW := hide (row2_rw (cap := cap) (unhide HAT) (unhide B5))
        have H1C : Hid (∀ u ∈ row2 l.toBr r.toBr (kvf 0) (kvf 1), u.oneCell' = true) := hide (by rw [hk0, hk1]; exact row2_one)
        have x35 := (unhide X5).cell 3 rfl
        have hE5 : (w3.alloc (.cells #[] 25)).heap.size = w3.heap.size + 1 := by simp
        obtain ⟨i0, hi, hz0, hz1, hz2⟩ := info_parts infoBr
        have hw4 := (unhide B3).size
        have hX4' : w.heap.size < w3.heap.size := (unhide X3).1
        have hL4' : L < w3.heap.size := (unhide L3).1
        have hR4' : R < w3.heap.size := (unhide R3).1
        clear BB X3 R3 B3 L3 x2 hk0 hk1
        go_upto_region 9 with (at_builtin; refine wpList_append_row _ rfl _ _ _ rfl w3.heap.size 25 i0 _ 4 64 Tryd.underlying23 hi hz0 hz1 hz2 rfl (by omega) _ 0 [] rfl (unhide O5) _ 2 (row2 l.toBr r.toBr (kvf 0) (kvf 1)) rfl (unhide HRW) rfl (unhide H1C) (by unfold maxLen; omega) (by omega) (by omega) ?_; intro a6 c6 w6 hown6 hgrow6 hat6; have R6' := hide (And.intro hown6 (And.intro hgrow6 hat6)); clear hown6 hgrow6 hat6)
        obtain ⟨hown6, hgrow6, hat6⟩ := unhide R6'
        obtain ⟨g6, c6', he6, hg6, hg6'⟩ := World.ownsRow.form hown6 (by omega)
        cases he6
        rw [List.nil_append] at hown6
        have B6 := hide (grown6 (unhide B5) hgrow6 hw4)
        have T6 : Touch (fun q => q = w3.heap.size) _ w6 := grownT hgrow6
        have X6 := hide ((unhide X5).kept T6 (fun e => by have e' : w.heap.size = w3.heap.size := e; omega))
        have L6 := hide ((unhide L5).kept T6 (fun e => by have e' : L = w3.heap.size := e; omega))
        have R6 := hide ((unhide R5).kept T6 (fun e => by have e' : R = w3.heap.size := e; omega))
        have O6 := hide hown6
        have x36 := (unhide X6).cell 3 rfl
        have l60 := (unhide L6).cell 0 rfl
        have l61 := (unhide L6).cell 1 rfl
        have l62 := (unhide L6).cell 2 rfl
        have l63 := (unhide L6).cell 3 rfl
        have t0 := ((unhide B6).cell (p := ⟨bb, off + kb * 4, none⟩) hbb).trans d0
        have t1 := ((unhide B6).cell (p := ⟨bb, off + kb * 4 + 1, none⟩) hbb).trans d1
        have t2 := ((unhide B6).cell (p := ⟨bb, off + kb * 4 + 2, none⟩) hbb).trans d2
        have t3 := ((unhide B6).cell (p := ⟨bb, off + kb * 4 + 3, none⟩) hbb).trans d3
        clear hown6 hgrow6 hat6 T6 R6' X5 R5 L5 B5 O5 HRW H1C x35
        have HIH := hide (fun wx (hbx : Below w6.heap.size w6 wx) => unhide IH B0 _ wx (fun x hx => Nat.lt_of_lt_of_le (hB0 x hx) ((unhide B6).trans (hbx.mono (unhide B6).size)).size) ((unhide KN).blw ((unhide B6).trans (hbx.mono (unhide B6).size))))
        have HE4 : Hid (∃ e0 e1 e2 e3, (row2 l.toBr r.toBr (kvf 0) (kvf 1))[kb * 4]? = some e0 ∧ (row2 l.toBr r.toBr (kvf 0) (kvf 1))[kb * 4 + 1]? = some e1 ∧ (row2 l.toBr r.toBr (kvf 0) (kvf 1))[kb * 4 + 2]? = some e2 ∧ (row2 l.toBr r.toBr (kvf 0) (kvf 1))[kb * 4 + 3]? = some e3) := hide ⟨_, _, _, _, List.getElem?_eq_getElem (by simp [row2]; omega), List.getElem?_eq_getElem (by simp [row2]; omega), List.getElem?_eq_getElem (by simp [row2]; omega), List.getElem?_eq_getElem (by simp [row2]; omega)⟩
        obtain ⟨e0, e1, e2, e3, he0, he1, he2, he3⟩ := unhide HE4
        have HST : Hid (∀ w7, Below w6.heap.size w6 w7 → (w7.cell? ⟨g6, kb * 4, none⟩ = some e0 ∧ w7.cell? ⟨g6, kb * 4 + 1, none⟩ = some e1 ∧ w7.cell? ⟨g6, kb * 4 + 2, none⟩ = some e2 ∧ w7.cell? ⟨g6, kb * 4 + 3, none⟩ = some e3) ∧ (w7.frozen? ⟨g6, kb * 4, none⟩ = false ∧ w7.frozen? ⟨g6, kb * 4 + 1, none⟩ = false ∧ w7.frozen? ⟨g6, kb * 4 + 2, none⟩ = false ∧ w7.frozen? ⟨g6, kb * 4 + 3, none⟩ = false)) := hide (fun w7 hb7 => by
          have O7 := own_kept (T := fun _ => False) (unhide O6) (Touch.ofBelow hb7) (fun _ _ h => h)
          exact ⟨⟨(O7.cellAt (kb * 4) (by omega)).trans he0, (O7.cellAt (kb * 4 + 1) (by omega)).trans he1, (O7.cellAt (kb * 4 + 2) (by omega)).trans he2, (O7.cellAt (kb * 4 + 3) (by omega)).trans he3⟩, O7.frozenAt (kb * 4), O7.frozenAt (kb * 4 + 1), O7.frozenAt (kb * 4 + 2), O7.frozenAt (kb * 4 + 3)⟩)
        clear he0 he1 he2 he3
        go_cut [] (fun wx => ∃ (w7 : World) (s7 : Option Addr) (n7 c7 : Nat), Brs (fun x => B0 x ∨ w6.heap.size ≤ x) w7 (.slice s7 n7 c7) t'.toBr.kids ∧ Below w6.heap.size w6 w7 ∧ wx = (((w7.setCell ⟨g6, kb * 4, none⟩ (.string t'.toBr.key)).setCell ⟨g6, kb * 4 + 1, none⟩ (.string t'.toBr.val)).setCell ⟨g6, kb * 4 + 2, none⟩ (.int .i64 t'.toBr.at_)).setCell ⟨g6, kb * 4 + 3, none⟩ (.slice s7 n7 c7))
        case first =>
          go_wp2_with fail
          go_region_law ((go_simp; go_at_call 76; refine (unhide HIH _ (below_drewN (Below.refl _ _) 1)).mono ?_; rintro e w7 ⟨s7, n7, c7, rfl, hBr7, hb7⟩; (have HB7 := hide (And.intro hBr7 ((below_drewN (Below.refl w6.heap.size w6) 1).trans hb7))); clear hBr7 hb7; (obtain ⟨⟨g0, g1, g2, g3⟩, i0', i1', i2', i3'⟩ := unhide HST w7 (unhide HB7).2); go_simp))
          all_goals
            go_wp2_with fail
            go_meet
            exact ⟨w7, s7, n7, c7, (unhide HB7).1, (unhide HB7).2, rfl⟩
        case rest =>
          obtain ⟨w7, s7, n7, c7, hBr7, hb7, hwc⟩ := hcut
          have O7 := own_kept (T := fun _ => False) (unhide O6) (Touch.ofBelow hb7) (fun _ _ h => h)
          have B7 := (unhide B6).trans (hb7.mono (unhide B6).size)
          have hz67 := hb7.size
          have X7 := (unhide X6).below hb7
          have R7 := (unhide R6).below hb7
          have O8 := (((O7.stored (kb * 4) (.string t'.toBr.key)).1.stored (kb * 4 + 1) (.string t'.toBr.val)).1.stored (kb * 4 + 2) (.int .i64 t'.toBr.at_)).1.stored (kb * 4 + 3) (.slice s7 n7 c7) |>.1
          have T8 : Touch (fun q => q = g6) w7 ((((w7.setCell ⟨g6, kb * 4, none⟩ (.string t'.toBr.key)).setCell ⟨g6, kb * 4 + 1, none⟩ (.string t'.toBr.val)).setCell ⟨g6, kb * 4 + 2, none⟩ (.int .i64 t'.toBr.at_)).setCell ⟨g6, kb * 4 + 3, none⟩ (.slice s7 n7 c7)) :=
            ((((Touch.refl (fun q => q = g6) w7).setCell ⟨g6, kb * 4, none⟩ _ (fun _ => rfl)).setCell ⟨g6, kb * 4 + 1, none⟩ _ (fun _ => rfl)).setCell ⟨g6, kb * 4 + 2, none⟩ _ (fun _ => rfl)).setCell ⟨g6, kb * 4 + 3, none⟩ _ (fun _ => rfl)
          rw [← hwc] at O8 T8
          have X8 := hide (X7.kept T8 (fun e => by have e' : w.heap.size = g6 := e; omega))
          have R8 := hide (R7.kept T8 (fun e => by have e' : R = g6 := e; omega))
          have B8 := hide (B7.trans (T8.below B7.size (fun q hq e => by have e' : q = g6 := e; omega)))
          have HBr8 := hide (hBr7.touch T8 (fun q hq e => by have e' : q = g6 := e; rcases hq with hq | hq; (have h8 := hB0 q hq; omega); omega))
          have HO8 := hide O8
          clear O7 O8 T8 B7 X7 R7 hBr7 hb7 hwc X6 R6 L6 B6 O6 x36 l60 l61 l62 l63 t0 t1 t2 t3 HIH HST HE4
          obtain ⟨w8, hw8⟩ : ∃ w8, w8 = wc := ⟨_, rfl⟩
          subst hw8
          have x28 := (unhide X8).cell 2 rfl
          have r0' := (unhide R8).cell 0 rfl
          have r1' := (unhide R8).cell 1 rfl
          have r2' := (unhide R8).cell 2 rfl
          have r3' := (unhide R8).cell 3 rfl
          have f0 := (unhide R8).fro 0
          have f1 := (unhide R8).fro 1
          have f2 := (unhide R8).fro 2
          have f3 := (unhide R8).fro 3
          have hZ := set4_blk (unhide R8) (.string ⟨#[]⟩) (.string ⟨#[]⟩) (.int .i64 a) (.slice (some ⟨g6, 0, none⟩) 2 c6)
          have z0 := hZ.cell 0 rfl
          have z1 := hZ.cell 1 rfl
          have z2 := hZ.cell 2 rfl
          have z3 := hZ.cell 3 rfl
          have HT4 := hide (set4_touch w8 R (.string ⟨#[]⟩) (.string ⟨#[]⟩) (.int .i64 a) (.slice (some ⟨g6, 0, none⟩) 2 c6))
          have HBF := hide ((unhide B8).trans ((unhide HT4).below (unhide B8).size (fun q hq e => by have := (unhide HRS); omega)))
          unfold set4 at z0 z1 z2 z3
          clear hZ
          go_wp2_with fail
          refine bodyPost_ret (v := .agg #[.string ⟨#[]⟩, .string ⟨#[]⟩, .int .i64 a, .slice (some ⟨g6, 0, none⟩) 2 c6]) (by simp [results, Tryd.results76, go_sem, z0, z1, z2, z3]) rfl ?_
          have hrs := unhide HRS
          have O9 := own_kept (unhide HO8) (unhide HT4) (fun q hq e => by
            have e1 : g6 = q := by simpa [Value.ownBlock] using hq
            have e2 : q = R := e
            omega)
          have K9 := ((unhide HBr8).touch (unhide HT4) (fun q hq e => by have e2 : q = R := e; rcases hq with hq | hq; (have h8 := hB0 q hq; omega); omega)).mono (T := fun x => B0 x ∨ w.heap.size ≤ x) (fun x hx => hx.imp id (fun h => by omega))
          have zt := toBr_small (unhide HOT)
          have zl := toBr_small okl
          have zr := toBr_small okr
          have L0' := (((unhide HAT).kids 0 (by simp)).mono (T := fun x => B0 x ∨ w.heap.size ≤ x) (fun x hx => .inl hx)).blw (unhide HBF)
          have L1' := (((unhide HAT).kids 1 (by simp)).mono (T := fun x => B0 x ∨ w.heap.size ≤ x) (fun x hx => .inl hx)).blw (unhide HBF)
          rcases (show kb = 0 ∨ kb = 1 by omega) with hk | hk
          · subst hk
            exact unhide HGR (some ⟨g6, 0, none⟩) 2 c6 _ (brs_two (b0 := t'.toBr) (b1 := r.toBr) (v0 := .slice s7 n7 c7) (v1 := kvf 1) O9 zt zr K9 L1' (.inr (by omega))) (unhide HBF)
          · subst hk
            exact unhide HGR (some ⟨g6, 0, none⟩) 2 c6 _ (brs_two (b0 := l.toBr) (b1 := t'.toBr) (v0 := kvf 0) (v1 := .slice s7 n7 c7) O9 zl zt L0' K9 (.inr (by omega))) (unhide HBF)
    · have := l07Insert_build k v h hh at_ (by have := hr.2.1; omega) hkv (.fork a hv l r) hok (.inr (by show (at_ : Int) < (a : Int); omega)) B0 kv w hB0 hB
      unfold putT
      rw [if_neg hlt]
      exact this
end Go.Proofs.YtnajpeaieeaflaaDoor.Sha
namespace Go.Proofs.YtnajpeaieeaflaaDoor.Sha
open Go.ChangeShapes Go.WideShapes Go.ChangeAt Go.RowKit
set_option linter.unusedVariables false
set_option linter.unusedSimpArgs false

/-- The map with a key. -/
def mpT (o : Option Tr) (key val : ByteArray) : Tr := match o with
  | none => .leaf key val
  | some t => putT (kh key) (putAt t key) key val t
theorem putT_lvN (h : ByteArray) (a : Nat) (k v : ByteArray) (ha : a ≤ 256) : ∀ t, TrOK t → (putT h a k v t).lvN = if a < 256 then t.lvN + 1 else t.lvN
  | .leaf k' v', ho => by
    unfold putT
    by_cases e : a = 256
    · rw [if_pos e, if_neg (by omega)]; rfl
    · rw [if_neg e, if_pos (by omega)]; unfold forkT; split <;> rfl
  | .fork b hb l r, ho => by
    unfold putT
    by_cases e : b < a
    · rw [if_pos e]
      split
      · show (putT h a k v l).lvN + r.lvN = _
        rw [putT_lvN h a k v ha l ho.2.2.1]
        show _ = if a < 256 then l.lvN + r.lvN + 1 else l.lvN + r.lvN
        split <;> omega
      · show l.lvN + (putT h a k v r).lvN = _
        rw [putT_lvN h a k v ha r ho.2.2.2]
        show _ = if a < 256 then l.lvN + r.lvN + 1 else l.lvN + r.lvN
        split <;> omega
    · rw [if_neg e, if_pos (by have := ho.1; omega)]
      unfold forkT
      split
      · show 1 + (l.lvN + r.lvN) = l.lvN + r.lvN + 1; omega
      · show (l.lvN + r.lvN) + 1 = l.lvN + r.lvN + 1; rfl
theorem tr_cnt : ∀ t : Tr, t.toBr.cnt + 1 ≤ 2 * t.lvN
  | .leaf k v => by rw [Br.cnt_eq]; show 1 + cntL [] + 1 ≤ 2 * 1; unfold cntL; omega
  | .fork a hv l r => by
    have h1 := tr_cnt l
    have h2 := tr_cnt r
    rw [Br.cnt_eq]
    show 1 + cntL [l.toBr, r.toBr] + 1 ≤ 2 * (l.lvN + r.lvN)
    rw [cntL_cons, cntL_cons]
    unfold cntL
    omega
theorem tr_cntL (t : Tr) : cntL t.toBr.kids ≤ 2 * t.lvN := by
  have h := tr_cnt t
  rw [Br.cnt_eq] at h
  omega
theorem mpT_ok {o : Option Tr} {key val : ByteArray} (ho : OkO o) (hkv : TrOK (.leaf key val)) : TrOK (mpT o key val) := by
  cases o with
  | none => exact hkv
  | some t => exact putT_ok (kh key) (putAt t key) key val (fd_le _ _) (kh_size (by have := (okK_iff.1 hkv.1).2; omega)) hkv.1 hkv.2 t ho
set_option maxRecDepth 100000 in
set_option maxHeartbeats 4000000 in
theorem l07Put_any (o : Option Tr) (hok : OkO o) (hri : RiseO o) (hsp : SepO o) (key val : ByteArray) (hkv : TrOK (.leaf key val)) (B0 : Nat → Prop) (kv : Value) (w : World) (hB0 : ∀ x, B0 x → x < w.heap.size) (hB : Brs B0 w kv (brOf o).kids) :
    Calls Tryd.prog 44 #[.agg #[.string (brOf o).key, .string (brOf o).val, .int .i64 (brOf o).at_, kv], .string key, .string val] w fun e w' => DrR B0 (mpT o key val).toBr w e w' := by
  obtain ⟨sa, cap, rfl, hcap, hcm⟩ := hB.shape
  have hk24 := (okK_iff.1 hkv.1).2
  have B1 := hide (((Below.refl w.heap.size w).alloc (Nat.le_refl _) (.cells #[.string (brOf o).key, .string (brOf o).val, .int .i64 (brOf o).at_, .slice sa (brOf o).kids.length cap] 25)).alloc (by simp) (.cells #[.string ⟨#[]⟩, .string ⟨#[]⟩, .int .i64 0, .slice none 0 0] 25))
  have X1 := hide ((Blk.new w #[.string (brOf o).key, .string (brOf o).val, .int .i64 (brOf o).at_, .slice sa (brOf o).kids.length cap] 25 w.heap.size rfl).alloc (.cells #[.string ⟨#[]⟩, .string ⟨#[]⟩, .int .i64 0, .slice none 0 0] 25))
  have R1 := hide (Blk.new (w.alloc (.cells #[.string (brOf o).key, .string (brOf o).val, .int .i64 (brOf o).at_, .slice sa (brOf o).kids.length cap] 25)) #[.string ⟨#[]⟩, .string ⟨#[]⟩, .int .i64 0, .slice none 0 0] 25 (w.heap.size + 1) (by simp))
  have HRS := hide (show w.heap.size < w.heap.size + 1 by omega)
  have HE := hide (fun wx => l07Empty_any (brOf o).key (brOf o).val (brOf o).at_ (brOf o).kids sa cap wx (by omega))
  have e9 : Br.mk (brOf o).key (brOf o).val (brOf o).at_ (brOf o).kids = brOf o := by cases brOf o; rfl
  rw [e9] at HE
  clear e9
  have HKB := hide hB
  have HNW := hide (fun wx => l07New_any key val wx)
  clear hB
  cases o with
  | none =>
    have he : emptyBr (brOf none) = true := (empty_iff _ _ _ _).2 ⟨rfl, rfl, rfl, rfl⟩
    rw [he] at HE
    have HGR : Hid (∀ w', Below w.heap.size w w' → DrR B0 (mpT none key val).toBr w (.returned (.agg #[.string key, .string val, .int .i64 256, .slice none 0 0])) w') := hide (fun w' hb => ⟨none, 0, 0, rfl, .nil _ _ (by unfold maxLen; omega), hb⟩)
    dsimp only [brOf, Br.key, Br.val, Br.at_, Br.kids, List.length_nil] at *
    clear he HKB
    go_enter Tryd.func44, Tryd.ntmps44
    go_wp2_with fail
    generalize (w.alloc (.cells #[.string ⟨#[]⟩, .string ⟨#[]⟩, .int .i64 0, .slice sa 0 cap] 25)).alloc (.cells #[.string ⟨#[]⟩, .string ⟨#[]⟩, .int .i64 0, .slice none 0 0] 25) = w1 at *
    generalize w.heap.size + 1 = R at *
    refine (unhide HE w1).mono ?_
    rintro e w2 ⟨rfl, hb2⟩
    have B2 := hide ((unhide B1).trans (hb2.mono (unhide B1).size))
    have R2 := hide ((unhide R1).below hb2)
    clear hb2 B1 R1 X1
    go_wp2_with fail
    refine (unhide HNW w2).mono ?_
    rintro e w3 ⟨rfl, hb3⟩
    have B3 := hide ((unhide B2).trans (hb3.mono (unhide B2).size))
    have R3 := hide ((unhide R2).below hb3)
    clear hb3 B2 R2
    have r0 := (unhide R3).cell 0 rfl
    have r1 := (unhide R3).cell 1 rfl
    have r2 := (unhide R3).cell 2 rfl
    have r3 := (unhide R3).cell 3 rfl
    have f0 := (unhide R3).fro 0
    have f1 := (unhide R3).fro 1
    have f2 := (unhide R3).fro 2
    have f3 := (unhide R3).fro 3
    have hZ := set4_blk (unhide R3) (.string key) (.string val) (.int .i64 256) (.slice none 0 0)
    have z0 := hZ.cell 0 rfl
    have z1 := hZ.cell 1 rfl
    have z2 := hZ.cell 2 rfl
    have z3 := hZ.cell 3 rfl
    have HT4 := hide (set4_touch w3 R (.string key) (.string val) (.int .i64 256) (.slice none 0 0))
    have HBF := hide ((unhide B3).trans ((unhide HT4).below (unhide B3).size (fun q hq e => by have := (unhide HRS); omega)))
    unfold set4 at z0 z1 z2 z3
    clear hZ
    go_wp2_with fail
    refine bodyPost_ret (v := .agg #[.string key, .string val, .int .i64 256, .slice none 0 0]) (by simp [results, Tryd.results44, go_sem, z0, z1, z2, z3]) rfl ?_
    exact unhide HGR _ (unhide HBF)
  | some t =>
    rw [show emptyBr (brOf (some t)) = false from not_empty hok] at HE
    have HHS := hide (fun wx => l07Hash_any key wx (by omega))
    have hks := kh_size (k := key) (by omega)
    have hlo := lead_ok (kh key) t hok
    have hlk := kh_size (k := (leadL (kh key) t).1) (by have := (okK_iff.1 hlo.1).2; omega)
    dsimp only [brOf] at *
    have HNR := hide (fun wx (hx : Below w.heap.size w wx) => l07Near_any (kh key) hks t hok hri _ _ wx ((unhide HKB).blw hx))
    have HDF := hide (fun wx => l07Differ_any (kh key) (kh (leadL (kh key) t).1) wx hks hlk)
    rw [fd_comm] at HDF
    have HIN := hide (fun wx (hx : Below w.heap.size w wx) => l07Insert_any key val (kh key) hks (fd (kh (leadL (kh key) t).1) (kh key)) (fd_le _ _) hkv t hok 0 hri hsp.1 rfl B0 _ wx (fun x h9 => Nat.lt_of_lt_of_le (hB0 x h9) hx.size) ((unhide HKB).blw hx))
    have HMT : Hid (mpT (some t) key val = putT (kh key) (fd (kh (leadL (kh key) t).1) (kh key)) key val t) := rfl
    have HGR : Hid (∀ sa n cap w', Brs (fun x => B0 x ∨ w.heap.size ≤ x) w' (.slice sa n cap) (putT (kh key) (fd (kh (leadL (kh key) t).1) (kh key)) key val t).toBr.kids → Below w.heap.size w w' → DrR B0 (mpT (some t) key val).toBr w (.returned (.agg #[.string (putT (kh key) (fd (kh (leadL (kh key) t).1) (kh key)) key val t).toBr.key, .string (putT (kh key) (fd (kh (leadL (kh key) t).1) (kh key)) key val t).toBr.val, .int .i64 (putT (kh key) (fd (kh (leadL (kh key) t).1) (kh key)) key val t).toBr.at_, .slice sa n cap])) w') := hide (fun sa n cap w' h1 hb => ⟨sa, n, cap, rfl, h1, hb⟩)
    generalize (putT (kh key) (fd (kh (leadL (kh key) t).1) (kh key)) key val t).toBr = D at *
    generalize kh (leadL (kh key) t).1 = lh at *
    generalize fd lh (kh key) = A at *
    generalize kh key = hh at *
    clear hlo hlk hks hok hri hsp hkv HMT HKB
    go_enter Tryd.func44, Tryd.ntmps44
    go_wp2_with fail
    generalize (w.alloc (.cells #[.string t.toBr.key, .string t.toBr.val, .int .i64 t.toBr.at_, .slice sa t.toBr.kids.length cap] 25)).alloc (.cells #[.string ⟨#[]⟩, .string ⟨#[]⟩, .int .i64 0, .slice none 0 0] 25) = w1 at *
    generalize w.heap.size + 1 = R at *
    refine (unhide HE w1).mono ?_
    rintro e w2 ⟨rfl, hb2⟩
    have B2 := hide ((unhide B1).trans (hb2.mono (unhide B1).size))
    have X2 := hide ((unhide X1).below hb2)
    have R2 := hide ((unhide R1).below hb2)
    clear hb2 B1 R1 X1 HE
    go_wp2_with fail
    refine (unhide HHS w2).mono ?_
    rintro e w3 ⟨rfl, hb3⟩
    have B3 := hide ((unhide B2).trans (hb3.mono (unhide B2).size))
    have X3 := hide ((unhide X2).below hb3)
    have R3 := hide ((unhide R2).below hb3)
    clear hb3 B2 X2 R2 HHS
    have x0 := (unhide X3).cell 0 rfl
    have x1 := (unhide X3).cell 1 rfl
    have x2 := (unhide X3).cell 2 rfl
    have x3 := (unhide X3).cell 3 rfl
    go_wp2_with fail
    refine (unhide HNR w3 (unhide B3)).mono ?_
    rintro e w4 ⟨rfl, hb4⟩
    have B4 := hide ((unhide B3).trans (hb4.mono (unhide B3).size))
    have X4 := hide ((unhide X3).below hb4)
    have R4 := hide ((unhide R3).below hb4)
    clear hb4 B3 X3 R3 HNR x0 x1 x2 x3
    go_wp2_with fail
    refine (unhide HDF w4).mono ?_
    rintro e w9 ⟨rfl, hw9⟩
    subst w9
    have x0 := (unhide X4).cell 0 rfl
    have x1 := (unhide X4).cell 1 rfl
    have x2 := (unhide X4).cell 2 rfl
    have x3 := (unhide X4).cell 3 rfl
    have HSX : Hid (∀ wx, Below w4.heap.size w4 wx → wx.cell? ⟨w.heap.size, 0, none⟩ = some (.string t.toBr.key) ∧ wx.cell? ⟨w.heap.size, 1, none⟩ = some (.string t.toBr.val) ∧ wx.cell? ⟨w.heap.size, 2, none⟩ = some (.int .i64 t.toBr.at_) ∧ wx.cell? ⟨w.heap.size, 3, none⟩ = some (.slice sa t.toBr.kids.length cap)) := hide (fun wx hb => by
      have X := (unhide X4).below hb
      exact ⟨X.cell 0 rfl, X.cell 1 rfl, X.cell 2 rfl, X.cell 3 rfl⟩)
    go_upto_region 5 with fail
    go_cut [] (fun wx => ∃ (w7 : World) (s7 : Option Addr) (n7 c7 : Nat), Brs (fun x => B0 x ∨ w4.heap.size ≤ x) w7 (.slice s7 n7 c7) D.kids ∧ Below w4.heap.size w4 w7 ∧ wx = set4 w7 R (.string D.key) (.string D.val) (.int .i64 D.at_) (.slice s7 n7 c7))
    case first =>
      go_wp2_with fail
      go_region_law (first
        | (go_simp; go_at_call 76; refine (unhide HIN w5 ((unhide B4).trans ((unhide HB5).mono (unhide B4).size))).mono ?_; rintro e w7 ⟨s7, n7, c7, rfl, hBr7, hb7⟩; (have HB7 := hide (And.intro (hBr7.mono (T := fun x => B0 x ∨ w4.heap.size ≤ x) (fun x hx => hx.imp id (fun h => by have := (unhide HB5).size; omega))) ((unhide HB5).trans (hb7.mono (unhide HB5).size)))); clear hBr7 hb7; (have R7 := (unhide R4).below (unhide HB7).2); (have r0 := R7.cell 0 rfl); (have r1 := R7.cell 1 rfl); (have r2 := R7.cell 2 rfl); (have r3 := R7.cell 3 rfl); (have f0 := R7.fro 0); (have f1 := R7.fro 1); (have f2 := R7.fro 2); (have f3 := R7.fro 3); clear R7; go_simp)
        | (go_simp; go_at_call 73; refine (unhide HNW _).mono ?_; rintro e w5 ⟨rfl, hb5⟩; (have HB5 := hide ((below_drewN (Below.refl w4.heap.size w4) 1).trans hb5)); clear hb5; (obtain ⟨y0, y1, y2, y3⟩ := unhide HSX w5 (unhide HB5)); go_simp))
      all_goals
        go_wp2_with fail
        go_meet
        exact ⟨w7, s7, n7, c7, (unhide HB7).1, (unhide HB7).2, rfl⟩
    case rest =>
      obtain ⟨w7, s7, n7, c7, hBr7, hb7, hwc⟩ := hcut
      have B7 := (unhide B4).trans (hb7.mono (unhide B4).size)
      have hZ := set4_blk ((unhide R4).below hb7) (.string D.key) (.string D.val) (.int .i64 D.at_) (.slice s7 n7 c7)
      have HT4 := set4_touch w7 R (.string D.key) (.string D.val) (.int .i64 D.at_) (.slice s7 n7 c7)
      rw [← hwc] at hZ HT4
      have HBF := hide (B7.trans (HT4.below B7.size (fun q hq e => by have := (unhide HRS); omega)))
      have hR4 := (unhide R4).1
      have HBR := hide ((hBr7.touch HT4 (fun q hq e => by have e2 : q = R := e; have := unhide HRS; rcases hq with hq | hq; (have h8 := hB0 q hq; omega); omega)).mono (T := fun x => B0 x ∨ w.heap.size ≤ x) (fun x hx => hx.imp id (fun h => by have := (unhide B4).size; omega)))
      have z0 := hZ.cell 0 rfl
      have z1 := hZ.cell 1 rfl
      have z2 := hZ.cell 2 rfl
      have z3 := hZ.cell 3 rfl
      clear hZ HT4 B7 hBr7 hb7 hwc B4 X4 R4 x0 x1 x2 x3 HSX HIN HNW HDF
      obtain ⟨w8, hw8⟩ : ∃ w8, w8 = wc := ⟨_, rfl⟩
      subst hw8
      go_wp2_with fail
      refine bodyPost_ret (v := .agg #[.string D.key, .string D.val, .int .i64 D.at_, .slice s7 n7 c7]) (by simp [results, Tryd.results44, go_sem, z0, z1, z2, z3]) rfl ?_
      exact unhide HGR _ _ _ _ (unhide HBR) (unhide HBF)
end Go.Proofs.YtnajpeaieeaflaaDoor.Sha
namespace Go.Proofs.YtnajpeaieeaflaaDoor.Sha
open Go.ChangeShapes Go.WideShapes Go.ChangeAt Go.RowKit
set_option linter.unusedVariables false
set_option linter.unusedSimpArgs false

/-- From node p the bits of h lead to the leaf q. -/
inductive LdQ (w : World) (h : ByteArray) : Nat → Tr → Nat → Prop
  | leaf (p : Nat) (k v : ByteArray) : LdQ w h p (.leaf k v) p
  | fork (p a : Nat) (hv : ByteArray) (l r : Tr) (pl pr q : Nat) : Blk w p (fkC hv a pl pr) → (bitN h a = 0 → LdQ w h pl l q) → (bitN h a = 1 → LdQ w h pr r q) → LdQ w h p (.fork a hv l r) q
theorem LdQ.blw {w w' : World} {h : ByteArray} {p q : Nat} {t : Tr} (hl : LdQ w h p t q) (hb : Below w.heap.size w w') : LdQ w' h p t q := by
  induction hl with
  | leaf p k v => exact .leaf p k v
  | fork p a hv l r pl pr q h1 h2 h3 i2 i3 => exact .fork p a hv l r pl pr q (h1.below hb) i2 i3
theorem LdQ.down {w : World} {h : ByteArray} {p a q pl pr : Nat} {hv : ByteArray} {l r : Tr} (hl : LdQ w h p (.fork a hv l r) q) (hb : Blk w p (fkC hv a pl pr)) : (bitN h a = 0 → LdQ w h pl l q) ∧ (bitN h a = 1 → LdQ w h pr r q) := by
  cases hl with
  | fork p a hv l r pl2 pr2 q h1 h2 h3 =>
    have e4 := (h1.cell 4 rfl).symm.trans (hb.cell 4 rfl)
    have e5 := (h1.cell 5 rfl).symm.trans (hb.cell 5 rfl)
    simp only [Option.some.injEq, Value.pointer.injEq, Addr.mk.injEq] at e4 e5
    obtain rfl := e4.1
    obtain rfl := e5.1
    exact ⟨h2, h3⟩
theorem ldq_of {w : World} {S : Nat → Prop} {p : Nat} {t : Tr} (h : ByteArray) (hn : Nd w S p t) : ∃ q, LdQ w h p t q ∧ Blk w q (lfC (leadL h t).1 (leadL h t).2) := by
  induction hn with
  | leaf S p k v h0 h1 => exact ⟨p, .leaf p k v, h1⟩
  | fork S Sl Sr p a hv l r pl pr h0 h1 h2 h3 h4 h5 h6 i5 i6 =>
    rcases bitN_01 h a with hb | hb
    · obtain ⟨q, q1, q2⟩ := i5
      refine ⟨q, .fork p a hv l r pl pr q h4 (fun _ => q1) (fun e => by omega), ?_⟩
      have e : leadL h (.fork a hv l r) = leadL h l := by show (if bitN h a = 0 then _ else _) = _; rw [if_pos hb]
      rw [e]; exact q2
    · obtain ⟨q, q1, q2⟩ := i6
      refine ⟨q, .fork p a hv l r pl pr q h4 (fun e => by omega) (fun _ => q1), ?_⟩
      have e : leadL h (.fork a hv l r) = leadL h r := by show (if bitN h a = 0 then _ else _) = _; rw [if_neg (by omega)]
      rw [e]; exact q2
set_option maxRecDepth 100000 in
set_option maxHeartbeats 2000000 in
theorem leadQ_any (h : ByteArray) (hh : h.size = 32) (w : World) (S : Nat → Prop) (p q : Nat) (t : Tr) (hn : Nd w S p t) (hr : Rise 0 t) (hq : LdQ w h p t q) :
    Calls Tryd.prog 62 #[.pointer (some ⟨p, 0, none⟩), .string h] w fun e w' => e = .returned (.pointer (some ⟨q, 0, none⟩)) ∧ ∃ n, w' = w.drewN n := by
  have HN := hide hn
  have HR := hide hr
  have HQ := hide hq
  clear hn hr hq
  go_enter Tryd.func62, Tryd.ntmps62
  go_wp2_with fail
  go_loopw [0] (fun nv wr => ∃ (p' m : Nat) (t' : Tr) (S' : Nat → Prop), nv = .pointer (some ⟨p', 0, none⟩) ∧ Nd wr S' p' t' ∧ Rise m t' ∧ LdQ wr h p' t' q ∧ ∃ n, wr = w.drewN n) (fun nv wr => 256 - atCell nv wr)
  case atStart => exact ⟨p, 0, t, S, rfl, unhide HN, unhide HR, unhide HQ, 0, rfl⟩
  case round =>
    clear HN HR HQ
    obtain ⟨p', m, t', S', rfl, hn, hr, hl, n, hw⟩ := hrel
    have HW := hide hw
    have HL := hide hl
    have HA := hide (atCell_is hn.atC)
    clear hw hl
    cases hn with
    | leaf S' p' k v h0 h1 =>
      have x3 := h1.cell 3 rfl
      have X := hide h1
      clear h1 hr HA
      go_wp2_with fail
      go_ret
      have h9 : p' = q := by cases unhide HL with | leaf => rfl
      subst h9
      exact ⟨rfl, n, unhide HW⟩
    | fork S' Sl Sr p' a hv l r pl pr h0 h1 h2 h3 h4 h5 h6 =>
      obtain ⟨r0, r1, r2, r3⟩ := hr
      have x3 := h4.cell 3 rfl
      have x4 := h4.cell 4 rfl
      have x5 := h4.cell 5 rfl
      have HB := hide (fun wx => hashBit_any h a wx hh r1)
      have ha : (a : Int) < 256 := by omega
      have HE : Hid ((bitN h a = 0 → LdQ wr h pl l q) ∧ (bitN h a = 1 → LdQ wr h pr r q)) := hide (unhide HL |>.down h4)
      have HN5 := hide h5
      have HN6 := hide h6
      clear h1 h2 h3 h4 h5 h6 h0
      rcases bitN_01 h a with hb | hb
      · rw [hb] at HB
        have HE2 := hide ((unhide HE).1 hb)
        clear HE
        go_wp2_with fail
        go_quiet (first | (go_at_call 21; exact Calls.quiet_of_same (unhide HB _)))
        have N2 := hide ((unhide HN5).blw (below_drewN (Below.refl _ wr) nq))
        have HW2 : Hid (∃ n', wr.drewN nq = w.drewN n') := hide ⟨n + nq, by rw [unhide HW, World.drewN_drewN]⟩
        have HE3 := hide ((unhide HE2).blw (below_drewN (Below.refl _ wr) nq))
        clear HE2
        generalize wr.drewN nq = w2 at *
        go_wp2_with fail
        have hat := atCell_is (unhide N2).atC
        have hle := r2.le
        have hle2 := r2.le256
        have hA := unhide HA
        refine ⟨⟨pl, a + 1, l, Sl, rfl, unhide N2, r2, ?_, unhide HW2⟩, ?_⟩
        · exact unhide HE3
        · rw [hat, hA]; show 256 - l.at_ < 256 - a; omega
      · rw [hb] at HB
        have HE2 := hide ((unhide HE).2 hb)
        clear HE
        go_wp2_with fail
        go_quiet (first | (go_at_call 21; exact Calls.quiet_of_same (unhide HB _)))
        have N2 := hide ((unhide HN6).blw (below_drewN (Below.refl _ wr) nq))
        have HW2 : Hid (∃ n', wr.drewN nq = w.drewN n') := hide ⟨n + nq, by rw [unhide HW, World.drewN_drewN]⟩
        have HE3 := hide ((unhide HE2).blw (below_drewN (Below.refl _ wr) nq))
        clear HE2
        generalize wr.drewN nq = w2 at *
        go_wp2_with fail
        have hat := atCell_is (unhide N2).atC
        have hle := r3.le
        have hle2 := r3.le256
        have hA := unhide HA
        refine ⟨⟨pr, a + 1, r, Sr, rfl, unhide N2, r3, ?_, unhide HW2⟩, ?_⟩
        · exact unhide HE3
        · rw [hat, hA]; show 256 - r.at_ < 256 - a; omega
end Go.Proofs.YtnajpeaieeaflaaDoor.Sha
namespace Go.Proofs.YtnajpeaieeaflaaDoor.Sha
open Go.ChangeShapes Go.WideShapes Go.ChangeAt Go.RowKit
set_option linter.unusedVariables false
set_option linter.unusedSimpArgs false

/-- The hash of the leaf that a key's hash leads to. -/
def leadH (o : Option Tr) (key : ByteArray) : ByteArray := match o with
  | none => ⟨#[]⟩
  | some t => kh (leadL (kh key) t).1
def fullB (o : Option Tr) (key : ByteArray) : Bool := decide (lvO o = 40) && decide (leadH o key ≠ kh key)
/-- What MapPut answers of a map. -/
def mpO (o : Option Tr) (key val : ByteArray) : Br × Int := match o with
  | none => (brOf (some (.leaf key val)), 0)
  | some t => if putAt t key < 256 ∧ t.lvN = 40 then (brOf none, 7) else (brOf (some (putT (kh key) (putAt t key) key val t)), 0)
def opC (b : Br) (key : ByteArray) : Int := if txC key.size 1 24 = 0 then (match mapV b with | none => 1 | some _ => 0) else txC key.size 1 24
def mpOut (b : Br) (key val : ByteArray) : Br × Int := if mxI (opC b key) (txC val.size 0 60) = 0 then (match mapV b with
    | none => (brOf none, 0)
    | some o => mpO o key val)
  else (brOf none, mxI (opC b key) (txC val.size 0 60))
theorem mxI_zero {a b : Int} (h0 : 0 ≤ a) (h1 : 0 ≤ b) (h : mxI a b = 0) : a = 0 ∧ b = 0 := by unfold mxI at h; split at h <;> omega
theorem txC_lo (n : Nat) (lo hi : Int) : 0 ≤ txC n lo hi := by rcases txC_cases n lo hi with h | h | h <;> omega
theorem txC_val {n : Nat} (h : txC n 0 60 = 0) : n ≤ 60 := by
  unfold txC at h
  split at h
  · omega
  · split at h
    · rename_i h2; have := inB_iff.1 h2; omega
    · omega
end Go.Proofs.YtnajpeaieeaflaaDoor.Sha
namespace Go.Proofs.YtnajpeaieeaflaaDoor.Sha
open Go.ChangeShapes Go.WideShapes Go.ChangeAt Go.RowKit
set_option linter.unusedVariables false
set_option linter.unusedSimpArgs false

/-- A map as it is read: each fork's hash is its first leaf's. -/
def Tr.nrm : Tr → Tr
  | .leaf k v => .leaf k v
  | .fork a _ l r => .fork a l.nrm.hash l.nrm r.nrm
theorem nrm_at (t : Tr) : t.nrm.at_ = t.at_ := by cases t <;> rfl
theorem nrm_lvN : ∀ t : Tr, t.nrm.lvN = t.lvN
  | .leaf _ _ => rfl
  | .fork a h l r => by show l.nrm.lvN + r.nrm.lvN = _; rw [nrm_lvN l, nrm_lvN r]; rfl
theorem nrm_trR : ∀ t : Tr, trR t.nrm = trR t
  | .leaf _ _ => rfl
  | .fork a h l r => by show fkR a (trR l.nrm) (trR r.nrm) = fkR a (trR l) (trR r); rw [nrm_trR l, nrm_trR r]
theorem nrm_lead (h : ByteArray) : ∀ t : Tr, leadL h t.nrm = leadL h t
  | .leaf _ _ => rfl
  | .fork a hh l r => by
    show (if bitN h a = 0 then leadL h l.nrm else leadL h r.nrm) = (if bitN h a = 0 then leadL h l else leadL h r)
    rw [nrm_lead h l, nrm_lead h r]
theorem nrm_toBr : ∀ t : Tr, t.nrm.toBr = t.toBr
  | .leaf _ _ => rfl
  | .fork a h l r => by
    unfold Tr.nrm Tr.toBr
    rw [nrm_toBr l, nrm_toBr r]
theorem nrm_alike : ∀ (t : Tr) (m : Nat), Rise m t → Sep t → ∀ i, i < t.at_ → bitN t.nrm.hash i = bitN t.hash i
  | .leaf _ _, _, _, _, _, _ => rfl
  | .fork a h l r, m, hr, hs, i, hi => by
    obtain ⟨r0, r1, r2, r3⟩ := hr
    obtain ⟨s0, s1, s2, s3, s4⟩ := hs
    have hi' : i < a := hi
    have hl := r2.le
    show bitN l.nrm.hash i = bitN h i
    rw [nrm_alike l (a + 1) r2 s3 i (by omega), s0 i hi']
theorem readV_back : ∀ (t : Tr) (m room : Nat), TrOK t → Rise m t → Sep t → t.lvN ≤ room → readV t.toBr m room = some (t.nrm, room - t.lvN)
  | .leaf k v, m, room, ho, hr, hs, hn => by
    have h1 : 1 ≤ room := hn
    show readV (.mk k v 256 []) m room = _
    rw [readV_leaf rfl, if_pos ⟨ho.1, ho.2, rfl, by omega⟩]
    rfl
  | .fork a h l r, m, room, ho, hr, hs, hn => by
    obtain ⟨r0, r1, r2, r3⟩ := hr
    obtain ⟨s0, s1, s2, s3, s4⟩ := hs
    have hn' : l.lvN + r.lvN ≤ room := hn
    have hll := r2.le
    have hrl := r3.le
    have e1 := readV_back l (a + 1) room ho.2.2.1 r2 s3 (by omega)
    have e2 := readV_back r (a + 1) (room - l.lvN) ho.2.2.2 r3 s4 (by omega)
    have al := nrm_alike l (a + 1) r2 s3
    have ar := nrm_alike r (a + 1) r3 s4
    have hfd := (fd_iff l.hash r.hash a r1).1 s1
    have hfd2 : fd l.nrm.hash r.nrm.hash = a := (fd_iff _ _ a r1).2 ⟨fun i hi => by rw [al i (by omega), ar i (by omega)]; exact hfd.1 i hi, by rw [al a (by omega), ar a (by omega)]; exact hfd.2⟩
    have hb : bitN l.nrm.hash a = 0 := by rw [al a (by omega)]; exact s2
    show readV (.mk ⟨#[]⟩ ⟨#[]⟩ (a : Int) [l.toBr, r.toBr]) m room = _
    rw [readV_fork ⟨by omega, by omega, rfl, rfl⟩]
    have ea : ((a : Int) + 1) = ((a + 1 : Nat) : Int) := by omega
    rw [ea, e1]
    dsimp only
    rw [e2]
    dsimp only
    rw [Int.toNat_natCast, if_pos ⟨hfd2, hb⟩]
    show some (Tr.fork a l.nrm.hash l.nrm r.nrm, room - l.lvN - r.lvN) = some (Tr.fork a l.nrm.hash l.nrm r.nrm, room - (l.lvN + r.lvN))
    rw [Nat.sub_sub]
theorem lvN_pos : ∀ t : Tr, 1 ≤ t.lvN
  | .leaf _ _ => Nat.le_refl 1
  | .fork a h l r => by have := lvN_pos l; show 1 ≤ l.lvN + r.lvN; omega
def nrmO : Option Tr → Option Tr := Option.map Tr.nrm
theorem mapV_back (o : Option Tr) (hok : OkO o) (hr : RiseO o) (hs : SepO o) (hn : lvO o ≤ 40) : mapV (brOf o) = some (nrmO o) := by
  cases o with
  | none => rfl
  | some t =>
    have h := readV_back t 0 40 hok hr hs.1 hn
    have he : emptyBr t.toBr = false := by
      cases t with
      | leaf k v => rw [Bool.eq_false_iff]; intro h; have := (empty_iff _ _ _ _).1 h; have := this.2.2.1; simp at this
      | fork a hh l r => rw [Bool.eq_false_iff]; intro h; have := (empty_iff _ _ _ _).1 h; have := this.2.2.2; simp at this
    have h' : readV t.toBr 0 40 = some (t.nrm, 40 - t.lvN) := h
    unfold mapV
    rw [if_neg (by show ¬ emptyBr t.toBr = true; rw [he]; decide)]
    show (match readV t.toBr 0 40 with | some (t, _) => some (some t) | none => none) = _
    rw [h']
    rfl
end Go.Proofs.YtnajpeaieeaflaaDoor.Sha
namespace Go.Proofs.YtnajpeaieeaflaaDoor.Sha
set_option linter.unusedVariables false
set_option maxRecDepth 1000000

def keysM : List ByteArray := [⟨#[97]⟩, ⟨#[97, 49]⟩, ⟨#[97, 50]⟩, ⟨#[98]⟩, ⟨#[98, 49]⟩, ⟨#[98, 50]⟩, ⟨#[99]⟩, ⟨#[99, 49]⟩, ⟨#[99, 50]⟩, ⟨#[100]⟩, ⟨#[100, 49]⟩, ⟨#[100, 50]⟩, ⟨#[101]⟩, ⟨#[101, 49]⟩, ⟨#[101, 50]⟩, ⟨#[102]⟩, ⟨#[102, 49]⟩, ⟨#[102, 50]⟩, ⟨#[97, 108, 112, 104, 97]⟩, ⟨#[97, 108, 112, 104, 97, 49]⟩, ⟨#[97, 108, 112, 104, 97, 50]⟩, ⟨#[98, 101, 116, 97]⟩, ⟨#[98, 101, 116, 97, 49]⟩, ⟨#[98, 101, 116, 97, 50]⟩]
def keysF : List ByteArray := [⟨#[107, 48]⟩, ⟨#[107, 49]⟩, ⟨#[107, 50]⟩, ⟨#[107, 51]⟩, ⟨#[107, 52]⟩, ⟨#[107, 53]⟩, ⟨#[107, 54]⟩, ⟨#[107, 55]⟩, ⟨#[107, 56]⟩, ⟨#[107, 57]⟩, ⟨#[107, 49, 48]⟩, ⟨#[107, 49, 49]⟩, ⟨#[107, 49, 50]⟩, ⟨#[107, 49, 51]⟩, ⟨#[107, 49, 52]⟩, ⟨#[107, 49, 53]⟩, ⟨#[107, 49, 54]⟩, ⟨#[107, 49, 55]⟩, ⟨#[107, 49, 56]⟩, ⟨#[107, 49, 57]⟩, ⟨#[107, 50, 48]⟩, ⟨#[107, 50, 49]⟩, ⟨#[107, 50, 50]⟩, ⟨#[107, 50, 51]⟩, ⟨#[107, 50, 52]⟩, ⟨#[107, 50, 53]⟩, ⟨#[107, 50, 54]⟩, ⟨#[107, 50, 55]⟩, ⟨#[107, 50, 56]⟩, ⟨#[107, 50, 57]⟩, ⟨#[107, 51, 48]⟩, ⟨#[107, 51, 49]⟩, ⟨#[107, 51, 50]⟩, ⟨#[107, 51, 51]⟩, ⟨#[107, 51, 52]⟩, ⟨#[107, 51, 53]⟩, ⟨#[107, 51, 54]⟩, ⟨#[107, 51, 55]⟩, ⟨#[107, 51, 56]⟩, ⟨#[107, 51, 57]⟩]
def keysA : List ByteArray := keysM ++ keysF
def hashesA : List (List UInt8) := [[202, 151, 129, 18, 202, 27, 189, 202, 250, 194, 49, 179, 154, 35, 220, 77, 167, 134, 239, 248, 20, 124, 78, 114, 185, 128, 119, 133, 175, 238, 72, 187],
  [245, 95, 241, 111, 102, 244, 51, 96, 38, 107, 149, 219, 111, 143, 236, 1, 215, 96, 49, 5, 67, 6, 174, 74, 75, 56, 5, 152, 246, 207, 209, 20],
  [44, 58, 66, 73, 215, 112, 112, 5, 134, 73, 219, 216, 34, 220, 175, 121, 87, 88, 111, 206, 66, 140, 251, 44, 168, 139, 148, 116, 30, 218, 139, 7],
  [62, 35, 232, 22, 0, 57, 89, 74, 51, 137, 79, 101, 100, 225, 177, 52, 139, 189, 122, 0, 136, 212, 44, 74, 203, 115, 238, 174, 213, 156, 0, 157],
  [125, 201, 111, 119, 108, 132, 35, 229, 122, 39, 133, 72, 154, 63, 156, 67, 251, 110, 117, 104, 118, 214, 173, 154, 156, 172, 74, 164, 231, 46, 193, 147],
  [72, 20, 217, 32, 147, 172, 138, 15, 74, 33, 99, 171, 135, 222, 229, 9, 186, 48, 106, 88, 245, 136, 139, 224, 237, 203, 47, 205, 7, 18, 2, 139],
  [46, 125, 44, 3, 169, 80, 122, 226, 101, 236, 245, 181, 53, 104, 133, 165, 51, 147, 162, 2, 157, 36, 19, 148, 153, 114, 101, 161, 162, 90, 239, 198],
  [208, 246, 49, 202, 29, 219, 168, 219, 59, 207, 203, 158, 5, 124, 220, 152, 208, 55, 159, 27, 238, 0, 231, 90, 84, 81, 71, 162, 125, 173, 217, 130],
  [156, 10, 190, 81, 198, 230, 101, 93, 129, 222, 45, 4, 77, 79, 177, 148, 147, 31, 5, 140, 4, 38, 198, 124, 114, 133, 216, 245, 101, 126, 214, 74],
  [24, 172, 62, 115, 67, 240, 22, 137, 12, 81, 14, 147, 249, 53, 38, 17, 105, 217, 227, 245, 101, 67, 100, 41, 131, 15, 175, 9, 52, 244, 248, 228],
  [139, 83, 99, 159, 21, 44, 143, 198, 239, 48, 128, 47, 222, 70, 43, 160, 190, 156, 240, 133, 247, 88, 13, 198, 158, 253, 114, 224, 2, 171, 187, 53],
  [231, 136, 16, 62, 225, 83, 24, 252, 210, 175, 155, 115, 180, 235, 187, 51, 169, 3, 176, 32, 222, 123, 48, 125, 113, 245, 254, 208, 244, 51, 229, 72],
  [63, 121, 187, 123, 67, 91, 5, 50, 22, 81, 218, 239, 211, 116, 205, 198, 129, 220, 6, 250, 166, 94, 55, 78, 56, 51, 123, 136, 202, 4, 109, 234],
  [139, 92, 196, 223, 126, 236, 125, 50, 167, 129, 78, 202, 74, 240, 71, 174, 51, 178, 213, 35, 66, 102, 119, 21, 104, 46, 25, 194, 91, 11, 159, 170],
  [172, 15, 9, 192, 248, 191, 94, 122, 75, 6, 61, 134, 50, 85, 241, 109, 140, 233, 171, 230, 0, 226, 136, 217, 52, 207, 49, 59, 203, 255, 99, 235],
  [37, 47, 16, 200, 54, 16, 235, 202, 26, 5, 156, 11, 174, 130, 85, 235, 162, 249, 91, 228, 209, 215, 188, 250, 137, 215, 36, 138, 130, 217, 241, 17],
  [63, 82, 76, 220, 7, 161, 29, 124, 98, 32, 189, 176, 73, 254, 141, 212, 27, 39, 72, 60, 150, 204, 89, 181, 129, 224, 34, 213, 71, 41, 13, 105],
  [228, 171, 78, 59, 20, 147, 213, 169, 151, 180, 229, 28, 222, 251, 170, 16, 87, 14, 243, 234, 148, 50, 189, 114, 231, 182, 168, 150, 84, 206, 183, 246],
  [142, 211, 246, 173, 104, 91, 149, 158, 173, 112, 34, 81, 142, 26, 247, 108, 216, 22, 248, 232, 236, 124, 205, 218, 30, 212, 1, 142, 143, 34, 35, 248],
  [178, 73, 151, 161, 159, 126, 168, 194, 147, 18, 75, 113, 30, 121, 0, 216, 154, 60, 151, 179, 216, 227, 244, 196, 46, 119, 149, 203, 189, 0, 185, 99],
  [11, 135, 208, 6, 73, 231, 220, 233, 85, 29, 166, 62, 89, 93, 151, 97, 20, 11, 221, 222, 224, 172, 10, 108, 28, 60, 152, 244, 58, 168, 10, 154],
  [244, 78, 100, 231, 95, 57, 72, 233, 247, 63, 141, 250, 148, 114, 28, 76, 232, 203, 180, 242, 101, 196, 121, 12, 112, 43, 45, 65, 207, 191, 39, 83],
  [186, 248, 132, 235, 108, 102, 83, 200, 174, 3, 9, 64, 99, 204, 167, 168, 173, 250, 22, 243, 138, 195, 11, 16, 245, 94, 161, 141, 190, 246, 113, 234],
  [136, 84, 167, 129, 41, 185, 27, 205, 250, 61, 50, 23, 164, 210, 73, 39, 75, 37, 209, 191, 139, 183, 242, 134, 61, 128, 197, 2, 116, 45, 39, 27],
  [209, 165, 172, 154, 1, 95, 172, 46, 247, 179, 65, 103, 54, 53, 81, 42, 21, 17, 244, 31, 227, 125, 17, 27, 38, 127, 3, 158, 236, 93, 79, 88],
  [106, 185, 241, 235, 143, 125, 51, 136, 244, 249, 213, 134, 246, 110, 153, 253, 84, 8, 13, 242, 196, 70, 240, 229, 134, 104, 176, 156, 8, 161, 109, 208],
  [1, 95, 126, 107, 197, 174, 175, 72, 55, 36, 8, 158, 146, 82, 204, 19, 181, 9, 81, 166, 182, 148, 18, 82, 39, 101, 207, 244, 215, 128, 48, 110],
  [47, 80, 82, 201, 253, 21, 177, 154, 24, 197, 132, 208, 19, 99, 86, 129, 152, 97, 63, 12, 52, 232, 68, 9, 239, 121, 56, 112, 154, 21, 158, 194],
  [148, 9, 29, 214, 74, 33, 255, 233, 66, 20, 188, 109, 23, 222, 235, 67, 135, 58, 92, 242, 240, 167, 27, 75, 92, 170, 154, 92, 129, 182, 150, 125],
  [136, 219, 246, 18, 151, 44, 89, 74, 44, 47, 109, 222, 73, 62, 241, 196, 205, 39, 173, 186, 140, 54, 230, 235, 208, 11, 137, 255, 20, 58, 186, 97],
  [29, 146, 173, 75, 105, 135, 250, 3, 71, 204, 93, 47, 182, 207, 158, 71, 200, 63, 79, 108, 174, 179, 181, 239, 111, 98, 151, 48, 82, 137, 33, 195],
  [251, 132, 140, 153, 185, 164, 62, 199, 134, 106, 35, 234, 0, 12, 25, 57, 161, 104, 245, 255, 23, 49, 74, 11, 136, 199, 190, 113, 29, 126, 247, 208],
  [90, 61, 248, 157, 167, 191, 35, 215, 30, 198, 63, 17, 29, 145, 113, 195, 240, 80, 71, 56, 10, 23, 129, 47, 32, 36, 142, 99, 207, 222, 212, 251],
  [195, 200, 28, 43, 154, 154, 233, 227, 88, 214, 143, 196, 125, 188, 133, 150, 241, 155, 66, 0, 17, 231, 28, 101, 125, 22, 22, 241, 79, 183, 121, 23],
  [74, 228, 63, 216, 53, 132, 132, 166, 91, 3, 207, 243, 179, 240, 235, 229, 71, 141, 234, 72, 57, 141, 36, 98, 143, 65, 66, 149, 24, 228, 188, 224],
  [19, 135, 109, 6, 39, 164, 143, 25, 142, 93, 94, 235, 160, 68, 234, 174, 206, 117, 69, 161, 18, 216, 114, 239, 31, 199, 175, 118, 142, 77, 167, 127],
  [88, 224, 143, 105, 186, 131, 134, 226, 219, 135, 91, 26, 45, 146, 115, 74, 76, 156, 79, 98, 228, 73, 98, 253, 41, 229, 154, 84, 111, 173, 179, 102],
  [103, 116, 233, 123, 50, 212, 126, 78, 132, 128, 25, 199, 51, 61, 10, 236, 251, 30, 180, 111, 51, 89, 23, 243, 77, 241, 229, 173, 156, 1, 22, 249],
  [58, 140, 254, 129, 213, 3, 2, 176, 49, 205, 227, 6, 3, 196, 187, 251, 226, 175, 90, 50, 255, 251, 128, 160, 52, 244, 169, 218, 157, 49, 81, 83],
  [91, 212, 202, 73, 117, 48, 180, 179, 73, 14, 53, 15, 53, 144, 187, 169, 254, 33, 97, 40, 179, 90, 87, 143, 69, 159, 201, 171, 135, 69, 174, 136],
  [141, 104, 198, 85, 103, 124, 92, 114, 216, 17, 137, 73, 232, 153, 117, 113, 145, 89, 47, 50, 82, 65, 46, 22, 220, 100, 250, 126, 68, 255, 160, 149],
  [108, 71, 193, 222, 102, 231, 229, 235, 215, 177, 254, 7, 70, 234, 26, 54, 11, 207, 4, 57, 41, 130, 159, 177, 140, 189, 122, 7, 194, 93, 118, 57],
  [54, 46, 183, 248, 149, 78, 116, 227, 167, 184, 35, 179, 115, 89, 121, 189, 154, 71, 92, 236, 203, 207, 148, 113, 183, 115, 98, 102, 196, 136, 27, 212],
  [31, 241, 118, 80, 83, 44, 48, 52, 255, 99, 148, 2, 98, 124, 222, 148, 41, 97, 140, 26, 220, 51, 122, 103, 142, 245, 243, 166, 73, 113, 77, 122],
  [203, 103, 144, 58, 98, 211, 212, 214, 78, 92, 10, 59, 71, 126, 82, 35, 128, 81, 207, 157, 51, 114, 173, 2, 125, 206, 177, 53, 67, 255, 21, 115],
  [215, 31, 35, 138, 107, 116, 227, 177, 115, 2, 245, 113, 232, 40, 85, 122, 146, 121, 29, 195, 132, 112, 187, 57, 156, 194, 198, 117, 209, 115, 2, 23],
  [67, 43, 46, 123, 244, 88, 62, 119, 108, 58, 248, 62, 25, 82, 171, 167, 239, 61, 62, 105, 86, 10, 91, 80, 32, 136, 57, 144, 174, 170, 35, 201],
  [246, 143, 49, 137, 231, 57, 77, 139, 57, 209, 184, 189, 176, 53, 34, 156, 170, 198, 126, 195, 225, 215, 31, 190, 76, 76, 169, 160, 178, 223, 242, 251],
  [82, 11, 50, 171, 199, 45, 249, 251, 29, 228, 247, 182, 136, 246, 120, 194, 172, 116, 73, 200, 222, 102, 60, 53, 32, 177, 22, 143, 139, 109, 99, 237],
  [100, 13, 163, 9, 168, 54, 58, 2, 229, 219, 31, 189, 58, 96, 103, 240, 49, 195, 226, 90, 54, 95, 98, 252, 38, 0, 38, 168, 104, 161, 115, 179],
  [172, 246, 187, 40, 76, 106, 155, 61, 6, 64, 111, 153, 140, 83, 221, 8, 5, 130, 40, 87, 194, 109, 68, 122, 132, 93, 142, 228, 173, 7, 30, 173],
  [195, 6, 48, 200, 249, 62, 122, 87, 101, 248, 65, 43, 40, 56, 240, 203, 67, 157, 205, 210, 6, 223, 241, 82, 5, 194, 88, 194, 24, 224, 30, 244],
  [156, 26, 17, 239, 225, 4, 128, 162, 15, 6, 26, 62, 65, 57, 240, 74, 241, 39, 18, 58, 169, 98, 71, 46, 167, 59, 56, 236, 158, 134, 174, 116],
  [151, 2, 34, 70, 109, 126, 195, 134, 254, 143, 207, 128, 140, 110, 44, 88, 71, 3, 233, 177, 221, 223, 223, 151, 12, 139, 60, 64, 121, 212, 136, 218],
  [4, 212, 244, 52, 133, 92, 15, 160, 181, 73, 213, 146, 66, 208, 60, 149, 96, 163, 9, 66, 4, 150, 229, 30, 136, 17, 176, 202, 186, 208, 201, 177],
  [43, 218, 168, 161, 151, 44, 12, 67, 29, 13, 198, 135, 173, 241, 102, 36, 97, 26, 204, 52, 37, 185, 183, 236, 118, 206, 240, 50, 226, 151, 176, 180],
  [77, 77, 224, 165, 199, 39, 19, 239, 95, 160, 164, 136, 206, 61, 63, 73, 126, 136, 19, 230, 17, 220, 43, 101, 62, 218, 251, 213, 29, 208, 1, 52],
  [252, 168, 56, 207, 225, 115, 142, 72, 140, 166, 50, 87, 130, 100, 78, 79, 58, 130, 55, 95, 61, 25, 29, 87, 151, 3, 113, 222, 193, 58, 122, 50],
  [32, 125, 180, 69, 129, 167, 93, 214, 121, 225, 176, 29, 118, 55, 56, 18, 172, 32, 99, 38, 122, 38, 80, 174, 162, 61, 190, 133, 172, 88, 179, 100],
  [221, 80, 9, 205, 46, 113, 121, 0, 192, 116, 48, 156, 213, 96, 215, 9, 223, 143, 200, 43, 22, 101, 205, 225, 96, 211, 2, 63, 39, 89, 227, 82],
  [184, 161, 124, 73, 105, 19, 158, 151, 19, 171, 150, 243, 75, 151, 93, 27, 41, 119, 95, 25, 150, 118, 206, 54, 206, 230, 170, 65, 252, 161, 135, 142],
  [237, 30, 211, 43, 114, 54, 125, 107, 217, 158, 153, 231, 135, 1, 224, 108, 44, 21, 1, 114, 34, 214, 218, 185, 58, 162, 42, 69, 187, 29, 152, 211],
  [188, 236, 159, 59, 45, 187, 213, 230, 29, 150, 7, 89, 58, 153, 12, 136, 99, 144, 8, 21, 7, 246, 77, 166, 22, 87, 88, 139, 22, 242, 28, 199],
  [241, 158, 34, 84, 155, 130, 165, 151, 252, 1, 238, 65, 156, 138, 107, 44, 248, 11, 117, 60, 190, 199, 227, 89, 29, 20, 159, 30, 130, 220, 194, 226]]
set_option maxHeartbeats 4000000 in
theorem kh_keys : keysA.map (fun k => (kh k).data.toList) = hashesA := by decide +kernel
theorem hashes_nodup : hashesA.Nodup := by decide +kernel
theorem kh_inj {x y : ByteArray} (hx : x ∈ keysA) (hy : y ∈ keysA) (h : kh x = kh y) : x = y := by
  obtain ⟨i, hi, rfl⟩ := List.getElem_of_mem hx
  obtain ⟨j, hj, rfl⟩ := List.getElem_of_mem hy
  have nd := hashes_nodup
  rw [← kh_keys] at nd
  have e : (keysA.map (fun k => (kh k).data.toList))[i]'(by simpa using hi) = (keysA.map (fun k => (kh k).data.toList))[j]'(by simpa using hj) := by
    rw [List.getElem_map, List.getElem_map, h]
  have hp := List.pairwise_iff_getElem.1 nd
  rcases Nat.lt_trichotomy i j with h1 | h1 | h1
  · exact absurd e (hp i j _ _ h1)
  · subst h1; rfl
  · exact absurd e.symm (hp j i _ _ h1)
end Go.Proofs.YtnajpeaieeaflaaDoor.Sha
namespace Go.Proofs.YtnajpeaieeaflaaDoor.Sha
open Go.ChangeShapes Go.WideShapes Go.ChangeAt Go.RowKit
set_option linter.unusedVariables false
set_option linter.unusedSimpArgs false
set_option maxRecDepth 100000

def keyN (j : Nat) : ByteArray := keysA.getD j ByteArray.empty
theorem keysA_len : keysA.length = 64 := by decide
theorem keyN_mem {j : Nat} (h : j < 64) : keyN j ∈ keysA := by
  unfold keyN
  rw [List.getD_eq_getElem?_getD, List.getElem?_eq_getElem (by rw [keysA_len]; exact h)]
  exact List.getElem_mem _
theorem keys_ok : ∀ j : Fin 64, okK (keyN j.val) = true := by decide +kernel
theorem keyN_inj : ∀ i j : Fin 64, keyN i.val = keyN j.val → i = j := by decide +kernel
/-- All keys of a map are among the first so many. -/
def KI (n : Nat) : Tr → Prop
  | .leaf k _ => ∃ j, j < n ∧ k = keyN j
  | .fork _ _ l r => KI n l ∧ KI n r
theorem KI.mono {n m : Nat} (h : n ≤ m) : ∀ {t : Tr}, KI n t → KI m t
  | .leaf _ _, ⟨j, hj, e⟩ => ⟨j, by omega, e⟩
  | .fork _ _ l r, ⟨h1, h2⟩ => ⟨KI.mono h h1, KI.mono h h2⟩
theorem KI.lead {n : Nat} (h : ByteArray) : ∀ {t : Tr}, KI n t → ∃ j, j < n ∧ (leadL h t).1 = keyN j
  | .leaf _ _, ⟨j, hj, e⟩ => ⟨j, hj, e⟩
  | .fork a _ l r, ⟨h1, h2⟩ => by
    unfold leadL
    split
    · exact h1.lead h
    · exact h2.lead h
theorem KI.fork {n a : Nat} {h k v : ByteArray} {t : Tr} (hk : ∃ j, j < n ∧ k = keyN j) (ht : KI n t) : KI n (forkT a h k v t) := by
  unfold forkT
  split
  · exact ⟨hk, ht⟩
  · exact ⟨ht, hk⟩
theorem KI.put {n : Nat} (h : ByteArray) (a : Nat) (k v : ByteArray) (hk : ∃ j, j < n ∧ k = keyN j) : ∀ {t : Tr}, KI n t → KI n (putT h a k v t)
  | .leaf k' v', ht => by
    unfold putT
    split
    · exact hk
    · exact KI.fork hk ht
  | .fork b hh l r, ht => by
    unfold putT
    split
    · split
      · exact ⟨KI.put h a k v hk ht.1, ht.2⟩
      · exact ⟨ht.1, KI.put h a k v hk ht.2⟩
    · exact KI.fork hk ht
def KIO (n : Nat) : Option Tr → Prop
  | none => True
  | some t => KI n t
theorem KI.nrm {n : Nat} : ∀ {t : Tr}, KI n t → KI n t.nrm
  | .leaf _ _, h => h
  | .fork _ _ l r, h => ⟨KI.nrm h.1, KI.nrm h.2⟩

theorem put_lead (h : ByteArray) (a : Nat) (k v : ByteArray) : ∀ t : Tr, leadL h (putT h a k v t) = (k, v)
  | .leaf k' v' => by
    unfold putT
    split
    · rfl
    · unfold forkT; split
      · rename_i hb; unfold leadL; rw [if_pos hb]; rfl
      · rename_i hb; unfold leadL; rw [if_neg hb]; rfl
  | .fork b hh l r => by
    unfold putT
    split
    · split
      · rename_i hb; unfold leadL; rw [if_pos hb]; exact put_lead h a k v l
      · rename_i hb; unfold leadL; rw [if_neg hb]; exact put_lead h a k v r
    · unfold forkT; split
      · rename_i hb; unfold leadL; rw [if_pos hb]; rfl
      · rename_i hb; unfold leadL; rw [if_neg hb]; rfl
theorem drop_fork {a : Nat} {h k v : ByteArray} {t : Tr} : dropT h (forkT a h k v t) = some t := by
  unfold forkT
  split
  · rename_i hb; unfold dropT; rw [if_pos hb]; rfl
  · rename_i hb; unfold dropT; rw [if_neg hb]; rfl
theorem drop_put (h : ByteArray) (a : Nat) (k v : ByteArray) (ha : a < 256) : ∀ t : Tr, dropT h (putT h a k v t) = some t
  | .leaf k' v' => by
    unfold putT
    rw [if_neg (by omega)]
    exact drop_fork
  | .fork b hh l r => by
    unfold putT
    split
    · split
      · rename_i hb; unfold dropT; rw [if_pos hb, drop_put h a k v ha l]
      · rename_i hb; unfold dropT; rw [if_neg hb, drop_put h a k v ha r]
    · exact drop_fork
theorem nrm_hash2 : ∀ t : Tr, t.nrm.nrm = t.nrm
  | .leaf _ _ => rfl
  | .fork a h l r => by
    show Tr.fork a l.nrm.nrm.hash l.nrm.nrm r.nrm.nrm = _
    rw [nrm_hash2 l, nrm_hash2 r]; rfl
theorem drop_nrm (h : ByteArray) : ∀ t : Tr, nrmO (dropT h t.nrm) = nrmO (dropT h t)
  | .leaf _ _ => rfl
  | .fork a hh l r => by
    have h1 := drop_nrm h l
    have h2 := drop_nrm h r
    unfold Tr.nrm dropT
    split
    · cases e1 : dropT h l.nrm <;> cases e2 : dropT h l <;> rw [e1, e2] at h1
      · show some (Tr.nrm (Tr.nrm r)) = some (Tr.nrm r); rw [nrm_hash2]
      · simp [nrmO] at h1
      · simp [nrmO] at h1
      · rename_i x y
        have hx : x.nrm = y.nrm := by simpa [nrmO] using h1
        show some (Tr.fork a x.nrm.hash x.nrm r.nrm.nrm) = some (Tr.fork a y.nrm.hash y.nrm r.nrm)
        rw [hx, nrm_hash2]
    · cases e1 : dropT h r.nrm <;> cases e2 : dropT h r <;> rw [e1, e2] at h2
      · show some (Tr.nrm (Tr.nrm l)) = some (Tr.nrm l); rw [nrm_hash2]
      · simp [nrmO] at h2
      · simp [nrmO] at h2
      · rename_i x y
        have hx : x.nrm = y.nrm := by simpa [nrmO] using h2
        show some (Tr.fork a l.nrm.nrm.hash l.nrm.nrm x.nrm) = some (Tr.fork a l.nrm.hash l.nrm y.nrm)
        rw [hx, nrm_hash2]
theorem rootR_nrm (o : Option Tr) : rootR (nrmO o) = rootR o := by
  cases o with
  | none => rfl
  | some t => exact nrm_trR t
theorem drop_gone (h : ByteArray) : ∀ (t : Tr) (m : Nat), Rise m t → Sep t → ∀ t', dropT h t = some t' → kh (leadL h t').1 ≠ h
  | .leaf _ _, m, hr, hs, t', e => by cases e
  | .fork a hh l r, m, hr, hs, t', e => by
    obtain ⟨r0, r1, r2, r3⟩ := hr
    obtain ⟨s0, s1, s2, s3, s4⟩ := hs
    have hll := r2.le
    have hrl := r3.le
    have hfd := (fd_iff l.hash r.hash a r1).1 s1
    unfold dropT at e
    split at e
    · rename_i hb
      cases hd : dropT h l with
      | none =>
        rw [hd] at e
        cases e
        intro eq
        have h1 := lead_alike h r (a + 1) r3 s4 a (by omega)
        rw [eq, hb] at h1
        exact hfd.2 (by rw [s2, h1])
      | some l' =>
        rw [hd] at e
        cases e
        have ih := drop_gone h l (a + 1) r2 s3 l' hd
        unfold leadL
        rw [if_pos hb]
        exact ih
    · rename_i hb
      cases hd : dropT h r with
      | none =>
        rw [hd] at e
        cases e
        intro eq
        have h1 := lead_alike h l (a + 1) r2 s3 a (by omega)
        rw [eq, s2] at h1
        exact hb h1
      | some r' =>
        rw [hd] at e
        cases e
        have ih := drop_gone h r (a + 1) r3 s4 r' hd
        unfold leadL
        rw [if_neg hb]
        exact ih
theorem dropT_lvN (h : ByteArray) : ∀ (t : Tr), lvO (dropT h t) ≤ t.lvN
  | .leaf _ _ => Nat.zero_le _
  | .fork a hh l r => by
    have h1 := dropT_lvN h l
    have h2 := dropT_lvN h r
    show _ ≤ l.lvN + r.lvN
    unfold dropT
    split
    · cases e : dropT h l with
      | none => show r.lvN ≤ _; omega
      | some l' => rw [e] at h1; have h1 : l'.lvN ≤ l.lvN := h1; show l'.lvN + r.lvN ≤ _; omega
    · cases e : dropT h r with
      | none => show l.lvN ≤ _; omega
      | some r' => rw [e] at h2; have h2 : r'.lvN ≤ r.lvN := h2; show l.lvN + r'.lvN ≤ _; omega

/-- A map as the drawn ones are: right, of keys that are drawn, no more of them than there may be. -/
structure DrM (o : Option Tr) : Prop where
  ok : OkO o
  ri : RiseO o
  sp : SepO o
  sz : lvO o ≤ 40
  ki : KIO 64 o
theorem DrM.map {o : Option Tr} (h : DrM o) : mapV (brOf o) = some (nrmO o) := mapV_back o h.ok h.ri h.sp h.sz
theorem tx_key {k : ByteArray} (h : okK k = true) : txC k.size 1 24 = 0 := by
  obtain ⟨h1, h2⟩ := okK_iff.1 h
  unfold txC
  rw [if_neg (by omega), if_pos (by rw [inB_iff]; omega)]
theorem mg_dr {o : Option Tr} (h : DrM o) {key : ByteArray} (hk : okK key = true) : mgOut (brOf o) key = match getV (nrmO o) key with
    | none => .tuple #[.string ⟨#[]⟩, .int .i64 5]
    | some x => .tuple #[.string x, .int .i64 0] := by
  unfold mgOut
  rw [if_pos (tx_key hk), h.map]
  rfl
theorem mr_dr {o : Option Tr} (h : DrM o) : mrOut (brOf o) = .tuple #[.string (rootR o), .int .i64 0] := by
  unfold mrOut
  rw [h.map]
  show Value.tuple #[.string (rootR (nrmO o)), .int .i64 0] = _
  rw [rootR_nrm]
theorem mp_dr {o : Option Tr} (h : DrM o) {key val : ByteArray} (hk : okK key = true) (hv : val.size ≤ 60) : mpOut (brOf o) key val = mpO (nrmO o) key val := by
  have e1 : opC (brOf o) key = 0 := by unfold opC; rw [if_pos (tx_key hk), h.map]
  have e2 : txC val.size 0 60 = 0 := by
    unfold txC
    rw [if_neg (by omega), if_pos (by rw [inB_iff]; omega)]
  unfold mpOut
  rw [e1, e2, if_pos (by decide), h.map]
theorem md_dr {o : Option Tr} (h : DrM o) {key : ByteArray} (hk : okK key = true) : mdOut (brOf o) key = mdO (nrmO o) key := by
  unfold mdOut
  rw [if_pos (tx_key hk), h.map]
theorem DrM.nrm {o : Option Tr} (h : DrM o) : DrM (nrmO o) := by
  have hm := h.map
  have h1 := (mapV_br hm).2
  have h2 := mapV_rise hm
  have h3 := mapV_sep hm
  refine ⟨h1, h2, h3, ?_, ?_⟩
  · cases o with
    | none => exact Nat.zero_le _
    | some t => show t.nrm.lvN ≤ 40; rw [nrm_lvN]; exact h.sz
  · cases o with
    | none => trivial
    | some t => exact KI.nrm h.ki
theorem leaf_dr {j : Nat} (hj : j < 64) {val : ByteArray} (hv : val.size ≤ 60) : DrM (some (.leaf (keyN j) val)) :=
  ⟨⟨keys_ok ⟨j, hj⟩, hv⟩, Nat.zero_le _, ⟨trivial, by show 1 ≤ 40; omega⟩, by show 1 ≤ 40; omega, j, hj, rfl⟩
theorem put_dr {t : Tr} (h : DrM (some t)) {j : Nat} (hj : j < 64) {val : ByteArray} (hv : val.size ≤ 60) (hn : ¬ (putAt t (keyN j) < 256 ∧ t.lvN = 40)) : DrM (some (putT (kh (keyN j)) (putAt t (keyN j)) (keyN j) val t)) := by
  have hat : putAt t (keyN j) ≤ 256 := fd_le _ _
  have hks := kh_size (k := keyN j) (by have := (okK_iff.1 (keys_ok ⟨j, hj⟩)).2; dsimp only at this; omega)
  have hf := putT_facts (keyN j) val t 0 h.ri h.sp.1 (putAt t (keyN j)) rfl (Nat.zero_le _)
  have hl := putT_lvN (kh (keyN j)) (putAt t (keyN j)) (keyN j) val hat t h.ok
  have h40 : t.lvN ≤ 40 := h.sz
  have hsz : (putT (kh (keyN j)) (putAt t (keyN j)) (keyN j) val t).lvN ≤ 40 := by
    rw [hl]; split <;> omega
  exact ⟨putT_ok _ _ _ _ hat hks (keys_ok ⟨j, hj⟩) hv t h.ok, hf.1, ⟨hf.2.1, hsz⟩, hsz, KI.put _ _ _ _ ⟨j, hj, rfl⟩ h.ki⟩
/-- What is left of a map of drawn keys, one of them dropped. -/
theorem drop_dr {t : Tr} (h : DrM (some t)) (hh : ByteArray) : OkO (dropT hh t) ∧ RiseO (dropT hh t) ∧ SepO (dropT hh t) ∧ lvO (dropT hh t) ≤ 40 := by
  have h1 := dropT_ok hh t h.ok
  have h2 := dropT_facts hh t 0 h.ri h.sp.1
  have h3 := dropT_lvN hh t
  have h40 : t.lvN ≤ 40 := h.sz
  cases e : dropT hh t with
  | none => exact ⟨trivial, trivial, trivial, Nat.zero_le _⟩
  | some t' =>
    rw [e] at h1 h2 h3
    have h3' : t'.lvN ≤ t.lvN := h3
    exact ⟨h1, h2.1, ⟨h2.2.1, by omega⟩, by show t'.lvN ≤ 40; omega⟩
def newB : ByteArray := ⟨#[110, 101, 119]⟩
theorem dr_small {o : Option Tr} (h : OkO o) : (brOf o).key.size ≤ maxLen ∧ (brOf o).val.size ≤ maxLen := by
  unfold maxLen
  cases o with
  | none => exact ⟨by decide, by decide⟩
  | some t =>
    cases t with
    | leaf k v => have := (okK_iff.1 h.1).2; have := h.2; exact ⟨by show k.size ≤ _; omega, by show v.size ≤ _; omega⟩
    | fork a hh l r => exact ⟨Nat.zero_le _, Nat.zero_le _⟩
/-- All that the law asks of a map of drawn keys and a drawn key. -/
theorem map_drops {o : Option Tr} (h : DrM o) {j : Nat} (hj : j < 64) :
    ∃ s c1, mgOut (brOf o) (keyN j) = .tuple #[.string s, .int .i64 c1] ∧ ((mpOut (brOf o) (keyN j) newB).2 = 7 ∨ (mpOut (brOf o) (keyN j) newB).2 = 0 ∧ ∃ o2 o3 after, (mpOut (brOf o) (keyN j) newB).1 = brOf o2 ∧ OkO o2 ∧ OkO o3 ∧ mdOut (brOf o2) (keyN j) = (brOf o3, 0) ∧
      mrOut (brOf o3) = .tuple #[.string after, .int .i64 0] ∧ (mdOut (brOf o3) (keyN j)).2 = 5 ∧ mapB (brOf o3) = true ∧ (c1 = 0 ∨ after = rootR o)) := by
  have hk := keys_ok ⟨j, hj⟩
  dsimp only at hk
  have hks := kh_size (k := keyN j) (by have := (okK_iff.1 hk).2; omega)
  have hv : newB.size ≤ 60 := by decide
  rw [mg_dr h hk, mp_dr h hk hv]
  cases o with
  | none =>
    refine ⟨⟨#[]⟩, 5, rfl, .inr ⟨rfl, some (.leaf (keyN j) newB), none, rootR none, rfl, (leaf_dr hj hv).ok, trivial, ?_, rfl, ?_, rfl, .inr rfl⟩⟩
    · rw [md_dr (leaf_dr hj hv) hk]
      show (if keyN j = keyN j then (brOf none, (0 : Int)) else (brOf none, 5)) = _
      rw [if_pos rfl]
    · have hn : DrM none := ⟨trivial, trivial, trivial, Nat.zero_le _, trivial⟩
      rw [md_dr hn hk]; rfl
  | some t =>
    have hN : DrM (some t.nrm) := h.nrm
    have hg : getV (nrmO (some t)) (keyN j) = if (leadL (kh (keyN j)) t.nrm).1 = keyN j then some (leadL (kh (keyN j)) t.nrm).2 else none := rfl
    have hmp : mpO (nrmO (some t)) (keyN j) newB = if putAt t.nrm (keyN j) < 256 ∧ t.nrm.lvN = 40 then (brOf none, 7) else (brOf (some (putT (kh (keyN j)) (putAt t.nrm (keyN j)) (keyN j) newB t.nrm)), 0) := rfl
    rw [hg, hmp]
    by_cases hfull : putAt t.nrm (keyN j) < 256 ∧ t.nrm.lvN = 40
    · rw [if_pos hfull]
      split
      · exact ⟨_, _, rfl, .inl rfl⟩
      · exact ⟨_, _, rfl, .inl rfl⟩
    rw [if_neg hfull]
    have hP := put_dr hN hj hv hfull
    generalize hT2 : putT (kh (keyN j)) (putAt t.nrm (keyN j)) (keyN j) newB t.nrm = t2 at hP ⊢
    have hP2 := hP.nrm
    have hlead : leadL (kh (keyN j)) t2.nrm = (keyN j, newB) := by rw [nrm_lead, ← hT2]; exact put_lead _ _ _ _ _
    have hd1 : mdOut (brOf (some t2)) (keyN j) = (brOf (dropT (kh (keyN j)) t2.nrm), 0) := by
      rw [md_dr hP hk]
      show (if (leadL (kh (keyN j)) t2.nrm).1 = keyN j then (brOf (dropT (kh (keyN j)) t2.nrm), (0 : Int)) else (brOf none, 5)) = _
      rw [hlead, if_pos rfl]
    obtain ⟨q1, q2, q3, q4⟩ := drop_dr (t := t2.nrm) hP2 (kh (keyN j))
    have hgone := drop_gone (kh (keyN j)) t2.nrm 0 hP2.ri hP2.sp.1
    have hback := mapV_back _ q1 q2 q3 q4
    have hroot : putAt t.nrm (keyN j) < 256 → rootR (dropT (kh (keyN j)) t2.nrm) = rootR (some t) := by
      intro hlt
      rw [← rootR_nrm, drop_nrm, ← hT2, drop_put _ _ _ _ hlt, rootR_nrm]
      exact nrm_trR t
    have hcase : (∃ x, (if (leadL (kh (keyN j)) t.nrm).1 = keyN j then some (leadL (kh (keyN j)) t.nrm).2 else none) = some x) ∨ ((if (leadL (kh (keyN j)) t.nrm).1 = keyN j then some (leadL (kh (keyN j)) t.nrm).2 else none) = none ∧ putAt t.nrm (keyN j) < 256) := by
      by_cases he : (leadL (kh (keyN j)) t.nrm).1 = keyN j
      · exact .inl ⟨_, by rw [if_pos he]⟩
      · refine .inr ⟨by rw [if_neg he], ?_⟩
        obtain ⟨i, hi, hli⟩ := KI.lead (kh (keyN j)) (t := t.nrm) hN.ki
        have hok := (lead_ok (kh (keyN j)) t.nrm hN.ok).1
        have h32 := kh_size (k := (leadL (kh (keyN j)) t.nrm).1) (by have := (okK_iff.1 hok).2; omega)
        refine (fd_ne h32 hks).2 (fun eq => he ?_)
        rw [hli] at eq ⊢
        exact kh_inj (keyN_mem hi) (keyN_mem hj) eq
    have hfin : ∀ c1 : Int, (c1 = 0 ∨ rootR (dropT (kh (keyN j)) t2.nrm) = rootR (some t)) → ∃ o2 o3 after, brOf (some t2) = brOf o2 ∧ OkO o2 ∧ OkO o3 ∧ mdOut (brOf o2) (keyN j) = (brOf o3, 0) ∧ mrOut (brOf o3) = .tuple #[.string after, .int .i64 0] ∧ (mdOut (brOf o3) (keyN j)).2 = 5 ∧ mapB (brOf o3) = true ∧ (c1 = 0 ∨ after = rootR (some t)) := by
      intro c1 hc
      refine ⟨some t2, dropT (kh (keyN j)) t2.nrm, rootR (dropT (kh (keyN j)) t2.nrm), rfl, hP.ok, q1, hd1, ?_, ?_, ?_, hc⟩
      · unfold mrOut
        rw [hback]
        show Value.tuple #[.string (rootR (nrmO _)), .int .i64 0] = _
        rw [rootR_nrm]
      · unfold mdOut
        rw [if_pos (tx_key hk), hback]
        cases e : dropT (kh (keyN j)) t2.nrm with
        | none => rfl
        | some t4 =>
          have hne := hgone t4 e
          show (if (leadL (kh (keyN j)) t4.nrm).1 = keyN j then (brOf (dropT (kh (keyN j)) t4.nrm), (0 : Int)) else (brOf none, 5)).2 = 5
          rw [nrm_lead, if_neg (fun eq => hne (by rw [eq]))]
      · rw [mapB_V, hback]; rfl
    rcases hcase with ⟨x, hx⟩ | ⟨hx, hlt⟩
    · rw [hx]
      exact ⟨x, 0, rfl, .inr ⟨rfl, hfin 0 (.inl rfl)⟩⟩
    · rw [hx]
      exact ⟨⟨#[]⟩, 5, rfl, .inr ⟨rfl, hfin 5 (.inr (hroot hlt))⟩⟩
end Go.Proofs.YtnajpeaieeaflaaDoor.Sha
namespace Go.Proofs.YtnajpeaieeaflaaDoor.Sha
open Go.ChangeShapes Go.WideShapes Go.ChangeAt Go.RowKit
set_option linter.unusedVariables false
set_option linter.unusedSimpArgs false

/-- Steps are as they must be: their numbers rise within a hash's bits, and each hash is one. -/
def stepsB : Nat → List Pk → Prop
  | _, [] => True
  | m, f :: r => ∃ a : Nat, f.s = (a : Int) ∧ m ≤ a ∧ a < 256 ∧ f.h.size = 32 ∧ stepsB (a + 1) r
/-- Two hashes go the same way at each step. -/
def wayB (x y : ByteArray) : List Pk → Bool
  | [] => true
  | f :: r => decide (bitN x f.s.toNat = bitN y f.s.toNat) && wayB x y r
/-- The hash of two kids on the sides that a bit tells. -/
def sideR (b : Int) (a : Nat) (x y : ByteArray) : ByteArray := if b = 0 then fkR a x y else fkR a y x
/-- The root that the steps lead to from a leaf up. -/
def rootBy (h leaf : ByteArray) : List Pk → ByteArray
  | [] => leaf
  | f :: r => sideR (bitN h f.s.toNat) f.s.toNat (rootBy h leaf r) f.h
theorem sideR_size {b : Int} {a : Nat} {x y : ByteArray} (hx : x.size = 32) (hy : y.size = 32) : (sideR b a x y).size = 32 := by
  unfold sideR
  split
  · exact fkR_size hx hy
  · exact fkR_size hy hx
theorem rootBy_size (h : ByteArray) {leaf : ByteArray} (hl : leaf.size = 32) : ∀ (l : List Pk) (m : Nat), stepsB m l → (rootBy h leaf l).size = 32
  | [], _, _ => hl
  | f :: r, m, hs => by
    obtain ⟨a, e, h0, h1, h2, h3⟩ := hs
    exact sideR_size (rootBy_size h hl r _ h3) h2
theorem stepsB_get : ∀ (l : List Pk) (m : Nat), stepsB m l → ∀ i, i < l.length → ∃ a : Nat, (l.getD i default).s = (a : Int) ∧ m + i ≤ a ∧ a < 256 ∧ (l.getD i default).h.size = 32
  | [], m, hs, i, hi => by simp at hi
  | f :: r, m, hs, 0, hi => by
    obtain ⟨a, e, h0, h1, h2, h3⟩ := hs
    exact ⟨a, e, by omega, h1, h2⟩
  | f :: r, m, hs, i + 1, hi => by
    obtain ⟨a, e, h0, h1, h2, h3⟩ := hs
    obtain ⟨b, e', h0', h1', h2'⟩ := stepsB_get r (a + 1) h3 i (by simpa using hi)
    exact ⟨b, e', by omega, h1', h2'⟩
theorem stepsB_next : ∀ (l : List Pk) (m : Nat), stepsB m l → ∀ i, i + 1 < l.length → (l.getD i default).s < (l.getD (i + 1) default).s
  | [], m, hs, i, hi => by simp at hi
  | f :: r, m, hs, 0, hi => by
    obtain ⟨a, e, h0, h1, h2, h3⟩ := hs
    obtain ⟨b, e', h0', h1', h2'⟩ := stepsB_get r (a + 1) h3 0 (by simpa using hi)
    show f.s < (r.getD 0 default).s
    omega
  | f :: r, m, hs, i + 1, hi => by
    obtain ⟨a, e, h0, h1, h2, h3⟩ := hs
    exact stepsB_next r (a + 1) h3 i (by simpa using hi)
theorem stepsB_len : ∀ (l : List Pk) (m : Nat), stepsB m l → m ≤ 256 → l.length + m ≤ 256
  | [], m, hs, h => by simpa using h
  | f :: r, m, hs, h => by
    obtain ⟨a, e, h0, h1, h2, h3⟩ := hs
    have := stepsB_len r (a + 1) h3 (by omega)
    simp only [List.length_cons]
    omega
theorem stepsB_drop : ∀ (l : List Pk) (m k : Nat), stepsB m l → ∃ m', stepsB m' (l.drop k)
  | l, m, 0, hs => ⟨m, hs⟩
  | [], m, k + 1, hs => ⟨m, trivial⟩
  | f :: r, m, k + 1, hs => by
    obtain ⟨a, e, h0, h1, h2, h3⟩ := hs
    exact stepsB_drop r (a + 1) k h3
theorem rootBy_drop (h leaf : ByteArray) (l : List Pk) {q : Nat} (hq : q < l.length) : rootBy h leaf (l.drop q) = sideR (bitN h (l.getD q default).s.toNat) (l.getD q default).s.toNat (rootBy h leaf (l.drop (q + 1))) (l.getD q default).h := by
  rw [List.drop_eq_getElem_cons hq]
  have : l.getD q default = l[q] := by rw [List.getD_eq_getElem?_getD, List.getElem?_eq_getElem hq]; rfl
  rw [this]; rfl
theorem rootBy_dsize (h : ByteArray) {leaf : ByteArray} (hl : leaf.size = 32) (l : List Pk) (hs : stepsB 0 l) (k : Nat) : (rootBy h leaf (l.drop k)).size = 32 := by
  obtain ⟨m', h'⟩ := stepsB_drop l 0 k hs
  exact rootBy_size h hl _ m' h'
theorem wayB_drop (x y : ByteArray) (l : List Pk) {q : Nat} (hq : q < l.length) : wayB x y (l.drop q) = (decide (bitN x (l.getD q default).s.toNat = bitN y (l.getD q default).s.toNat) && wayB x y (l.drop (q + 1))) := by
  rw [List.drop_eq_getElem_cons hq]
  have : l.getD q default = l[q] := by rw [List.getD_eq_getElem?_getD, List.getElem?_eq_getElem hq]; rfl
  rw [this]; rfl
/-- What CheckKey answers where its arguments are as they must be. -/
def ckOut (root key : ByteArray) (f : Bool) (pk pv : ByteArray) (st : List Pk) : Int :=
  if pk.size = 0 then (if f = false ∧ pv.size = 0 ∧ st.length = 0 ∧ root = hashV [2] then 0 else 10)
  else if okK pk = true ∧ f = decide (pk = key) then
    (if wayB (kh key) (kh pk) st = true then (if rootBy (kh key) (lfR pk pv) st = root then 0 else 11) else 10)
  else 10
/-- A map's own steps are as they must be, on the way of its leaf, and lead to its root. -/
theorem steps_ok (h : ByteArray) : ∀ (t : Tr) (m : Nat), TrOK t → Rise m t → stepsB m (stepsV h t)
  | .leaf k v, m, ho, hr => trivial
  | .fork a hh l r, m, ho, hr => by
    obtain ⟨r0, r1, r2, r3⟩ := hr
    unfold stepsV
    split
    · exact ⟨a, rfl, r0, r1, trR_size r ho.2.2.2, steps_ok h l _ ho.2.2.1 r2⟩
    · exact ⟨a, rfl, r0, r1, trR_size l ho.2.2.1, steps_ok h r _ ho.2.2.2 r3⟩
theorem steps_way (h : ByteArray) : ∀ (t : Tr) (m : Nat), Rise m t → Sep t → wayB h (kh (leadL h t).1) (stepsV h t) = true
  | .leaf k v, m, hr, hs => rfl
  | .fork a hh l r, m, hr, hs => by
    have hb := lead_bit h hr hs
    obtain ⟨r0, r1, r2, r3⟩ := hr
    obtain ⟨s0, s1, s2, s3, s4⟩ := hs
    have il := steps_way h l _ r2 s3
    have ir := steps_way h r _ r3 s4
    unfold leadL at hb ⊢
    unfold stepsV
    by_cases e : bitN h a = 0
    · rw [if_pos e] at hb ⊢
      rw [if_pos e]
      show (decide (bitN h (a : Int).toNat = bitN (kh (leadL h l).1) (a : Int).toNat) && wayB h (kh (leadL h l).1) (stepsV h l)) = true
      rw [il, Int.toNat_natCast, hb]; simp
    · rw [if_neg e] at hb ⊢
      rw [if_neg e]
      show (decide (bitN h (a : Int).toNat = bitN (kh (leadL h r).1) (a : Int).toNat) && wayB h (kh (leadL h r).1) (stepsV h r)) = true
      rw [ir, Int.toNat_natCast, hb]; simp
theorem steps_root (h : ByteArray) : ∀ t : Tr, rootBy h (lfR (leadL h t).1 (leadL h t).2) (stepsV h t) = trR t
  | .leaf k v => rfl
  | .fork a hh l r => by
    have il := steps_root h l
    have ir := steps_root h r
    unfold leadL stepsV
    by_cases e : bitN h a = 0
    · rw [if_pos e, if_pos e]
      show sideR (bitN h (a : Int).toNat) (a : Int).toNat (rootBy h (lfR (leadL h l).1 (leadL h l).2) (stepsV h l)) (trR r) = fkR a (trR l) (trR r)
      rw [il, Int.toNat_natCast]; unfold sideR; rw [if_pos e]
    · rw [if_neg e, if_neg e]
      show sideR (bitN h (a : Int).toNat) (a : Int).toNat (rootBy h (lfR (leadL h r).1 (leadL h r).2) (stepsV h r)) (trR l) = fkR a (trR l) (trR r)
      rw [ir, Int.toNat_natCast]; unfold sideR; rw [if_neg e]
/-- What is proved of a key is accepted for the map's root, and for that one alone. -/
theorem ck_own (o : Option Tr) (key root : ByteArray) (ho : OkO o) (hr : RiseO o) (hs : SepO o) :
    (ckOut root key (pkFound o key) (pkKV o key).1 (pkKV o key).2 (pkSteps o key) = 0 ↔ root = rootR o) := by
  cases o with
  | none =>
    unfold ckOut pkFound pkKV pkSteps rootR
    dsimp only
    rw [if_pos (show (⟨#[]⟩ : ByteArray).size = 0 from rfl)]
    by_cases e : root = hashV [2]
    · rw [if_pos ⟨rfl, rfl, rfl, e⟩]; simp [e]
    · rw [if_neg (fun h => e h.2.2.2)]; simp [e]
  | some t =>
    have hk := (lead_ok (kh key) t ho).1
    have h1 := okK_iff.1 hk
    unfold ckOut pkFound pkKV pkSteps rootR
    dsimp only
    rw [if_neg (by omega), if_pos ⟨hk, rfl⟩, if_pos (steps_way (kh key) t 0 hr hs.1), steps_root]
    by_cases e : trR t = root
    · rw [if_pos e]; simp [e]
    · rw [if_neg e]
      constructor
      · intro h; cases h
      · intro h; exact absurd h.symm e
end Go.Proofs.YtnajpeaieeaflaaDoor.Sha
namespace Go.Proofs.YtnajpeaieeaflaaDoor.Sha
open Go.ChangeShapes Go.WideShapes Go.ChangeAt Go.RowKit
set_option linter.unusedVariables false
set_option linter.unusedSimpArgs false

theorem pf_dr {o : Option Tr} (h : DrM o) {key : ByteArray} (hk : okK key = true) : pfOut (brOf o) key = ⟨pkFound (nrmO o) key, pkKV (nrmO o) key, pkSteps (nrmO o) key, 0⟩ := by
  unfold pfOut
  rw [if_pos (tx_key hk), h.map]
theorem map_proves {o : Option Tr} (h : DrM o) {key : ByteArray} (hk : okK key = true) :
    ∃ f k v st root s c, pfOut (brOf o) key = ⟨f, (k, v), st, 0⟩ ∧ mrOut (brOf o) = .tuple #[.string root, .int .i64 0] ∧ mgOut (brOf o) key = .tuple #[.string s, .int .i64 c] ∧
      (f = true ↔ c = 0) ∧ (f = true → v = s) ∧ stepsB 0 st ∧ v.size ≤ 60 ∧ k.size ≤ 24 ∧ root.size = 32 ∧ (∀ r, ckOut r key f k v st = 0 ↔ r = root) := by
  have hn := h.nrm
  have h1 := mr_dr h
  have h2 := mg_dr h hk
  have h3 := pf_dr h hk
  rw [← rootR_nrm o] at h1
  have hc := fun r => ck_own (nrmO o) key r hn.ok hn.ri hn.sp
  cases o with
  | none =>
    refine ⟨false, ⟨#[]⟩, ⟨#[]⟩, [], _, ⟨#[]⟩, 5, h3, h1, h2, by simp, by simp, trivial, by decide, by decide, ?_, hc⟩
    exact hash_size (by decide)
  | some t =>
    have ho : TrOK t.nrm := hn.ok
    have hl := lead_ok (kh key) t.nrm ho
    have hl1 := okK_iff.1 hl.1
    by_cases e : (leadL (kh key) t.nrm).1 = key
    · refine ⟨_, _, _, _, _, (leadL (kh key) t.nrm).2, 0, h3, h1, ?_, ?_, fun _ => rfl, steps_ok _ _ _ ho hn.ri, hl.2, hl1.2, trR_size _ ho, hc⟩
      · rw [h2]
        have : getV (nrmO (some t)) key = some (leadL (kh key) t.nrm).2 := by
          show (if (leadL (kh key) t.nrm).1 = key then some (leadL (kh key) t.nrm).2 else none) = _
          rw [if_pos e]
        rw [this]
      · simp only [pkFound, nrmO, Option.map]; simp [e]
    · refine ⟨_, _, _, _, _, ⟨#[]⟩, 5, h3, h1, ?_, ?_, ?_, steps_ok _ _ _ ho hn.ri, hl.2, hl1.2, trR_size _ ho, hc⟩
      · rw [h2]
        have : getV (nrmO (some t)) key = none := by
          show (if (leadL (kh key) t.nrm).1 = key then some (leadL (kh key) t.nrm).2 else none) = _
          rw [if_neg e]
        rw [this]
      · simp only [pkFound, nrmO, Option.map]; simp [e]
      · intro hf; simp only [pkFound, nrmO, Option.map] at hf; simp [e] at hf
end Go.Proofs.YtnajpeaieeaflaaDoor.Sha
