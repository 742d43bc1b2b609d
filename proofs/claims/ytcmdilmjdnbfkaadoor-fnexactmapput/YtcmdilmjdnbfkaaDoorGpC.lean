/- The specification's l07Near, l07Differ, l07New. The specification's l07Size. The specification's l07Insert. The specification's l07Insert, whole. The specification's l07Put. spec.MapPut. -/
import Derived.Test.YtcmdilmjdnbfkaaDoorBrW
import Derived.Test.YtcmdilmjdnbfkaaDoorGpB
import Derived.Test.YtcmdilmjdnbfkaaDoorSet4
import Derived.Deep.RegionHeld3
import Derived.Test.YtcmdilmjdnbfkaaDoorGpA
import Derived.Deep.DeepCutAuto
import Derived.Deep.RegionLaw
namespace Go.Proofs.YtcmdilmjdnbfkaaDoor.Sha
open Go.ChangeShapes Go.WideShapes Go.ChangeAt Go.RowKit
set_option linter.unusedVariables false
set_option linter.unusedSimpArgs false

set_option maxRecDepth 100000 in
set_option maxHeartbeats 4000000 in
theorem l07Near_any (h : ByteArray) (hh : h.size = 32) (t : Tr) (hok : TrOK t) (hri : Rise 0 t) (S : Nat → Prop) (kv : Value) (w : World) (hB : Brs S w kv t.toBr.kids) :
    Calls Tryd.prog 84 #[.agg #[.string t.toBr.key, .string t.toBr.val, .int .i64 t.toBr.at_, kv], .string h] w fun e w' => e = .returned (.string (kh (leadL h t).1)) ∧ Below w.heap.size w w' := by
  obtain ⟨sa, cap, rfl, hcap, hcm⟩ := hB.shape
  have B1 := hide ((Below.refl w.heap.size w).alloc (Nat.le_refl _) (.cells #[.string t.toBr.key, .string t.toBr.val, .int .i64 t.toBr.at_, .slice sa t.toBr.kids.length cap] 37))
  have X1 := hide (Blk.new w #[.string t.toBr.key, .string t.toBr.val, .int .i64 t.toBr.at_, .slice sa t.toBr.kids.length cap] 37 w.heap.size rfl)
  have HKB := hide hB.bound
  have HGR : Hid (∀ x w', Below w.heap.size w w' → x = kh (leadL h t).1 → Ending.returned (.string x) = .returned (.string (kh (leadL h t).1)) ∧ Below w.heap.size w w') := hide (fun x w' hb he => ⟨by rw [he], hb⟩)
  have HOK := hide hok
  have HRI := hide hri
  clear hB hok hri
  go_enter Tryd.func84, Tryd.ntmps84
  go_wp2_with fail
  generalize w.alloc (.cells #[.string t.toBr.key, .string t.toBr.val, .int .i64 t.toBr.at_, .slice sa t.toBr.kids.length cap] 37) = w1 at *
  go_loopw [] (fun wr => ∃ (m : Nat) (t' : Tr) (ka : Option Addr) (kc : Nat), Blk wr w.heap.size [.string t'.toBr.key, .string t'.toBr.val, .int .i64 t'.toBr.at_, .slice ka t'.toBr.kids.length kc] ∧ Brs (fun x => x < w.heap.size) w (.slice ka t'.toBr.kids.length kc) t'.toBr.kids ∧ Rise m t' ∧ TrOK t' ∧ leadL h t' = leadL h t ∧ Below w.heap.size w wr) (fun wr => 256 - atCell2 w.heap.size wr)
  case atStart => exact ⟨0, t, sa, cap, unhide X1, unhide HKB, unhide HRI, unhide HOK, rfl, unhide B1⟩
  case round =>
    clear HKB HRI HOK B1 X1
    obtain ⟨m, t', ka, kc, hX, hKB, hRI, hOK, hL, hbw⟩ := hrel
    obtain ⟨_, _, _, _, hkm⟩ := hKB.shape
    have HLF := hide (fun wx => l07Leaf_any t'.toBr.key t'.toBr.val t'.toBr.at_ ka t'.toBr.kids.length kc wx (by unfold maxLen at hkm ⊢; have := hKB.shape; omega))
    have HX := hide hX
    have x0 := hX.cell 0 rfl
    have x1 := hX.cell 1 rfl
    have x2 := hX.cell 2 rfl
    have x3 := hX.cell 3 rfl
    have HBW := hide hbw
    have HL := hide hL
    have HA := hide (atCell2_is (X := w.heap.size) (w := wr) (a := t'.at_) (by rw [x2, toBr_at]))
    clear hX hbw hL
    cases t' with
    | leaf k v =>
      rw [show decide ((Tr.leaf k v).toBr.kids.length = 0) = true from rfl] at HLF
      dsimp only [Tr.toBr, Br.key, Br.val, Br.at_, Br.kids, List.length_nil] at HLF x0 x1 x2 x3 HX hKB
      have HLL : Hid (kh k = kh (leadL h t).1) := hide (by rw [← unhide HL]; rfl)
      have hk24 := (okK_iff.1 hOK.1).2
      have HHS := hide (fun wx => l07Hash_any k wx (by omega))
      go_wp2_with fail
      refine (unhide HLF wr).mono ?_
      rintro e w4 ⟨rfl, hb4⟩
      have B4 := hide ((unhide HBW).trans (hb4.mono (unhide HBW).size))
      have X4 := hide ((unhide HX).below hb4)
      clear hb4 x0 x1 x2 x3 HX HBW
      have x0 := (unhide X4).cell 0 rfl
      go_wp2_with fail
      refine (unhide HHS w4).mono ?_
      rintro e w5 ⟨rfl, hb5⟩
      have B5 := hide ((unhide B4).trans (hb5.mono (unhide B4).size))
      clear hb5
      generalize kh k = q at *
      go_wp2_with fail
      go_ret
      exact unhide HGR _ _ (unhide B5) (unhide HLL)
    | fork a hv l r =>
      rw [show decide ((Tr.fork a hv l r).toBr.kids.length = 0) = false from rfl] at HLF
      dsimp only [Tr.toBr, Br.key, Br.val, Br.at_, Br.kids] at HLF x0 x1 x2 x3 HX hKB
      rw [show ([l.toBr, r.toBr] : List Br).length = 2 from rfl] at HLF x3 HX hKB
      obtain ⟨r0, r1, r2, r3⟩ := hRI
      obtain ⟨_, _, okl, okr⟩ := hOK
      obtain ⟨bb, off, kvf, rfl, _, hat⟩ := hKB.at (by simp)
      have hbb := hat.lt
      obtain ⟨s00, s01, s02, s03⟩ := hat.cells 0 (by simp)
      obtain ⟨s10, s11, s12, s13⟩ := hat.cells 1 (by simp)
      have K0 := hide (hat.kids 0 (by simp))
      have K1 := hide (hat.kids 1 (by simp))
      simp only [List.getD_cons_zero, List.getD_cons_succ, Nat.zero_mul, Nat.add_zero, Nat.one_mul] at s00 s01 s02 s03 s10 s11 s12 s13 K0 K1
      obtain ⟨ka0, kc0, hkv0, _, _⟩ := (unhide K0).shape
      obtain ⟨ka1, kc1, hkv1, _, _⟩ := (unhide K1).shape
      rw [hkv0] at K0 s03
      rw [hkv1] at K1 s13
      have HLE : Hid (leadL h (.fork a hv l r) = if bitN h a = 0 then leadL h l else leadL h r) := rfl
      have HBT := hide (fun wx => l07Bit_any h a wx hh r1)
      have hA : Hid (atCell2 w.heap.size wr = a) := HA
      clear hKB hat hkv0 hkv1 HA
      go_wp2_with fail
      refine (unhide HLF wr).mono ?_
      rintro e w4 ⟨rfl, hb4⟩
      have B4 := hide ((unhide HBW).trans (hb4.mono (unhide HBW).size))
      have X4 := hide ((unhide HX).below hb4)
      clear hb4 x0 x1 x2 x3 HX HBW
      have x0 := (unhide X4).cell 0 rfl
      have x1 := (unhide X4).cell 1 rfl
      have x2 := (unhide X4).cell 2 rfl
      have x3 := (unhide X4).cell 3 rfl
      have f0 := (unhide X4).fro 0
      have f1 := (unhide X4).fro 1
      have f2 := (unhide X4).fro 2
      have f3 := (unhide X4).fro 3
      have B4d := unhide B4
      have t00 := (B4d.cell (p := ⟨bb, off, none⟩) hbb).trans s00
      have t01 := (B4d.cell (p := ⟨bb, off + 1, none⟩) hbb).trans s01
      have t02 := (B4d.cell (p := ⟨bb, off + 2, none⟩) hbb).trans s02
      have t03 := (B4d.cell (p := ⟨bb, off + 3, none⟩) hbb).trans s03
      have t10 := (B4d.cell (p := ⟨bb, off + 4, none⟩) hbb).trans s10
      have t11 := (B4d.cell (p := ⟨bb, off + 4 + 1, none⟩) hbb).trans s11
      have t12 := (B4d.cell (p := ⟨bb, off + 4 + 2, none⟩) hbb).trans s12
      have t13 := (B4d.cell (p := ⟨bb, off + 4 + 3, none⟩) hbb).trans s13
      clear s00 s01 s02 s03 s10 s11 s12 s13 B4d
      rcases bitN_01 h a with hb | hb
      · rw [hb] at HBT HLE
        rw [if_pos rfl] at HLE
        have XN : Hid (Blk ((((w4.setCell ⟨w.heap.size, 0, none⟩ (.string l.toBr.key)).setCell ⟨w.heap.size, 1, none⟩ (.string l.toBr.val)).setCell ⟨w.heap.size, 2, none⟩ (.int .i64 l.toBr.at_)).setCell ⟨w.heap.size, 3, none⟩ (.slice ka0 l.toBr.kids.length kc0)).drew w.heap.size [.string l.toBr.key, .string l.toBr.val, .int .i64 l.toBr.at_, .slice ka0 l.toBr.kids.length kc0]) := hide ((((((unhide X4).set 0 (.string l.toBr.key) (by simp)).set 1 (.string l.toBr.val) (by simp)).set 2 (.int .i64 l.toBr.at_) (by simp)).set 3 (.slice ka0 l.toBr.kids.length kc0) (by simp)).drewN 1)
        have BN : Hid (Below w.heap.size w ((((w4.setCell ⟨w.heap.size, 0, none⟩ (.string l.toBr.key)).setCell ⟨w.heap.size, 1, none⟩ (.string l.toBr.val)).setCell ⟨w.heap.size, 2, none⟩ (.int .i64 l.toBr.at_)).setCell ⟨w.heap.size, 3, none⟩ (.slice ka0 l.toBr.kids.length kc0)).drew) := hide (((((unhide B4).setCell (p := ⟨w.heap.size, 0, none⟩) (Nat.le_refl _) (.string l.toBr.key)).setCell (p := ⟨w.heap.size, 1, none⟩) (Nat.le_refl _) (.string l.toBr.val)).setCell (p := ⟨w.heap.size, 2, none⟩) (Nat.le_refl _) (.int .i64 l.toBr.at_)).setCell (p := ⟨w.heap.size, 3, none⟩) (Nat.le_refl _) (.slice ka0 l.toBr.kids.length kc0)).drew
        go_wp2_with fail
        go_region_law ((go_simp; go_at_call 79; refine (unhide HBT _).mono ?_; rintro e w9 ⟨rfl, hw9⟩; subst w9; go_simp))
        all_goals
          generalize ((((w4.setCell ⟨w.heap.size, 0, none⟩ (.string l.toBr.key)).setCell ⟨w.heap.size, 1, none⟩ (.string l.toBr.val)).setCell ⟨w.heap.size, 2, none⟩ (.int .i64 l.toBr.at_)).setCell ⟨w.heap.size, 3, none⟩ (.slice ka0 l.toBr.kids.length kc0)).drew = w5 at *
          clear x0 x1 x2 x3 f0 f1 f2 f3 t00 t01 t02 t03 t10 t11 t12 t13
          go_wp2_with fail
          have hat := atCell2_is (X := w.heap.size) (w := w5) (a := l.at_) (by rw [(unhide XN).cell 2 rfl, toBr_at])
          have hle := r2.le
          have hle2 := r2.le256
          refine ⟨⟨a + 1, l, ka0, kc0, unhide XN, unhide K0, r2, okl, by rw [← unhide HL, unhide HLE], unhide BN⟩, ?_⟩
          rw [hat, unhide hA]
          omega
      · rw [hb] at HBT HLE
        rw [if_neg (by omega)] at HLE
        have XN : Hid (Blk ((((w4.setCell ⟨w.heap.size, 0, none⟩ (.string r.toBr.key)).setCell ⟨w.heap.size, 1, none⟩ (.string r.toBr.val)).setCell ⟨w.heap.size, 2, none⟩ (.int .i64 r.toBr.at_)).setCell ⟨w.heap.size, 3, none⟩ (.slice ka1 r.toBr.kids.length kc1)).drew w.heap.size [.string r.toBr.key, .string r.toBr.val, .int .i64 r.toBr.at_, .slice ka1 r.toBr.kids.length kc1]) := hide ((((((unhide X4).set 0 (.string r.toBr.key) (by simp)).set 1 (.string r.toBr.val) (by simp)).set 2 (.int .i64 r.toBr.at_) (by simp)).set 3 (.slice ka1 r.toBr.kids.length kc1) (by simp)).drewN 1)
        have BN : Hid (Below w.heap.size w ((((w4.setCell ⟨w.heap.size, 0, none⟩ (.string r.toBr.key)).setCell ⟨w.heap.size, 1, none⟩ (.string r.toBr.val)).setCell ⟨w.heap.size, 2, none⟩ (.int .i64 r.toBr.at_)).setCell ⟨w.heap.size, 3, none⟩ (.slice ka1 r.toBr.kids.length kc1)).drew) := hide (((((unhide B4).setCell (p := ⟨w.heap.size, 0, none⟩) (Nat.le_refl _) (.string r.toBr.key)).setCell (p := ⟨w.heap.size, 1, none⟩) (Nat.le_refl _) (.string r.toBr.val)).setCell (p := ⟨w.heap.size, 2, none⟩) (Nat.le_refl _) (.int .i64 r.toBr.at_)).setCell (p := ⟨w.heap.size, 3, none⟩) (Nat.le_refl _) (.slice ka1 r.toBr.kids.length kc1)).drew
        go_wp2_with fail
        go_region_law ((go_simp; go_at_call 79; refine (unhide HBT _).mono ?_; rintro e w9 ⟨rfl, hw9⟩; subst w9; go_simp))
        all_goals
          generalize ((((w4.setCell ⟨w.heap.size, 0, none⟩ (.string r.toBr.key)).setCell ⟨w.heap.size, 1, none⟩ (.string r.toBr.val)).setCell ⟨w.heap.size, 2, none⟩ (.int .i64 r.toBr.at_)).setCell ⟨w.heap.size, 3, none⟩ (.slice ka1 r.toBr.kids.length kc1)).drew = w5 at *
          clear x0 x1 x2 x3 f0 f1 f2 f3 t00 t01 t02 t03 t10 t11 t12 t13
          go_wp2_with fail
          have hat := atCell2_is (X := w.heap.size) (w := w5) (a := r.at_) (by rw [(unhide XN).cell 2 rfl, toBr_at])
          have hle := r3.le
          have hle2 := r3.le256
          refine ⟨⟨a + 1, r, ka1, kc1, unhide XN, unhide K1, r3, okr, by rw [← unhide HL, unhide HLE], unhide BN⟩, ?_⟩
          rw [hat, unhide hA]
          omega
set_option maxRecDepth 100000 in
set_option maxHeartbeats 1000000 in
theorem l07Differ_any (x y : ByteArray) (w : World) (hx : x.size = 32) (hy : y.size = 32) :
    Calls Tryd.prog 83 #[.string x, .string y] w fun e w' => e = .returned (.int .i64 (fd x y)) ∧ w' = w := by
  have HF : Hid (fd x y = fdF x y 256 0) := rfl
  have HX := hide (fun i (hi : i < 256) => l07Bit_any x i w hx hi)
  have HY := hide (fun i (hi : i < 256) => l07Bit_any y i w hy hi)
  go_enter Tryd.func83, Tryd.ntmps83
  go_wp2_with fail
  go_loop [5] (fun i => ∃ k : Nat, k ≤ 256 ∧ i = .int .i64 k ∧ fdF x y (256 - k) k = fd x y) (fun i => 256 - (intOf i).toNat)
  case atStart => exact ⟨0, Nat.zero_le _, rfl, rfl⟩
  case round =>
    obtain ⟨k, hk, rfl, hfd⟩ := hrel
    by_cases hlt : k < 256
    · have p1 : (k : Int) < 256 := by omega
      have HXk := hide (unhide HX k hlt)
      have HYk := hide (unhide HY k hlt)
      have HD : Hid (fd x y = if bitN x k = bitN y k then fdF x y (256 - (k + 1)) (k + 1) else k) := hide (by
        rw [← hfd, show 256 - k = (256 - (k + 1)) + 1 by omega]
        rfl)
      clear hfd
      have hx1 := bitN_01 x k
      have hy1 := bitN_01 y k
      by_cases he : bitN x k = bitN y k
      · rw [if_pos he] at HD
        rw [he] at HXk
        generalize bitN y k = q at *
        clear he
        go_wp2_with fail
        refine (unhide HXk).mono ?_
        rintro e w9 ⟨rfl, hw9⟩
        subst w9
        go_wp2_with fail
        refine (unhide HYk).mono ?_
        rintro e w9 ⟨rfl, hw9⟩
        subst w9
        go_wp2_with fail
        go_round
        case rel => exact ⟨k + 1, by omega, by go_num, (unhide HD).symm⟩
        case measure => simp [intOf]; omega
      · rw [if_neg he] at HD
        generalize bitN x k = q1 at *
        generalize bitN y k = q2 at *
        have hne : (q1 != q2) = true := by simpa using he
        go_wp2_with fail
        refine (unhide HXk).mono ?_
        rintro e w9 ⟨rfl, hw9⟩
        subst w9
        go_wp2_with fail
        refine (unhide HYk).mono ?_
        rintro e w9 ⟨rfl, hw9⟩
        subst w9
        go_wp2_with fail
        go_ret
        exact ⟨by rw [unhide HD]; rfl, rfl⟩
    · obtain rfl : k = 256 := by omega
      have HD : Hid (fd x y = 256) := hide hfd.symm
      clear hfd
      go_wp2_with fail
      go_ret
      exact ⟨by rw [unhide HD]; rfl, rfl⟩
set_option maxRecDepth 100000 in
set_option maxHeartbeats 1000000 in
theorem l07New_any (k v : ByteArray) (w : World) :
    Calls Tryd.prog 82 #[.string k, .string v] w fun e w' => e = .returned (.agg #[.string k, .string v, .int .i64 256, .slice none 0 0]) ∧ Below w.heap.size w w' := by
  have R1 := hide (Blk.new w #[.string ⟨#[]⟩, .string ⟨#[]⟩, .int .i64 0, .slice none 0 0] 37 w.heap.size rfl)
  have B1 := hide ((Below.refl w.heap.size w).alloc (Nat.le_refl _) (.cells #[.string ⟨#[]⟩, .string ⟨#[]⟩, .int .i64 0, .slice none 0 0] 37))
  go_enter Tryd.func82, Tryd.ntmps82
  go_upto_region 1 with fail
  generalize w.alloc (.cells #[.string ⟨#[]⟩, .string ⟨#[]⟩, .int .i64 0, .slice none 0 0] 37) = w1 at *
  have r0 := (unhide R1).cell 0 rfl
  have r1 := (unhide R1).cell 1 rfl
  have r2 := (unhide R1).cell 2 rfl
  have r3 := (unhide R1).cell 3 rfl
  have f0 := (unhide R1).fro 0
  have f1 := (unhide R1).fro 1
  have f2 := (unhide R1).fro 2
  have f3 := (unhide R1).fro 3
  have hZ := set4_blk (unhide R1) (.string k) (.string v) (.int .i64 256) (.slice none 0 0)
  have z0 := hZ.cell 0 rfl
  have z1 := hZ.cell 1 rfl
  have z2 := hZ.cell 2 rfl
  have z3 := hZ.cell 3 rfl
  have HT4 := set4_touch w1 w.heap.size (.string k) (.string v) (.int .i64 256) (.slice none 0 0)
  have HBF := hide ((unhide B1).trans (HT4.below (unhide B1).size (fun q hq e => by omega)))
  unfold set4 at z0 z1 z2 z3
  clear hZ HT4
  go_wp2_with fail
  refine bodyPost_ret (v := .agg #[.string k, .string v, .int .i64 256, .slice none 0 0]) (by simp [results, Tryd.results82, go_sem, z0, z1, z2, z3]) rfl ?_
  exact ⟨rfl, unhide HBF⟩
end Go.Proofs.YtcmdilmjdnbfkaaDoor.Sha
namespace Go.Proofs.YtcmdilmjdnbfkaaDoor.Sha
open Go.ChangeShapes Go.WideShapes Go.ChangeAt Go.RowKit
set_option linter.unusedVariables false
set_option linter.unusedSimpArgs false

theorem wrapS (n : Int) (h0 : 0 ≤ n) (h1 : n < 9223372036854775808) : IntKind.i64.wrap n = n := by
  simp only [IntKind.wrap, IntKind.bits, IntKind.signed]
  simp
  omega
set_option maxRecDepth 100000 in
set_option maxHeartbeats 4000000 in
theorem l07Size_any : ∀ (t : Tr), TrOK t → t.lvN ≤ 1000 → ∀ (S : Nat → Prop) (kv : Value) (w : World), Brs S w kv t.toBr.kids →
    Calls Tryd.prog 60 #[.agg #[.string t.toBr.key, .string t.toBr.val, .int .i64 t.toBr.at_, kv]] w fun e w' => e = .returned (.int .i64 t.lvN) ∧ Below w.heap.size w w' := by
  intro t
  induction t with
  | leaf k v =>
    intro hok hsz S kv w hB
    obtain ⟨sa, cap, rfl, _, hcm⟩ := hB.shape
    have HNE := not_empty hok
    have hk := (okK_iff.1 hok.1).2
    have hv : v.size ≤ 60 := hok.2
    dsimp only [Tr.toBr, Br.key, Br.val, Br.at_, Br.kids] at HNE ⊢
    have B0 := hide ((Below.refl w.heap.size w).alloc (Nat.le_refl _) (.cells #[.string k, .string v, .int .i64 256, .slice sa 0 cap] 37))
    have X0 := hide (Blk.new w #[.string k, .string v, .int .i64 256, .slice sa 0 cap] 37 w.heap.size rfl)
    have HE := hide (fun wx => l07Empty_any k v 256 [] sa cap wx (by simp))
    have HLF := hide (fun wx => l07Leaf_any k v 256 sa 0 cap wx (by omega))
    rw [HNE] at HE
    simp only [List.length_nil] at HE
    rw [show decide (0 = 0) = true from rfl] at HLF
    have HV : Hid ((Tr.leaf k v).lvN = 1) := rfl
    clear hB hok HNE
    go_enter Tryd.func60, Tryd.ntmps60
    go_wp2_with fail
    generalize w.alloc (.cells #[.string k, .string v, .int .i64 256, .slice sa 0 cap] 37) = w1 at *
    refine (unhide HE w1).mono ?_
    rintro e w2 ⟨rfl, hb2⟩
    have B2 := hide ((unhide B0).trans (hb2.mono (unhide B0).size))
    have X2 := hide ((unhide X0).below hb2)
    clear hb2
    have x0 := (unhide X2).cell 0 rfl
    have x1 := (unhide X2).cell 1 rfl
    have x2 := (unhide X2).cell 2 rfl
    have x3 := (unhide X2).cell 3 rfl
    go_wp2_with fail
    refine (unhide HLF w2).mono ?_
    rintro e w3 ⟨rfl, hb3⟩
    have B3 := hide ((unhide B2).trans (hb3.mono (unhide B2).size))
    have X3 := hide ((unhide X2).below hb3)
    clear hb3 x0 x1 x2 x3
    have x0 := (unhide X3).cell 0 rfl
    have x1 := (unhide X3).cell 1 rfl
    go_wp2_with fail
    go_ret
    exact ⟨ret_int (by rw [unhide HV]; rfl), unhide B3⟩
  | fork a hh l r ihl ihr =>
    intro hok hsz S kv w hB
    obtain ⟨sa, cap, rfl, _, hcm⟩ := hB.shape
    have HNE := not_empty hok
    obtain ⟨ha, _, okl, okr⟩ := hok
    dsimp only [Tr.toBr, Br.key, Br.val, Br.at_, Br.kids] at HNE hB ⊢
    have B0 := hide ((Below.refl w.heap.size w).alloc (Nat.le_refl _) (.cells #[.string ⟨#[]⟩, .string ⟨#[]⟩, .int .i64 a, .slice sa 2 cap] 37))
    have X0 := hide (Blk.new w #[.string ⟨#[]⟩, .string ⟨#[]⟩, .int .i64 a, .slice sa 2 cap] 37 w.heap.size rfl)
    have HE := hide (fun wx => l07Empty_any ⟨#[]⟩ ⟨#[]⟩ a [l.toBr, r.toBr] sa cap wx (by unfold maxLen; simp))
    have HLF := hide (fun wx => l07Leaf_any ⟨#[]⟩ ⟨#[]⟩ a sa 2 cap wx (by unfold maxLen; omega))
    rw [HNE] at HE
    rw [show decide (2 = 0) = false from rfl] at HLF
    obtain ⟨bb, off, kvf, rfl, _, hat⟩ := hB.at (by simp)
    have hbb := hat.lt
    obtain ⟨s00, s01, s02, s03⟩ := hat.cells 0 (by simp)
    obtain ⟨s10, s11, s12, s13⟩ := hat.cells 1 (by simp)
    have K0 := hide (hat.kids 0 (by simp))
    have K1 := hide (hat.kids 1 (by simp))
    simp only [List.getD_cons_zero, List.getD_cons_succ, Nat.zero_mul, Nat.add_zero, Nat.one_mul] at s00 s01 s02 s03 s10 s11 s12 s13 K0 K1
    obtain ⟨ka0, kc0, hkv0, _, _⟩ := (unhide K0).shape
    obtain ⟨ka1, kc1, hkv1, _, _⟩ := (unhide K1).shape
    rw [hkv0] at K0 s03
    rw [hkv1] at K1 s13
    have hz2 : l.lvN + r.lvN ≤ 1000 := hsz
    have hz0 : l.lvN ≤ 1000 := by omega
    have hz1 : r.lvN ≤ 1000 := by omega
    have HL := hide (fun wx (hx : Below w.heap.size w wx) => ihl okl hz0 S _ wx ((unhide K0).blw hx))
    have HR := hide (fun wx (hx : Below w.heap.size w wx) => ihr okr hz1 S _ wx ((unhide K1).blw hx))
    have HV : Hid ((Tr.fork a hh l r).lvN = l.lvN + r.lvN) := rfl
    clear hB hat hkv0 hkv1 K0 K1 ihl ihr HNE
    generalize l.toBr = b0 at *
    generalize r.toBr = b1 at *
    generalize l.lvN = rl at *
    generalize r.lvN = rr at *
    simp only [List.length_cons, List.length_nil] at HE
    go_enter Tryd.func60, Tryd.ntmps60
    go_wp2_with fail
    generalize w.alloc (.cells #[.string ⟨#[]⟩, .string ⟨#[]⟩, .int .i64 a, .slice (some ⟨bb, off, none⟩) 2 cap] 37) = w1 at *
    refine (unhide HE w1).mono ?_
    rintro e w2 ⟨rfl, hb2⟩
    have B2 := hide ((unhide B0).trans (hb2.mono (unhide B0).size))
    have X2 := hide ((unhide X0).below hb2)
    clear hb2
    have x0 := (unhide X2).cell 0 rfl
    have x1 := (unhide X2).cell 1 rfl
    have x2 := (unhide X2).cell 2 rfl
    have x3 := (unhide X2).cell 3 rfl
    go_wp2_with fail
    refine (unhide HLF w2).mono ?_
    rintro e w3 ⟨rfl, hb3⟩
    have B3 := hide ((unhide B2).trans (hb3.mono (unhide B2).size))
    have X3 := hide ((unhide X2).below hb3)
    clear hb3 x0 x1 x2 x3
    have hX := (unhide X3).1
    have hw3 := (unhide B3).size
    have HSX : Hid (∀ wx, Below w3.heap.size w3 wx → wx.cell? ⟨w.heap.size, 3, none⟩ = some (.slice (some ⟨bb, off, none⟩) 2 cap) ∧ wx.cell? ⟨bb, off, none⟩ = some (.string b0.key) ∧ wx.cell? ⟨bb, off + 1, none⟩ = some (.string b0.val) ∧ wx.cell? ⟨bb, off + 2, none⟩ = some (.int .i64 b0.at_) ∧ wx.cell? ⟨bb, off + 3, none⟩ = some (.slice ka0 b0.kids.length kc0) ∧ wx.cell? ⟨bb, off + 4, none⟩ = some (.string b1.key) ∧ wx.cell? ⟨bb, off + 4 + 1, none⟩ = some (.string b1.val) ∧ wx.cell? ⟨bb, off + 4 + 2, none⟩ = some (.int .i64 b1.at_) ∧ wx.cell? ⟨bb, off + 4 + 3, none⟩ = some (.slice ka1 b1.kids.length kc1)) := hide (fun wx hb => by
      have hb' := (unhide B3).trans (hb.mono hw3)
      have X := (unhide X3).below hb
      exact ⟨X.cell 3 rfl, (hb'.cell (p := ⟨bb, off, none⟩) hbb).trans s00, (hb'.cell (p := ⟨bb, off + 1, none⟩) hbb).trans s01, (hb'.cell (p := ⟨bb, off + 2, none⟩) hbb).trans s02, (hb'.cell (p := ⟨bb, off + 3, none⟩) hbb).trans s03, (hb'.cell (p := ⟨bb, off + 4, none⟩) hbb).trans s10, (hb'.cell (p := ⟨bb, off + 4 + 1, none⟩) hbb).trans s11, (hb'.cell (p := ⟨bb, off + 4 + 2, none⟩) hbb).trans s12, (hb'.cell (p := ⟨bb, off + 4 + 3, none⟩) hbb).trans s13⟩)
    obtain ⟨y3, t00, t01, t02, t03, t10, t11, t12, t13⟩ := unhide HSX w3 (Below.refl _ _)
    clear s00 s01 s02 s03 s10 s11 s12 s13
    go_wp2_with fail
    go_region_held3 (fun wx => wx.cell? ⟨w.heap.size, 3, none⟩ = some (.slice (some ⟨bb, off, none⟩) 2 cap) ∧ wx.cell? ⟨bb, off, none⟩ = some (.string b0.key) ∧ wx.cell? ⟨bb, off + 1, none⟩ = some (.string b0.val) ∧ wx.cell? ⟨bb, off + 2, none⟩ = some (.int .i64 b0.at_) ∧ wx.cell? ⟨bb, off + 3, none⟩ = some (.slice ka0 b0.kids.length kc0) ∧ wx.cell? ⟨bb, off + 4, none⟩ = some (.string b1.key) ∧ wx.cell? ⟨bb, off + 4 + 1, none⟩ = some (.string b1.val) ∧ wx.cell? ⟨bb, off + 4 + 2, none⟩ = some (.int .i64 b1.at_) ∧ wx.cell? ⟨bb, off + 4 + 3, none⟩ = some (.slice ka1 b1.kids.length kc1)) (first | go_keep | exact unhide HSX _ hc2 | exact unhide HSX _ hc1) (first
      | (go_at_call 60; refine (unhide HR _ ((unhide B3).trans (hc1.mono hw3))).mono ?_; rintro e w5 ⟨rfl, hb5⟩; have hc2 := hc1.trans (hb5.mono hc1.size))
      | (go_at_call 60; refine (unhide HL _ ((unhide B3).trans (((Below.refl _ w3).drew).mono hw3))).mono ?_; rintro e w4 ⟨rfl, hb4⟩; have hc1 : Below w3.heap.size w3 w4 := ((Below.refl _ w3).drew).trans hb4))
    have K := hide ((unhide B3).trans (hc2.mono hw3))
    clear hb4 hb5 hc1 hc2 y3 t00 t01 t02 t03 t10 t11 t12 t13
    go_wp2_with fail
    go_ret
    refine ⟨ret_int ?_, unhide K⟩
    rw [unhide HV, wrapS _ (by omega) (by omega)]
    omega
end Go.Proofs.YtcmdilmjdnbfkaaDoor.Sha
namespace Go.Proofs.YtcmdilmjdnbfkaaDoor.Sha
open Go.ChangeShapes Go.WideShapes Go.ChangeAt Go.RowKit
set_option linter.unusedVariables false
set_option linter.unusedSimpArgs false

theorem own_lit4 {w : World} {B X : Nat} {cs : Array Value} (h : w.heap[X]? = some (.cells cs 37 (0, 0))) (hB : B ≤ X) (hn : cs.size = 8) : w.ownsRow B 37 4 (.slice (some ⟨X, 0, none⟩) 2 2) 2 cs.toList :=
  ⟨by simp [hn], .inr ⟨X, 2, cs, rfl, hB, h, Nat.le_refl _, by unfold maxLen; omega, by simp [hn], by rw [show 2 * 4 = cs.size from hn.symm, ← Array.length_toList, List.take_length]⟩⟩
set_option maxRecDepth 100000 in
set_option maxHeartbeats 4000000 in
theorem l07Insert_build (k v h : ByteArray) (hh : h.size = 32) (at_ : Nat) (ha : at_ < 256) (hkv : TrOK (.leaf k v)) (t : Tr) (hok : TrOK t) (hc : t.toBr.kids.length = 0 ∨ (at_ : Int) < t.toBr.at_) (B0 : Nat) (kv : Value) (w : World) (hB0 : B0 ≤ w.heap.size) (hB : Brs (fun x => x < B0) w kv t.toBr.kids) :
    Calls Tryd.prog 85 #[.agg #[.string t.toBr.key, .string t.toBr.val, .int .i64 t.toBr.at_, kv], .string h, .int .i64 at_, .agg #[.string k, .string v, .int .i64 256, .slice none 0 0]] w fun e w' => DrR B0 (forkT at_ h k v t).toBr w e w' := by
  obtain ⟨sa, cap, rfl, hcap, hcm⟩ := hB.shape
  have HZT := hide (toBr_small hok)
  have HZK := hide (toBr_small hkv)
  have HLF := hide (fun wx => l07Leaf_any t.toBr.key t.toBr.val t.toBr.at_ sa t.toBr.kids.length cap wx (by unfold maxLen at hcm ⊢; omega))
  have HBT := hide (fun wx => l07Bit_any h at_ wx hh ha)
  have HKB := hide hB
  have B1 := hide ((((Below.refl w.heap.size w).alloc (Nat.le_refl _) (.cells #[.string t.toBr.key, .string t.toBr.val, .int .i64 t.toBr.at_, .slice sa t.toBr.kids.length cap] 37)).alloc (by simp) (.cells #[.string k, .string v, .int .i64 256, .slice none 0 0] 37)).alloc (by simp; omega) (.cells #[.string ⟨#[]⟩, .string ⟨#[]⟩, .int .i64 0, .slice none 0 0] 37))
  have X1 := hide (((Blk.new w #[.string t.toBr.key, .string t.toBr.val, .int .i64 t.toBr.at_, .slice sa t.toBr.kids.length cap] 37 w.heap.size rfl).alloc (.cells #[.string k, .string v, .int .i64 256, .slice none 0 0] 37)).alloc (.cells #[.string ⟨#[]⟩, .string ⟨#[]⟩, .int .i64 0, .slice none 0 0] 37))
  have L1 := hide ((Blk.new (w.alloc (.cells #[.string t.toBr.key, .string t.toBr.val, .int .i64 t.toBr.at_, .slice sa t.toBr.kids.length cap] 37)) #[.string k, .string v, .int .i64 256, .slice none 0 0] 37 (w.heap.size + 1) (by simp)).alloc (.cells #[.string ⟨#[]⟩, .string ⟨#[]⟩, .int .i64 0, .slice none 0 0] 37))
  have R1 := hide (Blk.new ((w.alloc (.cells #[.string t.toBr.key, .string t.toBr.val, .int .i64 t.toBr.at_, .slice sa t.toBr.kids.length cap] 37)).alloc (.cells #[.string k, .string v, .int .i64 256, .slice none 0 0] 37)) #[.string ⟨#[]⟩, .string ⟨#[]⟩, .int .i64 0, .slice none 0 0] 37 (w.heap.size + 1 + 1) (by simp))
  have HRS := hide (show w.heap.size < w.heap.size + 1 + 1 by omega)
  have hne : ((at_ : Int) == 256) = false := by rw [beq_eq_false_iff_ne]; omega
  clear hB hok hkv
  go_enter Tryd.func85, Tryd.ntmps85
  go_upto_region 3 with fail
  generalize ((w.alloc (.cells #[.string t.toBr.key, .string t.toBr.val, .int .i64 t.toBr.at_, .slice sa t.toBr.kids.length cap] 37)).alloc (.cells #[.string k, .string v, .int .i64 256, .slice none 0 0] 37)).alloc (.cells #[.string ⟨#[]⟩, .string ⟨#[]⟩, .int .i64 0, .slice none 0 0] 37) = w1 at *
  generalize w.heap.size + 1 + 1 = R at *
  generalize w.heap.size + 1 = L at *
  have x0 := (unhide X1).cell 0 rfl
  have x1 := (unhide X1).cell 1 rfl
  have x2 := (unhide X1).cell 2 rfl
  have x3 := (unhide X1).cell 3 rfl
  go_cut [25] (fun s wx => s = .bool true ∧ Below w1.heap.size w1 wx)
  case first =>
    cases hlf : decide (t.toBr.kids.length = 0)
    · have hlt : (at_ : Int) < t.toBr.at_ := by
        rcases hc with h0 | h0
        · rw [decide_eq_true h0] at hlf; cases hlf
        · exact h0
      rw [hlf] at HLF
      clear hc hlf
      go_wp2_with fail
      refine (unhide HLF w1).mono ?_
      rintro e w2 ⟨rfl, hb2⟩
      have HB2 := hide hb2
      have y2 := ((unhide X1).below hb2).cell 2 rfl
      clear hb2
      go_wp2_with fail
      go_meet
      exact ⟨by first | rfl | simp [hlt], unhide HB2⟩
    · rw [hlf] at HLF
      clear hc hlf
      go_wp2_with fail
      refine (unhide HLF w1).mono ?_
      rintro e w2 ⟨rfl, hb2⟩
      have HB2 := hide hb2
      clear hb2
      go_wp2_with fail
      go_meet
      exact ⟨rfl, unhide HB2⟩
  case rest =>
    obtain ⟨rfl, hbc⟩ := hcut
    obtain ⟨w2, hw2⟩ : ∃ w2, w2 = wc := ⟨_, rfl⟩
    subst hw2
    have B2 := hide ((unhide B1).trans (hbc.mono (unhide B1).size))
    have R2 := hide ((unhide R1).below hbc)
    have X2 := (unhide X1).below hbc
    have L2 := (unhide L1).below hbc
    clear x0 x1 x2 x3 hbc B1 X1 R1 L1 hc
    have x0 := X2.cell 0 rfl
    have x1 := X2.cell 1 rfl
    have x2 := X2.cell 2 rfl
    have x3 := X2.cell 3 rfl
    have l0 := L2.cell 0 rfl
    have l1 := L2.cell 1 rfl
    have l2 := L2.cell 2 rfl
    have l3 := L2.cell 3 rfl
    clear X2 L2
    rcases bitN_01 h at_ with hb | hb
    · have HF : Hid (forkT at_ h k v t = .fork at_ h (.leaf k v) t) := hide (by unfold forkT; rw [if_pos hb])
      rw [hb] at HBT
      have HGR2 : Hid (∀ sa n cap w', Brs (fun x => x < B0 ∨ w.heap.size ≤ x) w' (.slice sa n cap) [Br.mk k v 256 [], t.toBr] → Below w.heap.size w w' → DrR B0 (forkT at_ h k v t).toBr w (.returned (.agg #[.string ⟨#[]⟩, .string ⟨#[]⟩, .int .i64 at_, .slice sa n cap])) w') := hide (fun sa n cap w' h1 hb => by rw [unhide HF]; exact ⟨sa, n, cap, rfl, h1, hb⟩)
      have BA := (Below.refl w2.heap.size w2).alloc (Nat.le_refl _) (.cells #[.string k, .string v, .int .i64 256, .slice none 0 0, .string t.toBr.key, .string t.toBr.val, .int .i64 t.toBr.at_, .slice sa t.toBr.kids.length cap] 37)
      have R3 := (unhide R2).below BA
      have B3 := hide ((unhide B2).trans (BA.mono (unhide B2).size))
      have O3 : Hid ((w2.alloc (.cells #[.string k, .string v, .int .i64 256, .slice none 0 0, .string t.toBr.key, .string t.toBr.val, .int .i64 t.toBr.at_, .slice sa t.toBr.kids.length cap] 37)).ownsRow w2.heap.size 37 4 (.slice (some ⟨w2.heap.size, 0, none⟩) 2 2) 2 #[.string k, .string v, .int .i64 256, .slice none 0 0, .string t.toBr.key, .string t.toBr.val, .int .i64 t.toBr.at_, .slice sa t.toBr.kids.length cap].toList) := hide (own_lit4 (heap_alloc_new w2 _) (Nat.le_refl _) rfl)
      have r0 := R3.cell 0 rfl
      have r1 := R3.cell 1 rfl
      have r2 := R3.cell 2 rfl
      have r3 := R3.cell 3 rfl
      have f0 := R3.fro 0
      have f1 := R3.fro 1
      have f2 := R3.fro 2
      have f3 := R3.fro 3
      have hZ := set4_blk R3 (.string ⟨#[]⟩) (.string ⟨#[]⟩) (.int .i64 at_) (.slice (some ⟨w2.heap.size, 0, none⟩) 2 2)
      have z0 := hZ.cell 0 rfl
      have z1 := hZ.cell 1 rfl
      have z2 := hZ.cell 2 rfl
      have z3 := hZ.cell 3 rfl
      have HT4 := hide (set4_touch (w2.alloc (.cells #[.string k, .string v, .int .i64 256, .slice none 0 0, .string t.toBr.key, .string t.toBr.val, .int .i64 t.toBr.at_, .slice sa t.toBr.kids.length cap] 37)) R (.string ⟨#[]⟩) (.string ⟨#[]⟩) (.int .i64 at_) (.slice (some ⟨w2.heap.size, 0, none⟩) 2 2))
      have HBF := hide ((unhide B3).trans ((unhide HT4).below (unhide B3).size (fun q hq e => by have := unhide HRS; omega)))
      have hR2 := (unhide R2).1
      have HRL := hide (And.intro (unhide B2).size hR2)
      unfold set4 at z0 z1 z2 z3
      clear hZ R3 BA hR2
      go_wp2_with fail
      refine (unhide HBT w2).mono ?_
      rintro e w9 ⟨rfl, hw9⟩
      subst w9
      go_wp2_with fail
      refine bodyPost_ret (v := .agg #[.string ⟨#[]⟩, .string ⟨#[]⟩, .int .i64 at_, .slice (some ⟨w2.heap.size, 0, none⟩) 2 2]) (by simp [results, Tryd.results85, go_sem, z0, z1, z2, z3]) rfl ?_
      have O9 := own_kept (unhide O3) (unhide HT4) (fun q hq e => by
        have e1 : w2.heap.size = q := by simpa [Value.ownBlock] using hq
        have e2 : q = R := e
        have := (unhide HRL).2
        omega)
      have KT := ((unhide HKB).mono (T := fun x => x < B0 ∨ w.heap.size ≤ x) (fun x hx => .inl hx)).blw (unhide HBF)
      have KN := Brs.nil (w := set4 (w2.alloc (.cells #[.string k, .string v, .int .i64 256, .slice none 0 0, .string t.toBr.key, .string t.toBr.val, .int .i64 t.toBr.at_, .slice sa t.toBr.kids.length cap] 37)) R (.string ⟨#[]⟩) (.string ⟨#[]⟩) (.int .i64 at_) (.slice (some ⟨w2.heap.size, 0, none⟩) 2 2)) (S := fun x => x < B0 ∨ w.heap.size ≤ x) none 0 (by unfold maxLen; omega)
      exact unhide HGR2 (some ⟨w2.heap.size, 0, none⟩) 2 2 _ (brs_two (b0 := Br.mk k v 256 []) (b1 := t.toBr) (v0 := .slice none 0 0) (v1 := .slice sa t.toBr.kids.length cap) O9 (unhide HZK) (unhide HZT) KN KT (.inr (unhide HRL).1)) (unhide HBF)
    · have HF : Hid (forkT at_ h k v t = .fork at_ h t (.leaf k v)) := hide (by unfold forkT; rw [if_neg (by omega)])
      rw [hb] at HBT
      have HGR2 : Hid (∀ sa n cap w', Brs (fun x => x < B0 ∨ w.heap.size ≤ x) w' (.slice sa n cap) [t.toBr, Br.mk k v 256 []] → Below w.heap.size w w' → DrR B0 (forkT at_ h k v t).toBr w (.returned (.agg #[.string ⟨#[]⟩, .string ⟨#[]⟩, .int .i64 at_, .slice sa n cap])) w') := hide (fun sa n cap w' h1 hb => by rw [unhide HF]; exact ⟨sa, n, cap, rfl, h1, hb⟩)
      have BA := (Below.refl w2.heap.size w2).alloc (Nat.le_refl _) (.cells #[.string t.toBr.key, .string t.toBr.val, .int .i64 t.toBr.at_, .slice sa t.toBr.kids.length cap, .string k, .string v, .int .i64 256, .slice none 0 0] 37)
      have R3 := (unhide R2).below BA
      have B3 := hide ((unhide B2).trans (BA.mono (unhide B2).size))
      have O3 : Hid ((w2.alloc (.cells #[.string t.toBr.key, .string t.toBr.val, .int .i64 t.toBr.at_, .slice sa t.toBr.kids.length cap, .string k, .string v, .int .i64 256, .slice none 0 0] 37)).ownsRow w2.heap.size 37 4 (.slice (some ⟨w2.heap.size, 0, none⟩) 2 2) 2 #[.string t.toBr.key, .string t.toBr.val, .int .i64 t.toBr.at_, .slice sa t.toBr.kids.length cap, .string k, .string v, .int .i64 256, .slice none 0 0].toList) := hide (own_lit4 (heap_alloc_new w2 _) (Nat.le_refl _) rfl)
      have r0 := R3.cell 0 rfl
      have r1 := R3.cell 1 rfl
      have r2 := R3.cell 2 rfl
      have r3 := R3.cell 3 rfl
      have f0 := R3.fro 0
      have f1 := R3.fro 1
      have f2 := R3.fro 2
      have f3 := R3.fro 3
      have hZ := set4_blk R3 (.string ⟨#[]⟩) (.string ⟨#[]⟩) (.int .i64 at_) (.slice (some ⟨w2.heap.size, 0, none⟩) 2 2)
      have z0 := hZ.cell 0 rfl
      have z1 := hZ.cell 1 rfl
      have z2 := hZ.cell 2 rfl
      have z3 := hZ.cell 3 rfl
      have HT4 := hide (set4_touch (w2.alloc (.cells #[.string t.toBr.key, .string t.toBr.val, .int .i64 t.toBr.at_, .slice sa t.toBr.kids.length cap, .string k, .string v, .int .i64 256, .slice none 0 0] 37)) R (.string ⟨#[]⟩) (.string ⟨#[]⟩) (.int .i64 at_) (.slice (some ⟨w2.heap.size, 0, none⟩) 2 2))
      have HBF := hide ((unhide B3).trans ((unhide HT4).below (unhide B3).size (fun q hq e => by have := unhide HRS; omega)))
      have hR2 := (unhide R2).1
      have HRL := hide (And.intro (unhide B2).size hR2)
      unfold set4 at z0 z1 z2 z3
      clear hZ R3 BA hR2
      go_wp2_with fail
      refine (unhide HBT w2).mono ?_
      rintro e w9 ⟨rfl, hw9⟩
      subst w9
      go_wp2_with fail
      refine bodyPost_ret (v := .agg #[.string ⟨#[]⟩, .string ⟨#[]⟩, .int .i64 at_, .slice (some ⟨w2.heap.size, 0, none⟩) 2 2]) (by simp [results, Tryd.results85, go_sem, z0, z1, z2, z3]) rfl ?_
      have O9 := own_kept (unhide O3) (unhide HT4) (fun q hq e => by
        have e1 : w2.heap.size = q := by simpa [Value.ownBlock] using hq
        have e2 : q = R := e
        have := (unhide HRL).2
        omega)
      have KT := ((unhide HKB).mono (T := fun x => x < B0 ∨ w.heap.size ≤ x) (fun x hx => .inl hx)).blw (unhide HBF)
      have KN := Brs.nil (w := set4 (w2.alloc (.cells #[.string t.toBr.key, .string t.toBr.val, .int .i64 t.toBr.at_, .slice sa t.toBr.kids.length cap, .string k, .string v, .int .i64 256, .slice none 0 0] 37)) R (.string ⟨#[]⟩) (.string ⟨#[]⟩) (.int .i64 at_) (.slice (some ⟨w2.heap.size, 0, none⟩) 2 2)) (S := fun x => x < B0 ∨ w.heap.size ≤ x) none 0 (by unfold maxLen; omega)
      exact unhide HGR2 (some ⟨w2.heap.size, 0, none⟩) 2 2 _ (brs_two (b0 := t.toBr) (b1 := Br.mk k v 256 []) (v0 := .slice sa t.toBr.kids.length cap) (v1 := .slice none 0 0) O9 (unhide HZT) (unhide HZK) KT KN (.inr (unhide HRL).1)) (unhide HBF)
end Go.Proofs.YtcmdilmjdnbfkaaDoor.Sha
namespace Go.Proofs.YtcmdilmjdnbfkaaDoor.Sha
open Go.ChangeShapes Go.WideShapes Go.ChangeAt Go.RowKit
set_option linter.unusedVariables false
set_option linter.unusedSimpArgs false

set_option maxRecDepth 100000 in
set_option maxHeartbeats 4000000 in
theorem l07Insert_leaf (k v h k' v' : ByteArray) (B0 : Nat) (kv : Value) (w : World) (hB : Brs (fun x => x < B0) w kv []) :
    Calls Tryd.prog 85 #[.agg #[.string k', .string v', .int .i64 256, kv], .string h, .int .i64 256, .agg #[.string k, .string v, .int .i64 256, .slice none 0 0]] w fun e w' => DrR B0 (Tr.leaf k v).toBr w e w' := by
  obtain ⟨sa, cap, rfl, hcap, hcm⟩ := hB.shape
  have HLF := hide (fun wx => l07Leaf_any k' v' 256 sa 0 cap wx (by unfold maxLen; omega))
  rw [show decide ((0 : Nat) = 0) = true from rfl] at HLF
  dsimp only [List.length_nil] at hB ⊢
  have HGR : Hid (∀ w', Below w.heap.size w w' → DrR B0 (Tr.leaf k v).toBr w (.returned (.agg #[.string k, .string v, .int .i64 256, .slice none 0 0])) w') := hide (fun w' hb => ⟨none, 0, 0, rfl, .nil _ _ (by unfold maxLen; omega), hb⟩)
  have B1 := hide ((((Below.refl w.heap.size w).alloc (Nat.le_refl _) (.cells #[.string k', .string v', .int .i64 256, .slice sa 0 cap] 37)).alloc (by simp) (.cells #[.string k, .string v, .int .i64 256, .slice none 0 0] 37)).alloc (by simp; omega) (.cells #[.string ⟨#[]⟩, .string ⟨#[]⟩, .int .i64 0, .slice none 0 0] 37))
  have L1 := hide ((Blk.new (w.alloc (.cells #[.string k', .string v', .int .i64 256, .slice sa 0 cap] 37)) #[.string k, .string v, .int .i64 256, .slice none 0 0] 37 (w.heap.size + 1) (by simp)).alloc (.cells #[.string ⟨#[]⟩, .string ⟨#[]⟩, .int .i64 0, .slice none 0 0] 37))
  have R1 := hide (Blk.new ((w.alloc (.cells #[.string k', .string v', .int .i64 256, .slice sa 0 cap] 37)).alloc (.cells #[.string k, .string v, .int .i64 256, .slice none 0 0] 37)) #[.string ⟨#[]⟩, .string ⟨#[]⟩, .int .i64 0, .slice none 0 0] 37 (w.heap.size + 1 + 1) (by simp))
  have HRS := hide (show w.heap.size < w.heap.size + 1 + 1 by omega)
  clear hB
  go_enter Tryd.func85, Tryd.ntmps85
  go_wp2_with fail
  generalize ((w.alloc (.cells #[.string k', .string v', .int .i64 256, .slice sa 0 cap] 37)).alloc (.cells #[.string k, .string v, .int .i64 256, .slice none 0 0] 37)).alloc (.cells #[.string ⟨#[]⟩, .string ⟨#[]⟩, .int .i64 0, .slice none 0 0] 37) = w1 at *
  generalize w.heap.size + 1 + 1 = R at *
  generalize w.heap.size + 1 = L at *
  refine (unhide HLF w1).mono ?_
  rintro e w2 ⟨rfl, hb2⟩
  have B2 := hide ((unhide B1).trans (hb2.mono (unhide B1).size))
  have R2 := hide ((unhide R1).below hb2)
  have L2 := (unhide L1).below hb2
  have l0 := L2.cell 0 rfl
  have l1 := L2.cell 1 rfl
  have l2 := L2.cell 2 rfl
  have l3 := L2.cell 3 rfl
  clear hb2 B1 R1 L1 L2
  have r0 := (unhide R2).cell 0 rfl
  have r1 := (unhide R2).cell 1 rfl
  have r2 := (unhide R2).cell 2 rfl
  have r3 := (unhide R2).cell 3 rfl
  have f0 := (unhide R2).fro 0
  have f1 := (unhide R2).fro 1
  have f2 := (unhide R2).fro 2
  have f3 := (unhide R2).fro 3
  have hZ := set4_blk (unhide R2) (.string k) (.string v) (.int .i64 256) (.slice none 0 0)
  have z0 := hZ.cell 0 rfl
  have z1 := hZ.cell 1 rfl
  have z2 := hZ.cell 2 rfl
  have z3 := hZ.cell 3 rfl
  have HT4 := hide (set4_touch w2 R (.string k) (.string v) (.int .i64 256) (.slice none 0 0))
  have HBF := hide ((unhide B2).trans ((unhide HT4).below (unhide B2).size (fun q hq e => by have := (unhide HRS); omega)))
  unfold set4 at z0 z1 z2 z3
  clear hZ
  go_wp2_with fail
  refine bodyPost_ret (v := .agg #[.string k, .string v, .int .i64 256, .slice none 0 0]) (by simp [results, Tryd.results85, go_sem, z0, z1, z2, z3]) rfl ?_
  exact unhide HGR _ (unhide HBF)
/-- The fork with its kid changed. -/
def replT (kb a : Nat) (hv : ByteArray) (l r t' : Tr) : Tr := if kb = 0 then .fork a hv t' r else .fork a hv l t'
set_option maxRecDepth 100000 in
set_option maxHeartbeats 8000000 in
theorem l07Insert_any (k v h : ByteArray) (hh : h.size = 32) (at_ : Nat) (hat0 : at_ ≤ 256) (hkv : TrOK (.leaf k v)) : ∀ (t : Tr), TrOK t → ∀ (m : Nat), Rise m t → Sep t → at_ = fd (kh (leadL h t).1) h → ∀ (B0 : Nat) (kv : Value) (w : World), B0 ≤ w.heap.size → Brs (fun x => x < B0) w kv t.toBr.kids →
    Calls Tryd.prog 85 #[.agg #[.string t.toBr.key, .string t.toBr.val, .int .i64 t.toBr.at_, kv], .string h, .int .i64 at_, .agg #[.string k, .string v, .int .i64 256, .slice none 0 0]] w fun e w' => DrR B0 (putT h at_ k v t).toBr w e w' := by
  intro t
  induction t with
  | leaf k' v' =>
    intro hok m hr hs hfd B0 kv w hB0 hB
    by_cases h256 : at_ = 256
    · subst h256
      have := l07Insert_leaf k v h k' v' B0 kv w hB
      unfold putT
      rw [if_pos rfl]
      exact this
    · have := l07Insert_build k v h hh at_ (by omega) hkv (.leaf k' v') hok (.inl rfl) B0 kv w hB0 hB
      unfold putT
      rw [if_neg h256]
      exact this
  | fork a hv l r ihl ihr =>
    intro hok m hr hs hfd B0 kv w hB0 hB
    have hne : at_ ≠ a := fun e => by
      have h1 := ((fd_iff (kh (leadL h (.fork a hv l r)).1) h at_ (by have := hr.2.1; omega)).1 hfd.symm).2
      rw [e] at h1
      exact h1 (lead_bit h hr hs)
    by_cases hlt : a < at_
    · obtain ⟨ha, ho9, okl, okr⟩ := hok
      obtain ⟨r0, r1, r2, r3⟩ := hr
      obtain ⟨q1, q2, q3, sl, sr⟩ := hs
      obtain ⟨sa, cap, rfl, hcap, hcm⟩ := hB.shape
      have hkm := hcm
      obtain ⟨kb, tn, hkb, hb2, HDT, okn, hgn, IH⟩ : ∃ (kb : Nat) (tn : Tr), bitN h a = kb ∧ kb < 2 ∧ Hid (putT h at_ k v (.fork a hv l r) = replT kb a hv l r (putT h at_ k v tn)) ∧ TrOK tn ∧ ([l.toBr, r.toBr] : List Br).getD kb default = tn.toBr ∧
          Hid (∀ (B0 : Nat) (kv : Value) (w : World), B0 ≤ w.heap.size → Brs (fun x => x < B0) w kv tn.toBr.kids → Calls Tryd.prog 85 #[.agg #[.string tn.toBr.key, .string tn.toBr.val, .int .i64 tn.toBr.at_, kv], .string h, .int .i64 at_, .agg #[.string k, .string v, .int .i64 256, .slice none 0 0]] w fun e w' => DrR B0 (putT h at_ k v tn).toBr w e w') := by
        rcases bitN_01 h a with hb | hb
        · exact ⟨0, l, hb, by omega, hide (by conv => lhs; unfold putT; rw [if_pos hlt, if_pos hb]
                                              rfl), okl, rfl, hide (ihl okl _ r2 sl (by rw [hfd]; conv => lhs; unfold leadL; rw [if_pos hb]))⟩
        · exact ⟨1, r, hb, by omega, hide (by conv => lhs; unfold putT; rw [if_pos hlt, if_neg (by omega)]
                                              rfl), okr, rfl, hide (ihr okr _ r3 sr (by rw [hfd]; conv => lhs; unfold leadL; rw [if_neg (by omega)]))⟩
      clear ihl ihr hfd hne q1 q2 q3 sl sr r0 r2 r3 ho9
      rw [unhide HDT]
      have HOT : Hid (TrOK (putT h at_ k v tn)) := hide (putT_ok h at_ k v hat0 hh hkv.1 hkv.2 tn okn)
      generalize putT h at_ k v tn = t' at *
      have HGR : Hid (∀ sa n cap w', Brs (fun x => x < B0 ∨ w.heap.size ≤ x) w' (.slice sa n cap) (replT kb a hv l r t').toBr.kids → Below w.heap.size w w' → DrR B0 (replT kb a hv l r t').toBr w (.returned (.agg #[.string (replT kb a hv l r t').toBr.key, .string (replT kb a hv l r t').toBr.val, .int .i64 (replT kb a hv l r t').toBr.at_, .slice sa n cap])) w') := hide (fun sa n cap w' h1 hb => ⟨sa, n, cap, rfl, h1, hb⟩)
      dsimp only [Tr.toBr, Br.key, Br.val, Br.at_, Br.kids] at hB hcap ⊢
      rw [show ([l.toBr, r.toBr] : List Br).length = 2 from rfl] at hB hcap ⊢
      obtain ⟨bb, off, kvf, rfl, _, hat⟩ := hB.at (by simp)
      have hbb := hat.lt
      obtain ⟨d0, d1, d2, d3⟩ := hat.cells kb (by simpa using hb2)
      have KN := hide (hat.kids kb (by simpa using hb2))
      rw [hgn] at d0 d1 d2 KN
      obtain ⟨kan, kcn, hkvn, _, hknm⟩ := (unhide KN).shape
      rw [hkvn] at KN d3
      have HLF := hide (fun wx => l07Leaf_any ⟨#[]⟩ ⟨#[]⟩ a (some ⟨bb, off, none⟩) 2 cap wx (by unfold maxLen at hkm ⊢; omega))
      rw [show decide ((2 : Nat) = 0) = false from rfl] at HLF
      have HBT := hide (fun wx => l07Bit_any h a wx hh r1)
      rw [hkb] at HBT
      have B1 := hide ((((Below.refl w.heap.size w).alloc (Nat.le_refl _) (.cells #[.string ⟨#[]⟩, .string ⟨#[]⟩, .int .i64 a, .slice (some ⟨bb, off, none⟩) 2 cap] 37)).alloc (by simp) (.cells #[.string k, .string v, .int .i64 256, .slice none 0 0] 37)).alloc (by simp; omega) (.cells #[.string ⟨#[]⟩, .string ⟨#[]⟩, .int .i64 0, .slice none 0 0] 37))
      have X1 := hide (((Blk.new w #[.string ⟨#[]⟩, .string ⟨#[]⟩, .int .i64 a, .slice (some ⟨bb, off, none⟩) 2 cap] 37 w.heap.size rfl).alloc (.cells #[.string k, .string v, .int .i64 256, .slice none 0 0] 37)).alloc (.cells #[.string ⟨#[]⟩, .string ⟨#[]⟩, .int .i64 0, .slice none 0 0] 37))
      have L1 := hide ((Blk.new (w.alloc (.cells #[.string ⟨#[]⟩, .string ⟨#[]⟩, .int .i64 a, .slice (some ⟨bb, off, none⟩) 2 cap] 37)) #[.string k, .string v, .int .i64 256, .slice none 0 0] 37 (w.heap.size + 1) (by simp)).alloc (.cells #[.string ⟨#[]⟩, .string ⟨#[]⟩, .int .i64 0, .slice none 0 0] 37))
      have R1 := hide (Blk.new ((w.alloc (.cells #[.string ⟨#[]⟩, .string ⟨#[]⟩, .int .i64 a, .slice (some ⟨bb, off, none⟩) 2 cap] 37)).alloc (.cells #[.string k, .string v, .int .i64 256, .slice none 0 0] 37)) #[.string ⟨#[]⟩, .string ⟨#[]⟩, .int .i64 0, .slice none 0 0] 37 (w.heap.size + 1 + 1) (by simp))
      have HRS := hide (show w.heap.size < w.heap.size + 1 + 1 ∧ w.heap.size < w.heap.size + 1 by omega)
      have HAT := hide hat
      have hgt : ¬ (at_ : Int) < (a : Int) := by omega
      clear hB hat hkvn hkb hgn HDT
      go_enter Tryd.func85, Tryd.ntmps85
      go_upto_region 1 with fail
      generalize ((w.alloc (.cells #[.string ⟨#[]⟩, .string ⟨#[]⟩, .int .i64 a, .slice (some ⟨bb, off, none⟩) 2 cap] 37)).alloc (.cells #[.string k, .string v, .int .i64 256, .slice none 0 0] 37)).alloc (.cells #[.string ⟨#[]⟩, .string ⟨#[]⟩, .int .i64 0, .slice none 0 0] 37) = w1 at *
      generalize w.heap.size + 1 + 1 = R at *
      generalize w.heap.size + 1 = L at *
      have x0 := (unhide X1).cell 0 rfl
      have x1 := (unhide X1).cell 1 rfl
      have x2 := (unhide X1).cell 2 rfl
      have x3 := (unhide X1).cell 3 rfl
      go_cut [16] (fun s wx => s = .bool false ∧ Below w1.heap.size w1 wx)
      case first =>
        by_cases h256 : at_ = 256
        · subst h256
          go_wp2_with fail
          refine (unhide HLF w1).mono ?_
          rintro e w2 ⟨rfl, hb2'⟩
          have HB2 := hide hb2'
          clear hb2'
          go_wp2_with fail
          go_meet
          exact ⟨rfl, unhide HB2⟩
        · have h2 : ((at_ : Int) == 256) = false := by rw [beq_eq_false_iff_ne]; omega
          go_wp2_with fail
          go_meet
          exact ⟨rfl, Below.refl _ _⟩
      case rest =>
        obtain ⟨rfl, hbc⟩ := hcut
        obtain ⟨w2, hw2⟩ : ∃ w2, w2 = wc := ⟨_, rfl⟩
        subst hw2
        have B2 := hide ((unhide B1).trans (hbc.mono (unhide B1).size))
        have X2 := hide ((unhide X1).below hbc)
        have L2 := hide ((unhide L1).below hbc)
        have R2 := hide ((unhide R1).below hbc)
        clear x0 x1 x2 x3 hbc B1 X1 L1 R1
        have x0 := (unhide X2).cell 0 rfl
        have x1 := (unhide X2).cell 1 rfl
        have x2 := (unhide X2).cell 2 rfl
        have x3 := (unhide X2).cell 3 rfl
        go_wp2_with fail
        refine (unhide HLF w2).mono ?_
        rintro e w3 ⟨rfl, hb3⟩
        have B3 := hide ((unhide B2).trans (hb3.mono (unhide B2).size))
        have X3 := hide ((unhide X2).below hb3)
        have L3 := hide ((unhide L2).below hb3)
        have R3 := hide ((unhide R2).below hb3)
        clear hb3 B2 X2 L2 R2 HLF x0 x1 x2 x3
        have x2 := (unhide X3).cell 2 rfl
        go_wp2_with fail
        refine (unhide HBT w3).mono ?_
        rintro e w9 ⟨rfl, hw9⟩
        subst w9
        have m0 : (0 : Int) ≤ (kb : Int) := by omega
        have m1 : (kb : Int) < 2 := by omega
        obtain ⟨ka0, kc0, hk0, _, _⟩ := ((unhide HAT).kids 0 (by simp)).shape
        obtain ⟨ka1, kc1, hk1, _, _⟩ := ((unhide HAT).kids 1 (by simp)).shape
        have BB := (Below.refl w3.heap.size w3).alloc (Nat.le_refl _) (.cells #[] 37)
        have B5 := hide ((unhide B3).trans (BB.mono (unhide B3).size))
        have X5 := hide ((unhide X3).below BB)
        have L5 := hide ((unhide L3).below BB)
        have R5 := hide ((unhide R3).below BB)
        have O5 : Hid ((w3.alloc (.cells #[] 37)).ownsRow w3.heap.size 37 4 (.slice (some ⟨w3.heap.size, 0, none⟩) 0 0) 0 []) := hide (World.ownsRow_made w3 #[] 0 (Nat.le_refl _) (by unfold maxLen; omega) rfl)
        have HRW := hide (row2_rw (cap := cap) (unhide HAT) (unhide B5))
        have H1C : Hid (∀ u ∈ row2 l.toBr r.toBr (kvf 0) (kvf 1), u.oneCell' = true) := hide (by rw [hk0, hk1]; exact row2_one)
        have x35 := (unhide X5).cell 3 rfl
        have hE5 : (w3.alloc (.cells #[] 37)).heap.size = w3.heap.size + 1 := by simp
        obtain ⟨i0, hi, hz0, hz1, hz2⟩ := info_parts infoBr
        have hw4 := (unhide B3).size
        have hX4' : w.heap.size < w3.heap.size := (unhide X3).1
        have hL4' : L < w3.heap.size := (unhide L3).1
        have hR4' : R < w3.heap.size := (unhide R3).1
        clear BB X3 R3 B3 L3 x2 hk0 hk1
        go_upto_region 9 with (at_builtin; refine wpList_append_row _ rfl _ _ _ rfl w3.heap.size 37 i0 _ 4 64 Tryd.underlying35 hi hz0 hz1 hz2 rfl (by omega) _ 0 [] rfl (unhide O5) _ 2 (row2 l.toBr r.toBr (kvf 0) (kvf 1)) rfl (unhide HRW) rfl (unhide H1C) (by unfold maxLen; omega) (by omega) (by omega) ?_; intro a6 c6 w6 hown6 hgrow6 hat6; have R6' := hide (And.intro hown6 (And.intro hgrow6 hat6)); clear hown6 hgrow6 hat6)
        obtain ⟨hown6, hgrow6, hat6⟩ := unhide R6'
        obtain ⟨g6, c6', he6, hg6, hg6'⟩ := World.ownsRow.form hown6 (by omega)
        cases he6
        rw [List.nil_append] at hown6
        have B6 := hide (grown6 (unhide B5) hgrow6 hw4)
        have T6 : Touch (fun q => q = w3.heap.size) _ w6 := grownT hgrow6
        have X6 := hide ((unhide X5).kept T6 (fun e => by have e' : w.heap.size = w3.heap.size := e; omega))
        have L6 := hide ((unhide L5).kept T6 (fun e => by have e' : L = w3.heap.size := e; omega))
        have R6 := hide ((unhide R5).kept T6 (fun e => by have e' : R = w3.heap.size := e; omega))
        have O6 := hide hown6
        have x36 := (unhide X6).cell 3 rfl
        have l60 := (unhide L6).cell 0 rfl
        have l61 := (unhide L6).cell 1 rfl
        have l62 := (unhide L6).cell 2 rfl
        have l63 := (unhide L6).cell 3 rfl
        have t0 := ((unhide B6).cell (p := ⟨bb, off + kb * 4, none⟩) hbb).trans d0
        have t1 := ((unhide B6).cell (p := ⟨bb, off + kb * 4 + 1, none⟩) hbb).trans d1
        have t2 := ((unhide B6).cell (p := ⟨bb, off + kb * 4 + 2, none⟩) hbb).trans d2
        have t3 := ((unhide B6).cell (p := ⟨bb, off + kb * 4 + 3, none⟩) hbb).trans d3
        clear hown6 hgrow6 hat6 T6 R6' X5 R5 L5 B5 O5 HRW H1C x35
        have HIH := hide (fun wx (hbx : Below w6.heap.size w6 wx) => unhide IH B0 _ wx (Nat.le_trans hB0 ((unhide B6).trans (hbx.mono (unhide B6).size)).size) ((unhide KN).blw ((unhide B6).trans (hbx.mono (unhide B6).size))))
        have HE4 : Hid (∃ e0 e1 e2 e3, (row2 l.toBr r.toBr (kvf 0) (kvf 1))[kb * 4]? = some e0 ∧ (row2 l.toBr r.toBr (kvf 0) (kvf 1))[kb * 4 + 1]? = some e1 ∧ (row2 l.toBr r.toBr (kvf 0) (kvf 1))[kb * 4 + 2]? = some e2 ∧ (row2 l.toBr r.toBr (kvf 0) (kvf 1))[kb * 4 + 3]? = some e3) := hide ⟨_, _, _, _, List.getElem?_eq_getElem (by simp [row2]; omega), List.getElem?_eq_getElem (by simp [row2]; omega), List.getElem?_eq_getElem (by simp [row2]; omega), List.getElem?_eq_getElem (by simp [row2]; omega)⟩
        obtain ⟨e0, e1, e2, e3, he0, he1, he2, he3⟩ := unhide HE4
        have HST : Hid (∀ w7, Below w6.heap.size w6 w7 → (w7.cell? ⟨g6, kb * 4, none⟩ = some e0 ∧ w7.cell? ⟨g6, kb * 4 + 1, none⟩ = some e1 ∧ w7.cell? ⟨g6, kb * 4 + 2, none⟩ = some e2 ∧ w7.cell? ⟨g6, kb * 4 + 3, none⟩ = some e3) ∧ (w7.frozen? ⟨g6, kb * 4, none⟩ = false ∧ w7.frozen? ⟨g6, kb * 4 + 1, none⟩ = false ∧ w7.frozen? ⟨g6, kb * 4 + 2, none⟩ = false ∧ w7.frozen? ⟨g6, kb * 4 + 3, none⟩ = false)) := hide (fun w7 hb7 => by
          have O7 := own_kept (T := fun _ => False) (unhide O6) (Touch.ofBelow hb7) (fun _ _ h => h)
          exact ⟨⟨(O7.cellAt (kb * 4) (by omega)).trans he0, (O7.cellAt (kb * 4 + 1) (by omega)).trans he1, (O7.cellAt (kb * 4 + 2) (by omega)).trans he2, (O7.cellAt (kb * 4 + 3) (by omega)).trans he3⟩, O7.frozenAt (kb * 4), O7.frozenAt (kb * 4 + 1), O7.frozenAt (kb * 4 + 2), O7.frozenAt (kb * 4 + 3)⟩)
        clear he0 he1 he2 he3
        go_cut [] (fun wx => ∃ (w7 : World) (s7 : Option Addr) (n7 c7 : Nat), Brs (fun x => x < B0 ∨ w6.heap.size ≤ x) w7 (.slice s7 n7 c7) t'.toBr.kids ∧ Below w6.heap.size w6 w7 ∧ wx = (((w7.setCell ⟨g6, kb * 4, none⟩ (.string t'.toBr.key)).setCell ⟨g6, kb * 4 + 1, none⟩ (.string t'.toBr.val)).setCell ⟨g6, kb * 4 + 2, none⟩ (.int .i64 t'.toBr.at_)).setCell ⟨g6, kb * 4 + 3, none⟩ (.slice s7 n7 c7))
        case first =>
          go_wp2_with fail
          go_region_law ((go_simp; go_at_call 85; refine (unhide HIH _ (below_drewN (Below.refl _ _) 1)).mono ?_; rintro e w7 ⟨s7, n7, c7, rfl, hBr7, hb7⟩; (have HB7 := hide (And.intro hBr7 ((below_drewN (Below.refl w6.heap.size w6) 1).trans hb7))); clear hBr7 hb7; (obtain ⟨⟨g0, g1, g2, g3⟩, i0', i1', i2', i3'⟩ := unhide HST w7 (unhide HB7).2); go_simp))
          all_goals
            go_wp2_with fail
            go_meet
            exact ⟨w7, s7, n7, c7, (unhide HB7).1, (unhide HB7).2, rfl⟩
        case rest =>
          obtain ⟨w7, s7, n7, c7, hBr7, hb7, hwc⟩ := hcut
          have O7 := own_kept (T := fun _ => False) (unhide O6) (Touch.ofBelow hb7) (fun _ _ h => h)
          have B7 := (unhide B6).trans (hb7.mono (unhide B6).size)
          have hz67 := hb7.size
          have X7 := (unhide X6).below hb7
          have R7 := (unhide R6).below hb7
          have O8 := (((O7.stored (kb * 4) (.string t'.toBr.key)).1.stored (kb * 4 + 1) (.string t'.toBr.val)).1.stored (kb * 4 + 2) (.int .i64 t'.toBr.at_)).1.stored (kb * 4 + 3) (.slice s7 n7 c7) |>.1
          have T8 : Touch (fun q => q = g6) w7 ((((w7.setCell ⟨g6, kb * 4, none⟩ (.string t'.toBr.key)).setCell ⟨g6, kb * 4 + 1, none⟩ (.string t'.toBr.val)).setCell ⟨g6, kb * 4 + 2, none⟩ (.int .i64 t'.toBr.at_)).setCell ⟨g6, kb * 4 + 3, none⟩ (.slice s7 n7 c7)) :=
            ((((Touch.refl (fun q => q = g6) w7).setCell ⟨g6, kb * 4, none⟩ _ (fun _ => rfl)).setCell ⟨g6, kb * 4 + 1, none⟩ _ (fun _ => rfl)).setCell ⟨g6, kb * 4 + 2, none⟩ _ (fun _ => rfl)).setCell ⟨g6, kb * 4 + 3, none⟩ _ (fun _ => rfl)
          rw [← hwc] at O8 T8
          have X8 := hide (X7.kept T8 (fun e => by have e' : w.heap.size = g6 := e; omega))
          have R8 := hide (R7.kept T8 (fun e => by have e' : R = g6 := e; omega))
          have B8 := hide (B7.trans (T8.below B7.size (fun q hq e => by have e' : q = g6 := e; omega)))
          have HBr8 := hide (hBr7.touch T8 (fun q hq e => by have e' : q = g6 := e; omega))
          have HO8 := hide O8
          clear O7 O8 T8 B7 X7 R7 hBr7 hb7 hwc X6 R6 L6 B6 O6 x36 l60 l61 l62 l63 t0 t1 t2 t3 HIH HST HE4
          obtain ⟨w8, hw8⟩ : ∃ w8, w8 = wc := ⟨_, rfl⟩
          subst hw8
          have x28 := (unhide X8).cell 2 rfl
          have r0' := (unhide R8).cell 0 rfl
          have r1' := (unhide R8).cell 1 rfl
          have r2' := (unhide R8).cell 2 rfl
          have r3' := (unhide R8).cell 3 rfl
          have f0 := (unhide R8).fro 0
          have f1 := (unhide R8).fro 1
          have f2 := (unhide R8).fro 2
          have f3 := (unhide R8).fro 3
          have hZ := set4_blk (unhide R8) (.string ⟨#[]⟩) (.string ⟨#[]⟩) (.int .i64 a) (.slice (some ⟨g6, 0, none⟩) 2 c6)
          have z0 := hZ.cell 0 rfl
          have z1 := hZ.cell 1 rfl
          have z2 := hZ.cell 2 rfl
          have z3 := hZ.cell 3 rfl
          have HT4 := hide (set4_touch w8 R (.string ⟨#[]⟩) (.string ⟨#[]⟩) (.int .i64 a) (.slice (some ⟨g6, 0, none⟩) 2 c6))
          have HBF := hide ((unhide B8).trans ((unhide HT4).below (unhide B8).size (fun q hq e => by have := (unhide HRS); omega)))
          unfold set4 at z0 z1 z2 z3
          clear hZ
          go_wp2_with fail
          refine bodyPost_ret (v := .agg #[.string ⟨#[]⟩, .string ⟨#[]⟩, .int .i64 a, .slice (some ⟨g6, 0, none⟩) 2 c6]) (by simp [results, Tryd.results85, go_sem, z0, z1, z2, z3]) rfl ?_
          have hrs := unhide HRS
          have O9 := own_kept (unhide HO8) (unhide HT4) (fun q hq e => by
            have e1 : g6 = q := by simpa [Value.ownBlock] using hq
            have e2 : q = R := e
            omega)
          have K9 := ((unhide HBr8).touch (unhide HT4) (fun q hq e => by have e2 : q = R := e; omega)).mono (T := fun x => x < B0 ∨ w.heap.size ≤ x) (fun x hx => by omega)
          have zt := toBr_small (unhide HOT)
          have zl := toBr_small okl
          have zr := toBr_small okr
          have L0' := (((unhide HAT).kids 0 (by simp)).mono (T := fun x => x < B0 ∨ w.heap.size ≤ x) (fun x hx => .inl hx)).blw (unhide HBF)
          have L1' := (((unhide HAT).kids 1 (by simp)).mono (T := fun x => x < B0 ∨ w.heap.size ≤ x) (fun x hx => .inl hx)).blw (unhide HBF)
          rcases (show kb = 0 ∨ kb = 1 by omega) with hk | hk
          · subst hk
            exact unhide HGR (some ⟨g6, 0, none⟩) 2 c6 _ (brs_two (b0 := t'.toBr) (b1 := r.toBr) (v0 := .slice s7 n7 c7) (v1 := kvf 1) O9 zt zr K9 L1' (.inr (by omega))) (unhide HBF)
          · subst hk
            exact unhide HGR (some ⟨g6, 0, none⟩) 2 c6 _ (brs_two (b0 := l.toBr) (b1 := t'.toBr) (v0 := kvf 0) (v1 := .slice s7 n7 c7) O9 zl zt L0' K9 (.inr (by omega))) (unhide HBF)
    · have := l07Insert_build k v h hh at_ (by have := hr.2.1; omega) hkv (.fork a hv l r) hok (.inr (by show (at_ : Int) < (a : Int); omega)) B0 kv w hB0 hB
      unfold putT
      rw [if_neg hlt]
      exact this
end Go.Proofs.YtcmdilmjdnbfkaaDoor.Sha
namespace Go.Proofs.YtcmdilmjdnbfkaaDoor.Sha
open Go.ChangeShapes Go.WideShapes Go.ChangeAt Go.RowKit
set_option linter.unusedVariables false
set_option linter.unusedSimpArgs false

/-- The map with a key. -/
def mpT (o : Option Tr) (key val : ByteArray) : Tr := match o with
  | none => .leaf key val
  | some t => putT (kh key) (putAt t key) key val t
theorem putT_lvN (h : ByteArray) (a : Nat) (k v : ByteArray) (ha : a ≤ 256) : ∀ t, TrOK t → (putT h a k v t).lvN = if a < 256 then t.lvN + 1 else t.lvN
  | .leaf k' v', ho => by
    unfold putT
    by_cases e : a = 256
    · rw [if_pos e, if_neg (by omega)]; rfl
    · rw [if_neg e, if_pos (by omega)]; unfold forkT; split <;> rfl
  | .fork b hb l r, ho => by
    unfold putT
    by_cases e : b < a
    · rw [if_pos e]
      split
      · show (putT h a k v l).lvN + r.lvN = _
        rw [putT_lvN h a k v ha l ho.2.2.1]
        show _ = if a < 256 then l.lvN + r.lvN + 1 else l.lvN + r.lvN
        split <;> omega
      · show l.lvN + (putT h a k v r).lvN = _
        rw [putT_lvN h a k v ha r ho.2.2.2]
        show _ = if a < 256 then l.lvN + r.lvN + 1 else l.lvN + r.lvN
        split <;> omega
    · rw [if_neg e, if_pos (by have := ho.1; omega)]
      unfold forkT
      split
      · show 1 + (l.lvN + r.lvN) = l.lvN + r.lvN + 1; omega
      · show (l.lvN + r.lvN) + 1 = l.lvN + r.lvN + 1; rfl
theorem tr_cnt : ∀ t : Tr, t.toBr.cnt + 1 ≤ 2 * t.lvN
  | .leaf k v => by rw [Br.cnt_eq]; show 1 + cntL [] + 1 ≤ 2 * 1; unfold cntL; omega
  | .fork a hv l r => by
    have h1 := tr_cnt l
    have h2 := tr_cnt r
    rw [Br.cnt_eq]
    show 1 + cntL [l.toBr, r.toBr] + 1 ≤ 2 * (l.lvN + r.lvN)
    rw [cntL_cons, cntL_cons]
    unfold cntL
    omega
theorem tr_cntL (t : Tr) : cntL t.toBr.kids ≤ 2 * t.lvN := by
  have h := tr_cnt t
  rw [Br.cnt_eq] at h
  omega
theorem mpT_ok {o : Option Tr} {key val : ByteArray} (ho : OkO o) (hkv : TrOK (.leaf key val)) : TrOK (mpT o key val) := by
  cases o with
  | none => exact hkv
  | some t => exact putT_ok (kh key) (putAt t key) key val (fd_le _ _) (kh_size (by have := (okK_iff.1 hkv.1).2; omega)) hkv.1 hkv.2 t ho
set_option maxRecDepth 100000 in
set_option maxHeartbeats 4000000 in
theorem l07Put_any (o : Option Tr) (hok : OkO o) (hri : RiseO o) (hsp : SepO o) (key val : ByteArray) (hkv : TrOK (.leaf key val)) (B0 : Nat) (kv : Value) (w : World) (hB0 : B0 ≤ w.heap.size) (hB : Brs (fun x => x < B0) w kv (brOf o).kids) :
    Calls Tryd.prog 59 #[.agg #[.string (brOf o).key, .string (brOf o).val, .int .i64 (brOf o).at_, kv], .string key, .string val] w fun e w' => DrR B0 (mpT o key val).toBr w e w' := by
  obtain ⟨sa, cap, rfl, hcap, hcm⟩ := hB.shape
  have hk24 := (okK_iff.1 hkv.1).2
  have B1 := hide (((Below.refl w.heap.size w).alloc (Nat.le_refl _) (.cells #[.string (brOf o).key, .string (brOf o).val, .int .i64 (brOf o).at_, .slice sa (brOf o).kids.length cap] 37)).alloc (by simp) (.cells #[.string ⟨#[]⟩, .string ⟨#[]⟩, .int .i64 0, .slice none 0 0] 37))
  have X1 := hide ((Blk.new w #[.string (brOf o).key, .string (brOf o).val, .int .i64 (brOf o).at_, .slice sa (brOf o).kids.length cap] 37 w.heap.size rfl).alloc (.cells #[.string ⟨#[]⟩, .string ⟨#[]⟩, .int .i64 0, .slice none 0 0] 37))
  have R1 := hide (Blk.new (w.alloc (.cells #[.string (brOf o).key, .string (brOf o).val, .int .i64 (brOf o).at_, .slice sa (brOf o).kids.length cap] 37)) #[.string ⟨#[]⟩, .string ⟨#[]⟩, .int .i64 0, .slice none 0 0] 37 (w.heap.size + 1) (by simp))
  have HRS := hide (show w.heap.size < w.heap.size + 1 by omega)
  have HE := hide (fun wx => l07Empty_any (brOf o).key (brOf o).val (brOf o).at_ (brOf o).kids sa cap wx (by omega))
  have e9 : Br.mk (brOf o).key (brOf o).val (brOf o).at_ (brOf o).kids = brOf o := by cases brOf o; rfl
  rw [e9] at HE
  clear e9
  have HKB := hide hB
  have HNW := hide (fun wx => l07New_any key val wx)
  clear hB
  cases o with
  | none =>
    have he : emptyBr (brOf none) = true := (empty_iff _ _ _ _).2 ⟨rfl, rfl, rfl, rfl⟩
    rw [he] at HE
    have HGR : Hid (∀ w', Below w.heap.size w w' → DrR B0 (mpT none key val).toBr w (.returned (.agg #[.string key, .string val, .int .i64 256, .slice none 0 0])) w') := hide (fun w' hb => ⟨none, 0, 0, rfl, .nil _ _ (by unfold maxLen; omega), hb⟩)
    dsimp only [brOf, Br.key, Br.val, Br.at_, Br.kids, List.length_nil] at *
    clear he HKB
    go_enter Tryd.func59, Tryd.ntmps59
    go_wp2_with fail
    generalize (w.alloc (.cells #[.string ⟨#[]⟩, .string ⟨#[]⟩, .int .i64 0, .slice sa 0 cap] 37)).alloc (.cells #[.string ⟨#[]⟩, .string ⟨#[]⟩, .int .i64 0, .slice none 0 0] 37) = w1 at *
    generalize w.heap.size + 1 = R at *
    refine (unhide HE w1).mono ?_
    rintro e w2 ⟨rfl, hb2⟩
    have B2 := hide ((unhide B1).trans (hb2.mono (unhide B1).size))
    have R2 := hide ((unhide R1).below hb2)
    clear hb2 B1 R1 X1
    go_wp2_with fail
    refine (unhide HNW w2).mono ?_
    rintro e w3 ⟨rfl, hb3⟩
    have B3 := hide ((unhide B2).trans (hb3.mono (unhide B2).size))
    have R3 := hide ((unhide R2).below hb3)
    clear hb3 B2 R2
    have r0 := (unhide R3).cell 0 rfl
    have r1 := (unhide R3).cell 1 rfl
    have r2 := (unhide R3).cell 2 rfl
    have r3 := (unhide R3).cell 3 rfl
    have f0 := (unhide R3).fro 0
    have f1 := (unhide R3).fro 1
    have f2 := (unhide R3).fro 2
    have f3 := (unhide R3).fro 3
    have hZ := set4_blk (unhide R3) (.string key) (.string val) (.int .i64 256) (.slice none 0 0)
    have z0 := hZ.cell 0 rfl
    have z1 := hZ.cell 1 rfl
    have z2 := hZ.cell 2 rfl
    have z3 := hZ.cell 3 rfl
    have HT4 := hide (set4_touch w3 R (.string key) (.string val) (.int .i64 256) (.slice none 0 0))
    have HBF := hide ((unhide B3).trans ((unhide HT4).below (unhide B3).size (fun q hq e => by have := (unhide HRS); omega)))
    unfold set4 at z0 z1 z2 z3
    clear hZ
    go_wp2_with fail
    refine bodyPost_ret (v := .agg #[.string key, .string val, .int .i64 256, .slice none 0 0]) (by simp [results, Tryd.results59, go_sem, z0, z1, z2, z3]) rfl ?_
    exact unhide HGR _ (unhide HBF)
  | some t =>
    rw [show emptyBr (brOf (some t)) = false from not_empty hok] at HE
    have HHS := hide (fun wx => l07Hash_any key wx (by omega))
    have hks := kh_size (k := key) (by omega)
    have hlo := lead_ok (kh key) t hok
    have hlk := kh_size (k := (leadL (kh key) t).1) (by have := (okK_iff.1 hlo.1).2; omega)
    dsimp only [brOf] at *
    have HNR := hide (fun wx (hx : Below w.heap.size w wx) => l07Near_any (kh key) hks t hok hri _ _ wx ((unhide HKB).blw hx))
    have HDF := hide (fun wx => l07Differ_any (kh key) (kh (leadL (kh key) t).1) wx hks hlk)
    rw [fd_comm] at HDF
    have HIN := hide (fun wx (hx : Below w.heap.size w wx) => l07Insert_any key val (kh key) hks (fd (kh (leadL (kh key) t).1) (kh key)) (fd_le _ _) hkv t hok 0 hri hsp.1 rfl B0 _ wx (Nat.le_trans hB0 hx.size) ((unhide HKB).blw hx))
    have HMT : Hid (mpT (some t) key val = putT (kh key) (fd (kh (leadL (kh key) t).1) (kh key)) key val t) := rfl
    have HGR : Hid (∀ sa n cap w', Brs (fun x => x < B0 ∨ w.heap.size ≤ x) w' (.slice sa n cap) (putT (kh key) (fd (kh (leadL (kh key) t).1) (kh key)) key val t).toBr.kids → Below w.heap.size w w' → DrR B0 (mpT (some t) key val).toBr w (.returned (.agg #[.string (putT (kh key) (fd (kh (leadL (kh key) t).1) (kh key)) key val t).toBr.key, .string (putT (kh key) (fd (kh (leadL (kh key) t).1) (kh key)) key val t).toBr.val, .int .i64 (putT (kh key) (fd (kh (leadL (kh key) t).1) (kh key)) key val t).toBr.at_, .slice sa n cap])) w') := hide (fun sa n cap w' h1 hb => ⟨sa, n, cap, rfl, h1, hb⟩)
    generalize (putT (kh key) (fd (kh (leadL (kh key) t).1) (kh key)) key val t).toBr = D at *
    generalize kh (leadL (kh key) t).1 = lh at *
    generalize fd lh (kh key) = A at *
    generalize kh key = hh at *
    clear hlo hlk hks hok hri hsp hkv HMT HKB
    go_enter Tryd.func59, Tryd.ntmps59
    go_wp2_with fail
    generalize (w.alloc (.cells #[.string t.toBr.key, .string t.toBr.val, .int .i64 t.toBr.at_, .slice sa t.toBr.kids.length cap] 37)).alloc (.cells #[.string ⟨#[]⟩, .string ⟨#[]⟩, .int .i64 0, .slice none 0 0] 37) = w1 at *
    generalize w.heap.size + 1 = R at *
    refine (unhide HE w1).mono ?_
    rintro e w2 ⟨rfl, hb2⟩
    have B2 := hide ((unhide B1).trans (hb2.mono (unhide B1).size))
    have X2 := hide ((unhide X1).below hb2)
    have R2 := hide ((unhide R1).below hb2)
    clear hb2 B1 R1 X1 HE
    go_wp2_with fail
    refine (unhide HHS w2).mono ?_
    rintro e w3 ⟨rfl, hb3⟩
    have B3 := hide ((unhide B2).trans (hb3.mono (unhide B2).size))
    have X3 := hide ((unhide X2).below hb3)
    have R3 := hide ((unhide R2).below hb3)
    clear hb3 B2 X2 R2 HHS
    have x0 := (unhide X3).cell 0 rfl
    have x1 := (unhide X3).cell 1 rfl
    have x2 := (unhide X3).cell 2 rfl
    have x3 := (unhide X3).cell 3 rfl
    go_wp2_with fail
    refine (unhide HNR w3 (unhide B3)).mono ?_
    rintro e w4 ⟨rfl, hb4⟩
    have B4 := hide ((unhide B3).trans (hb4.mono (unhide B3).size))
    have X4 := hide ((unhide X3).below hb4)
    have R4 := hide ((unhide R3).below hb4)
    clear hb4 B3 X3 R3 HNR x0 x1 x2 x3
    go_wp2_with fail
    refine (unhide HDF w4).mono ?_
    rintro e w9 ⟨rfl, hw9⟩
    subst w9
    have x0 := (unhide X4).cell 0 rfl
    have x1 := (unhide X4).cell 1 rfl
    have x2 := (unhide X4).cell 2 rfl
    have x3 := (unhide X4).cell 3 rfl
    have HSX : Hid (∀ wx, Below w4.heap.size w4 wx → wx.cell? ⟨w.heap.size, 0, none⟩ = some (.string t.toBr.key) ∧ wx.cell? ⟨w.heap.size, 1, none⟩ = some (.string t.toBr.val) ∧ wx.cell? ⟨w.heap.size, 2, none⟩ = some (.int .i64 t.toBr.at_) ∧ wx.cell? ⟨w.heap.size, 3, none⟩ = some (.slice sa t.toBr.kids.length cap)) := hide (fun wx hb => by
      have X := (unhide X4).below hb
      exact ⟨X.cell 0 rfl, X.cell 1 rfl, X.cell 2 rfl, X.cell 3 rfl⟩)
    go_upto_region 5 with fail
    go_cut [] (fun wx => ∃ (w7 : World) (s7 : Option Addr) (n7 c7 : Nat), Brs (fun x => x < B0 ∨ w4.heap.size ≤ x) w7 (.slice s7 n7 c7) D.kids ∧ Below w4.heap.size w4 w7 ∧ wx = set4 w7 R (.string D.key) (.string D.val) (.int .i64 D.at_) (.slice s7 n7 c7))
    case first =>
      go_wp2_with fail
      go_region_law (first
        | (go_simp; go_at_call 85; refine (unhide HIN w5 ((unhide B4).trans ((unhide HB5).mono (unhide B4).size))).mono ?_; rintro e w7 ⟨s7, n7, c7, rfl, hBr7, hb7⟩; (have HB7 := hide (And.intro (hBr7.mono (T := fun x => x < B0 ∨ w4.heap.size ≤ x) (fun x hx => by have := (unhide HB5).size; omega)) ((unhide HB5).trans (hb7.mono (unhide HB5).size)))); clear hBr7 hb7; (have R7 := (unhide R4).below (unhide HB7).2); (have r0 := R7.cell 0 rfl); (have r1 := R7.cell 1 rfl); (have r2 := R7.cell 2 rfl); (have r3 := R7.cell 3 rfl); (have f0 := R7.fro 0); (have f1 := R7.fro 1); (have f2 := R7.fro 2); (have f3 := R7.fro 3); clear R7; go_simp)
        | (go_simp; go_at_call 82; refine (unhide HNW _).mono ?_; rintro e w5 ⟨rfl, hb5⟩; (have HB5 := hide ((below_drewN (Below.refl w4.heap.size w4) 1).trans hb5)); clear hb5; (obtain ⟨y0, y1, y2, y3⟩ := unhide HSX w5 (unhide HB5)); go_simp))
      all_goals
        go_wp2_with fail
        go_meet
        exact ⟨w7, s7, n7, c7, (unhide HB7).1, (unhide HB7).2, rfl⟩
    case rest =>
      obtain ⟨w7, s7, n7, c7, hBr7, hb7, hwc⟩ := hcut
      have B7 := (unhide B4).trans (hb7.mono (unhide B4).size)
      have hZ := set4_blk ((unhide R4).below hb7) (.string D.key) (.string D.val) (.int .i64 D.at_) (.slice s7 n7 c7)
      have HT4 := set4_touch w7 R (.string D.key) (.string D.val) (.int .i64 D.at_) (.slice s7 n7 c7)
      rw [← hwc] at hZ HT4
      have HBF := hide (B7.trans (HT4.below B7.size (fun q hq e => by have := (unhide HRS); omega)))
      have hR4 := (unhide R4).1
      have HBR := hide ((hBr7.touch HT4 (fun q hq e => by have e2 : q = R := e; have := unhide HRS; omega)).mono (T := fun x => x < B0 ∨ w.heap.size ≤ x) (fun x hx => by have := (unhide B4).size; omega))
      have z0 := hZ.cell 0 rfl
      have z1 := hZ.cell 1 rfl
      have z2 := hZ.cell 2 rfl
      have z3 := hZ.cell 3 rfl
      clear hZ HT4 B7 hBr7 hb7 hwc B4 X4 R4 x0 x1 x2 x3 HSX HIN HNW HDF
      obtain ⟨w8, hw8⟩ : ∃ w8, w8 = wc := ⟨_, rfl⟩
      subst hw8
      go_wp2_with fail
      refine bodyPost_ret (v := .agg #[.string D.key, .string D.val, .int .i64 D.at_, .slice s7 n7 c7]) (by simp [results, Tryd.results59, go_sem, z0, z1, z2, z3]) rfl ?_
      exact unhide HGR _ _ _ _ (unhide HBR) (unhide HBF)
end Go.Proofs.YtcmdilmjdnbfkaaDoor.Sha
namespace Go.Proofs.YtcmdilmjdnbfkaaDoor.Sha
open Go.ChangeShapes Go.WideShapes Go.ChangeAt Go.RowKit
set_option linter.unusedVariables false
set_option linter.unusedSimpArgs false

theorem opC_cases (b : Br) (key : ByteArray) : opC b key = 0 ∨ opC b key = 1 ∨ opC b key = 2 := by
  unfold opC
  split
  · split
    · exact .inr (.inl rfl)
    · exact .inl rfl
  · exact txC_cases _ _ _
theorem mp_long1 {b : Br} {key val : ByteArray} (h : 65536 < key.size) : mpOut b key val = (brOf none, 2) := by
  have e : txC key.size 1 24 = 2 := by unfold txC; rw [if_pos h]
  have e2 : opC b key = 2 := by unfold opC; rw [e, if_neg (by omega)]
  have e3 : mxI 2 (txC val.size 0 60) = 2 := by rcases txC_cases val.size 0 60 with h | h | h <;> rw [h] <;> rfl
  unfold mpOut
  rw [e2, e3, if_neg (by omega)]
theorem mp_long2 {b : Br} {key val : ByteArray} (h : 65536 < val.size) : mpOut b key val = (brOf none, 2) := by
  have e : txC val.size 0 60 = 2 := by unfold txC; rw [if_pos h]
  have e3 : mxI (opC b key) 2 = 2 := by rcases opC_cases b key with h | h | h <;> rw [h] <;> rfl
  unfold mpOut
  rw [e, e3, if_neg (by omega)]
def mpB (b : Br) (key val : ByteArray) : Bool := mapB b && okK key && decide (val.size ≤ 60)
theorem mp_short {b : Br} {key val : ByteArray} (h1 : ¬ 65536 < key.size) (h2 : ¬ 65536 < val.size) : mpOut b key val = if mpB b key val = true then (match mapV b with | none => (brOf none, 0) | some o => mpO o key val) else (brOf none, 1) := by
  have e1 : txC key.size 1 24 = if okK key = true then 0 else 1 := by unfold txC; rw [if_neg h1, okK_in]
  have e2 : txC val.size 0 60 = if val.size ≤ 60 then 0 else 1 := by
    unfold txC
    rw [if_neg h2]
    by_cases h : val.size ≤ 60
    · rw [if_pos h, if_pos (inB_iff.2 (by omega))]
    · rw [if_neg h, if_neg (fun e => h (by have := inB_iff.1 e; omega))]
  have e3 : opC b key = if mapB b = true ∧ okK key = true then 0 else 1 := by
    unfold opC
    rw [e1, mapB_V]
    cases okK key
    · simp
    · cases mapV b <;> simp
  unfold mpOut mpB
  rw [e2, e3]
  cases mapB b <;> cases okK key <;> by_cases h : val.size ≤ 60 <;> simp [h, mxI] <;> (cases mapV b <;> rfl)
set_option maxRecDepth 100000 in
set_option maxHeartbeats 4000000 in
theorem specMapPut_any (k v : ByteArray) (a : Int) (ks : List Br) (key val : ByteArray) (S : Nat → Prop) (kv : Value) (w : World) (hB : Brs S w kv ks) (hk : k.size ≤ maxLen) (hv : v.size ≤ maxLen) (hky : key.size ≤ 1048576) (hvl : val.size ≤ 1048576) :
    Calls Tryd.prog 25 #[.agg #[.string k, .string v, .int .i64 a, kv], .string key, .string val] w fun e w' => ∃ u, e = .returned (.tuple #[u, .int .i64 (mpOut (.mk k v a ks) key val).2]) ∧ BrV w.heap.size w' u (mpOut (.mk k v a ks) key val).1 ∧ Below w.heap.size w w' := by
  obtain ⟨sa, cap, rfl, hcap, hcm⟩ := hB.shape
  have B0 := hide (((Below.refl w.heap.size w).alloc (Nat.le_refl _) (.cells #[.string k, .string v, .int .i64 a, .slice sa ks.length cap] 37)).alloc (by simp) (.cells #[.string ⟨#[]⟩, .string ⟨#[]⟩, .int .i64 0, .slice none 0 0] 37))
  have X0 := hide ((Blk.new w #[.string k, .string v, .int .i64 a, .slice sa ks.length cap] 37 w.heap.size rfl).alloc (.cells #[.string ⟨#[]⟩, .string ⟨#[]⟩, .int .i64 0, .slice none 0 0] 37))
  have R0 := hide (Blk.new (w.alloc (.cells #[.string k, .string v, .int .i64 a, .slice sa ks.length cap] 37)) #[.string ⟨#[]⟩, .string ⟨#[]⟩, .int .i64 0, .slice none 0 0] 37 (w.heap.size + 1) (by simp))
  have HSZ := hide (show w.heap.size ≤ w.heap.size + 1 by omega)
  have HXR := hide (show w.heap.size < w.heap.size + 1 by omega)
  have HM := hide (fun wx (hx : Below w.heap.size w wx) => specMapOK_any k v a ks S _ wx (hB.blw hx) hk hv)
  have HKY := hide (fun wx => l02Keyb_any key wx (by unfold maxLen; omega))
  have HPT := hide (fun (hkv : TrOK (.leaf key val)) o (h : mapV (.mk k v a ks) = some o) wx (hx : Below w.heap.size w wx) => show Calls Tryd.prog 59 #[.agg #[.string k, .string v, .int .i64 a, .slice sa ks.length cap], .string key, .string val] wx fun e w' => DrR w.heap.size (mpT o key val).toBr wx e w' by
    obtain ⟨h1, h2⟩ := mapV_br h
    have hx2 := hB.bound.blw hx
    have q := l07Put_any o h2 (mapV_rise h) (mapV_sep h) key val hkv w.heap.size (.slice sa ks.length cap) wx hx.size (by rw [← h1]; exact hx2)
    rw [← h1] at q
    exact q)
  by_cases h1 : 65536 < key.size
  · have HO : Hid (mpOut (.mk k v a ks) key val = (brOf none, 2)) := hide (mp_long1 h1)
    have HCD : True := trivial
    clear hB hk hv HM HPT HCD
    go_enter Tryd.func25, Tryd.ntmps25
    go_upto_region 1 with fail
    generalize (w.alloc (.cells #[.string k, .string v, .int .i64 a, .slice sa ks.length cap] 37)).alloc (.cells #[.string ⟨#[]⟩, .string ⟨#[]⟩, .int .i64 0, .slice none 0 0] 37) = w1 at *
    generalize w.heap.size + 1 = rb at *
    have r0 := (unhide R0).cell 0 rfl
    have r1 := (unhide R0).cell 1 rfl
    have r2 := (unhide R0).cell 2 rfl
    have r3 := (unhide R0).cell 3 rfl
    have f0 := (unhide R0).fro 0
    have f1 := (unhide R0).fro 1
    have f2 := (unhide R0).fro 2
    have f3 := (unhide R0).fro 3
    have hE := end4b (b := brOf none) (m := rb + 1) (unhide R0) (unhide B0) (BrO.nil (fun x => rb + 1 ≤ x ∧ x < _) none 0 (by unfold maxLen; omega)) (unhide HSZ) (Nat.lt_succ_self _)
    have z0 := hE.1.cell 0 rfl
    have z1 := hE.1.cell 1 rfl
    have z2 := hE.1.cell 2 rfl
    have z3 := hE.1.cell 3 rfl
    have HE := hide hE
    unfold set4 at z0 z1 z2 z3
    dsimp only [brOf, Br.key, Br.val, Br.at_] at z0 z1 z2 z3
    clear hE
    go_wp2_with fail
    refine bodyPost_ret (v := .tuple #[.agg #[.string ⟨#[]⟩, .string ⟨#[]⟩, .int .i64 0, .slice none 0 0], .int .i64 2]) (by simp [results, Tryd.results25, go_sem, z0, z1, z2, z3]) rfl ?_
    exact ⟨_, by rw [unhide HO], by rw [unhide HO]; exact (unhide HE).2.1, (unhide HE).2.2⟩
  by_cases h2 : 65536 < val.size
  · have HO : Hid (mpOut (.mk k v a ks) key val = (brOf none, 2)) := hide (mp_long2 h2)
    have HCD : True := trivial
    clear hB hk hv HM HPT HCD
    go_enter Tryd.func25, Tryd.ntmps25
    go_upto_region 1 with fail
    generalize (w.alloc (.cells #[.string k, .string v, .int .i64 a, .slice sa ks.length cap] 37)).alloc (.cells #[.string ⟨#[]⟩, .string ⟨#[]⟩, .int .i64 0, .slice none 0 0] 37) = w1 at *
    generalize w.heap.size + 1 = rb at *
    have r0 := (unhide R0).cell 0 rfl
    have r1 := (unhide R0).cell 1 rfl
    have r2 := (unhide R0).cell 2 rfl
    have r3 := (unhide R0).cell 3 rfl
    have f0 := (unhide R0).fro 0
    have f1 := (unhide R0).fro 1
    have f2 := (unhide R0).fro 2
    have f3 := (unhide R0).fro 3
    have hE := end4b (b := brOf none) (m := rb + 1) (unhide R0) (unhide B0) (BrO.nil (fun x => rb + 1 ≤ x ∧ x < _) none 0 (by unfold maxLen; omega)) (unhide HSZ) (Nat.lt_succ_self _)
    have z0 := hE.1.cell 0 rfl
    have z1 := hE.1.cell 1 rfl
    have z2 := hE.1.cell 2 rfl
    have z3 := hE.1.cell 3 rfl
    have HE := hide hE
    unfold set4 at z0 z1 z2 z3
    dsimp only [brOf, Br.key, Br.val, Br.at_] at z0 z1 z2 z3
    clear hE
    go_wp2_with fail
    refine bodyPost_ret (v := .tuple #[.agg #[.string ⟨#[]⟩, .string ⟨#[]⟩, .int .i64 0, .slice none 0 0], .int .i64 2]) (by simp [results, Tryd.results25, go_sem, z0, z1, z2, z3]) rfl ?_
    exact ⟨_, by rw [unhide HO], by rw [unhide HO]; exact (unhide HE).2.1, (unhide HE).2.2⟩
  have HSH := hide (mp_short (b := .mk k v a ks) h1 h2)
  have HBD : Hid (mpB (.mk k v a ks) key val = (mapB (.mk k v a ks) && okK key && decide (val.size ≤ 60))) := rfl
  have HMV := hide (mapB_V (.mk k v a ks))
  clear hB hk hv
  go_enter Tryd.func25, Tryd.ntmps25
  go_upto_region 3 with fail
  generalize (w.alloc (.cells #[.string k, .string v, .int .i64 a, .slice sa ks.length cap] 37)).alloc (.cells #[.string ⟨#[]⟩, .string ⟨#[]⟩, .int .i64 0, .slice none 0 0] 37) = w1 at *
  generalize w.heap.size + 1 = rb at *
  have HM1 := hide (unhide HM w1 (unhide B0))
  generalize mpB (.mk k v a ks) key val = mpb at *
  have x0 := (unhide X0).cell 0 rfl
  have x1 := (unhide X0).cell 1 rfl
  have x2 := (unhide X0).cell 2 rfl
  have x3 := (unhide X0).cell 3 rfl
  go_cut [30] (fun s wx => s = .bool (!mpb) ∧ Below w1.heap.size w1 wx)
  case first =>
    clear HSH HMV HM HPT
    generalize mapB (.mk k v a ks) = mb at *
    generalize okK key = ok at *
    go_wp2_with fail
    refine (unhide HM1).mono ?_
    rintro e w2 ⟨rfl, hb2⟩
    have HB2 := hide hb2
    clear hb2
    cases mb
    · go_wp2_with fail
      go_meet
      exact ⟨by rw [unhide HBD]; rfl, unhide HB2⟩
    · go_wp2_with fail
      refine (unhide HKY w2).mono ?_
      rintro e w9 ⟨rfl, hw9⟩
      subst w9
      cases ok
      · go_wp2_with fail
        go_meet
        exact ⟨by rw [unhide HBD]; rfl, unhide HB2⟩
      · by_cases h3 : val.size ≤ 60
        · have h4 : ¬ (60 : Int) < (val.size : Int) := by omega
          go_wp2_with fail
          go_meet
          exact ⟨by rw [unhide HBD]; simp [h3, h4], unhide HB2⟩
        · have h4 : (60 : Int) < (val.size : Int) := by omega
          go_wp2_with fail
          go_meet
          exact ⟨by rw [unhide HBD]; simp [h3, h4], unhide HB2⟩
  case rest =>
    obtain ⟨rfl, hbc⟩ := hcut
    obtain ⟨w2, hw2⟩ : ∃ w2, w2 = wc := ⟨_, rfl⟩
    subst hw2
    have B2 := hide ((unhide B0).trans (hbc.mono (unhide B0).size))
    have X2 := hide ((unhide X0).below hbc)
    have R2 := hide ((unhide R0).below hbc)
    clear hbc B0 X0 R0 HM HM1 HKY x0 x1 x2 x3
    cases mpb
    · have HO : Hid (mpOut (.mk k v a ks) key val = (brOf none, 1)) := hide (by rw [unhide HSH, if_neg (by simp)])
      clear HSH HBD HMV HPT
      rw [show (!false) = true from rfl]
      have r0 := (unhide R2).cell 0 rfl
      have r1 := (unhide R2).cell 1 rfl
      have r2 := (unhide R2).cell 2 rfl
      have r3 := (unhide R2).cell 3 rfl
      have f0 := (unhide R2).fro 0
      have f1 := (unhide R2).fro 1
      have f2 := (unhide R2).fro 2
      have f3 := (unhide R2).fro 3
      have hE := end4b (b := brOf none) (m := rb + 1) (unhide R2) (unhide B2) (BrO.nil (fun x => rb + 1 ≤ x ∧ x < _) none 0 (by unfold maxLen; omega)) (unhide HSZ) (Nat.lt_succ_self _)
      have z0 := hE.1.cell 0 rfl
      have z1 := hE.1.cell 1 rfl
      have z2 := hE.1.cell 2 rfl
      have z3 := hE.1.cell 3 rfl
      have HE := hide hE
      unfold set4 at z0 z1 z2 z3
      dsimp only [brOf, Br.key, Br.val, Br.at_] at z0 z1 z2 z3
      clear hE
      go_wp2_with fail
      refine bodyPost_ret (v := .tuple #[.agg #[.string ⟨#[]⟩, .string ⟨#[]⟩, .int .i64 0, .slice none 0 0], .int .i64 1]) (by simp [results, Tryd.results25, go_sem, z0, z1, z2, z3]) rfl ?_
      exact ⟨_, by rw [unhide HO], by rw [unhide HO]; exact (unhide HE).2.1, (unhide HE).2.2⟩
    · obtain ⟨⟨hm1, hm2⟩, hm3⟩ : (mapB (.mk k v a ks) = true ∧ okK key = true) ∧ val.size ≤ 60 := by
        have h := unhide HBD
        simpa using h.symm
      obtain ⟨o, hmo⟩ : ∃ o, mapV (.mk k v a ks) = some o := by
        have h := unhide HMV
        rw [hm1] at h
        cases hq : mapV (.mk k v a ks) with
        | none => rw [hq] at h; cases h
        | some o => exact ⟨o, rfl⟩
      have HO : Hid (mpOut (.mk k v a ks) key val = mpO o key val) := hide (by rw [unhide HSH, if_pos rfl, hmo])
      have hkv : TrOK (.leaf key val) := ⟨hm2, hm3⟩
      have HP2 := hide (unhide HPT hkv o hmo w2 (unhide B2))
      have HOK := hide (mpT_ok (mapV_br hmo).2 hkv)
      have HS40 : Hid ((mpT o key val).lvN ≤ 41 ∧ (40 < (mpT o key val).lvN → mpOut (.mk k v a ks) key val = (brOf none, 7)) ∧ (¬ 40 < (mpT o key val).lvN → mpOut (.mk k v a ks) key val = ((mpT o key val).toBr, 0))) := hide (by
        rw [unhide HO]
        have hsp := mapV_sep hmo
        have hbo := (mapV_br hmo).2
        cases o with
        | none => exact ⟨by show 1 ≤ 41; omega, fun h => by have h' : 40 < 1 := h; omega, fun _ => rfl⟩
        | some t =>
          have hn := putT_lvN (kh key) (putAt t key) key val (fd_le _ _) t hbo
          have h40 := hsp.2
          have e : (mpT (some t) key val).lvN = if putAt t key < 256 then t.lvN + 1 else t.lvN := hn
          rw [e]
          refine ⟨by split <;> omega, fun h => ?_, fun h => ?_⟩
          · unfold mpO
            dsimp only
            split at h
            · rename_i h5
              rw [if_pos ⟨h5, by omega⟩]
            · omega
          · unfold mpO
            dsimp only
            split at h
            · rename_i h5
              rw [if_neg (fun q => by omega)]
              rfl
            · rename_i h5
              rw [if_neg (fun q => h5 q.1)]
              rfl)
      have HCN := hide (show cntL (mpT o key val).toBr.kids ≤ 1048576 by have := tr_cntL (mpT o key val); have := (unhide HS40).1; omega)
      have HSZ2 := hide (fun S kv wx hb => l07Size_any (mpT o key val) (unhide HOK) (by have := (unhide HS40).1; omega) S kv wx hb)
      generalize mpT o key val = D at *
      clear HSH HBD HMV hm1 hm2 hm3 hmo HO hkv HPT
      rw [show (!true) = false from rfl]
      have x0 := (unhide X2).cell 0 rfl
      have x1 := (unhide X2).cell 1 rfl
      have x2 := (unhide X2).cell 2 rfl
      have x3 := (unhide X2).cell 3 rfl
      go_wp2_with fail
      refine (unhide HP2).mono ?_
      rintro e w3 ⟨s3, n3, c3, rfl, hBr3, hb3⟩
      have hsh := hBr3.shape
      have BB := (Below.refl w3.heap.size w3).alloc (Nat.le_refl _) (.cells #[.string D.toBr.key, .string D.toBr.val, .int .i64 D.toBr.at_, .slice s3 n3 c3] 37)
      have hb3b := hb3.trans (BB.mono hb3.size)
      have B3 := hide ((unhide B2).trans (hb3b.mono (unhide B2).size))
      have R3 := hide ((unhide R2).below hb3b)
      have Q3 := hide (Blk.new w3 #[.string D.toBr.key, .string D.toBr.val, .int .i64 D.toBr.at_, .slice s3 n3 c3] 37 w3.heap.size rfl)
      have K3 := hide (hBr3.blw BB)
      clear hb3 hb3b BB B2 X2 R2 x0 x1 x2 x3 hBr3 hsh HP2
      go_upto_region 6 with fail
      generalize w3.alloc (.cells #[.string D.toBr.key, .string D.toBr.val, .int .i64 D.toBr.at_, .slice s3 n3 c3] 37) = w4 at *
      generalize w3.heap.size = Q at *
      have q0 := (unhide Q3).cell 0 rfl
      have q1 := (unhide Q3).cell 1 rfl
      have q2 := (unhide Q3).cell 2 rfl
      have q3 := (unhide Q3).cell 3 rfl
      go_wp2_with fail
      refine (unhide HSZ2 _ _ w4 (unhide K3)).mono ?_
      rintro e w5 ⟨rfl, hb5⟩
      have B5 := hide ((unhide B3).trans (hb5.mono (unhide B3).size))
      have R5 := hide ((unhide R3).below hb5)
      have Q5 := hide ((unhide Q3).below hb5)
      have K5 := hide ((unhide K3).blw hb5)
      clear hb5 B3 R3 Q3 K3 q0 q1 q2 q3 HSZ2
      generalize hsn : D.lvN = sn at *
      by_cases hgt : 40 < sn
      · have HO7 := hide ((unhide HS40).2.1 hgt)
        have hgt2 : (40 : Int) < (sn : Int) := by omega
        clear HS40 hsn
        have r0 := (unhide R5).cell 0 rfl
        have r1 := (unhide R5).cell 1 rfl
        have r2 := (unhide R5).cell 2 rfl
        have r3 := (unhide R5).cell 3 rfl
        have f0 := (unhide R5).fro 0
        have f1 := (unhide R5).fro 1
        have f2 := (unhide R5).fro 2
        have f3 := (unhide R5).fro 3
        have hE := end4b (b := brOf none) (m := rb + 1) (unhide R5) (unhide B5) (BrO.nil (fun x => rb + 1 ≤ x ∧ x < _) none 0 (by unfold maxLen; omega)) (unhide HSZ) (Nat.lt_succ_self _)
        have z0 := hE.1.cell 0 rfl
        have z1 := hE.1.cell 1 rfl
        have z2 := hE.1.cell 2 rfl
        have z3 := hE.1.cell 3 rfl
        have HE := hide hE
        unfold set4 at z0 z1 z2 z3
        dsimp only [brOf, Br.key, Br.val, Br.at_] at z0 z1 z2 z3
        clear hE
        go_wp2_with fail
        refine bodyPost_ret (v := .tuple #[.agg #[.string ⟨#[]⟩, .string ⟨#[]⟩, .int .i64 0, .slice none 0 0], .int .i64 7]) (by simp [results, Tryd.results25, go_sem, z0, z1, z2, z3]) rfl ?_
        exact ⟨_, by rw [unhide HO7], by rw [unhide HO7]; exact (unhide HE).2.1, (unhide HE).2.2⟩
      · have HO0 := hide ((unhide HS40).2.2 hgt)
        have hgt2 : ¬ (40 : Int) < (sn : Int) := by omega
        have q0 := (unhide Q5).cell 0 rfl
        have q1 := (unhide Q5).cell 1 rfl
        have q2 := (unhide Q5).cell 2 rfl
        have q3 := (unhide Q5).cell 3 rfl
        have HOW := hide (l07Own_any (unhide K5) D.toBr.key D.toBr.val D.toBr.at_ w5 (unhide HCN) (Below.refl _ _))
        rw [br_eta] at HOW
        clear HS40 hsn
        go_wp2_with fail
        refine (unhide HOW).mono ?_
        rintro e w6 ⟨s6, n6, c6, rfl, hO6, hb6⟩
        have R6 := hide ((unhide R5).below hb6)
        have B6 := hide ((unhide B5).trans (hb6.mono (unhide B5).size))
        have hE := end4b (unhide R6) (unhide B6) hO6 (unhide HSZ) (unhide R5).1
        clear hb6 hO6 HOW B5 q0 q1 q2 q3
        have r0 := (unhide R6).cell 0 rfl
        have r1 := (unhide R6).cell 1 rfl
        have r2 := (unhide R6).cell 2 rfl
        have r3 := (unhide R6).cell 3 rfl
        have f0 := (unhide R6).fro 0
        have f1 := (unhide R6).fro 1
        have f2 := (unhide R6).fro 2
        have f3 := (unhide R6).fro 3
        have z0 := hE.1.cell 0 rfl
        have z1 := hE.1.cell 1 rfl
        have z2 := hE.1.cell 2 rfl
        have z3 := hE.1.cell 3 rfl
        have HE := hide hE
        unfold set4 at z0 z1 z2 z3
        clear hE
        go_wp2_with fail
        refine bodyPost_ret (v := .tuple #[.agg #[.string D.toBr.key, .string D.toBr.val, .int .i64 D.toBr.at_, .slice s6 n6 c6], .int .i64 0]) (by simp [results, Tryd.results25, go_sem, z0, z1, z2, z3]) rfl ?_
        exact ⟨_, by rw [unhide HO0], by rw [unhide HO0]; exact (unhide HE).2.1, (unhide HE).2.2⟩
end Go.Proofs.YtcmdilmjdnbfkaaDoor.Sha
