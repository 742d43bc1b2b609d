/- What the proof of the claim needs (joined by program): BrNr BrSz BrX BrOw. -/
import Derived.Test.YtbchnheinnileaaGreatDoorQca06
import Derived.Test.YtbchnheinnileaaGreatDoorQca05
import Derived.Test.YtbchnheinnileaaGreatDoorQca00
import Derived.Test.YtbchnheinnileaaGreatDoorQca04
import Derived.Deep.RegionHeld3
import Derived.Deep.AppendLies
import Derived.Deep.RegionLaw
namespace Go.Proofs.YtbchnheinnileaaGreatDoor.Sha
set_option maxRecDepth 100000
set_option maxHeartbeats 8000000
open Go.ChangeShapes Go.WideShapes Go.ChangeAt Go.RowKit
set_option linter.unusedVariables false
set_option linter.unusedSimpArgs false
theorem l07Near_any (h : ByteArray) (hh : h.size = 32) (t : Tr) (hok : TrOK t) (hri : Rise 0 t) (S : Nat → Prop) (kv : Value) (w : World) (hB : Brs S w kv t.toBr.kids) :
  Calls Tryz.prog 99 #[.agg #[.string t.toBr.key, .string t.toBr.val, .int .i64 t.toBr.at_, kv], .string h] w fun e w' => e = .returned (.string (kh (leadL h t).1)) ∧ Below w.heap.size w w' := by
 obtain ⟨sa, cap, rfl, hcap, hcm⟩ := hB.shape
 have B1 := Hd (bal w (.cells #[.string t.toBr.key, .string t.toBr.val, .int .i64 t.toBr.at_, .slice sa t.toBr.kids.length cap] 30))
 have X1 := Hd (Blk.new w #[.string t.toBr.key, .string t.toBr.val, .int .i64 t.toBr.at_, .slice sa t.toBr.kids.length cap] 30 w.heap.size rfl)
 have HKB := Hd hB.bound
 have HGR : Hid (∀ x w', Below w.heap.size w w' → x = kh (leadL h t).1 → Ending.returned (.string x) = .returned (.string (kh (leadL h t).1)) ∧ Below w.heap.size w w') := Hd (fun x w' hb he => ⟨by rw [he], hb⟩)
 have HOK := Hd hok
 have HRI := Hd hri
 clear hB hok hri
 go_enter Tryz.func99, Tryz.ntmps99
 go_wp2_with fail
 generalize w.alloc (.cells #[.string t.toBr.key, .string t.toBr.val, .int .i64 t.toBr.at_, .slice sa t.toBr.kids.length cap] 30) = w1 at *
 go_loopw [] (fun wr => ∃ (m : Nat) (t' : Tr) (ka : Option Addr) (kc : Nat), Blk wr w.heap.size [.string t'.toBr.key, .string t'.toBr.val, .int .i64 t'.toBr.at_, .slice ka t'.toBr.kids.length kc] ∧ Brs (fun x => x < w.heap.size) w (.slice ka t'.toBr.kids.length kc) t'.toBr.kids ∧ Rise m t' ∧ TrOK t' ∧ leadL h t' = leadL h t ∧ Below w.heap.size w wr) (fun wr => 256 - atCell2 w.heap.size wr)
 case atStart => exact ⟨0, t, sa, cap, uh X1, uh HKB, uh HRI, uh HOK, rfl, uh B1⟩
 case round =>
  clear HKB HRI HOK B1 X1
  obtain ⟨m, t', ka, kc, hX, hKB, hRI, hOK, hL, hbw⟩ := hrel
  obtain ⟨_, _, _, _, hkm⟩ := hKB.shape
  have HLF := Hd (fun wx => l07Leaf_any t'.toBr.key t'.toBr.val t'.toBr.at_ ka t'.toBr.kids.length kc wx (by unfold maxLen at hkm ⊢; have := hKB.shape; omega))
  have HX := Hd hX
  have x0 := hX.cell 0 rfl
  have x1 := hX.cell 1 rfl
  have x2 := hX.cell 2 rfl
  have x3 := hX.cell 3 rfl
  have HBW := Hd hbw
  have HL := Hd hL
  have HA := Hd (atCell2_is (X := w.heap.size) (w := wr) (a := t'.at_) (by rw [x2, toBr_at]))
  clear hX hbw hL
  cases t' with
  | leaf k v =>
   rw [show decide ((Tr.leaf k v).toBr.kids.length = 0) = true from rfl] at HLF
   dsimp only [Tr.toBr, Br.key, Br.val, Br.at_, Br.kids, List.length_nil] at HLF x0 x1 x2 x3 HX hKB
   have HLL : Hid (kh k = kh (leadL h t).1) := Hd (by rw [← uh HL]; rfl)
   have hk24 := (okK_iff.1 hOK.1).2
   have HHS := Hd (fun wx => l07Hash_any k wx (by omega))
   go_wp2_with fail
   refine (uh HLF wr).mono ?_
   rintro e w4 ⟨rfl, hb4⟩
   have B4 := hbt HBW hb4
   have X4 := Hd ((uh HX).below hb4)
   clear hb4 x0 x1 x2 x3 HX HBW
   have x0 := (uh X4).cell 0 rfl
   go_wp2_with fail
   refine (uh HHS w4).mono ?_
   rintro e w5 ⟨rfl, hb5⟩
   have B5 := hbt B4 hb5
   clear hb5
   generalize kh k = q at *
   go_wp2_with fail
   go_ret
   exact uh HGR _ _ (uh B5) (uh HLL)
  | fork a hv l r =>
   rw [show decide ((Tr.fork a hv l r).toBr.kids.length = 0) = false from rfl] at HLF
   dsimp only [Tr.toBr, Br.key, Br.val, Br.at_, Br.kids] at HLF x0 x1 x2 x3 HX hKB
   rw [show ([l.toBr, r.toBr] : List Br).length = 2 from rfl] at HLF x3 HX hKB
   obtain ⟨r0, r1, r2, r3⟩ := hRI
   obtain ⟨_, _, okl, okr⟩ := hOK
   obtain ⟨bb, off, kvf, rfl, _, hat⟩ := hKB.at (by simp)
   have hbb := hat.lt
   obtain ⟨s00, s01, s02, s03⟩ := hat.cells 0 (by simp)
   obtain ⟨s10, s11, s12, s13⟩ := hat.cells 1 (by simp)
   have K0 := Hd (hat.kids 0 (by simp))
   have K1 := Hd (hat.kids 1 (by simp))
   simp only [List.getD_cons_zero, List.getD_cons_succ, Nat.zero_mul, Nat.add_zero, Nat.one_mul] at s00 s01 s02 s03 s10 s11 s12 s13 K0 K1
   obtain ⟨ka0, kc0, hkv0, _, _⟩ := (uh K0).shape
   obtain ⟨ka1, kc1, hkv1, _, _⟩ := (uh K1).shape
   rw [hkv0] at K0 s03
   rw [hkv1] at K1 s13
   have HLE : Hid (leadL h (.fork a hv l r) = if bitN h a = 0 then leadL h l else leadL h r) := rfl
   have HBT := Hd (fun wx => l07Bit_any h a wx hh r1)
   have hA : Hid (atCell2 w.heap.size wr = a) := HA
   clear hKB hat hkv0 hkv1 HA
   go_wp2_with fail
   refine (uh HLF wr).mono ?_
   rintro e w4 ⟨rfl, hb4⟩
   have B4 := hbt HBW hb4
   have X4 := Hd ((uh HX).below hb4)
   clear hb4 x0 x1 x2 x3 HX HBW
   have x0 := (uh X4).cell 0 rfl
   have x1 := (uh X4).cell 1 rfl
   have x2 := (uh X4).cell 2 rfl
   have x3 := (uh X4).cell 3 rfl
   have f0 := (uh X4).fro 0
   have f1 := (uh X4).fro 1
   have f2 := (uh X4).fro 2
   have f3 := (uh X4).fro 3
   have B4d := uh B4
   have t00 := (B4d.cell (p := ⟨bb, off, none⟩) hbb).trans s00
   have t01 := (B4d.cell (p := ⟨bb, off + 1, none⟩) hbb).trans s01
   have t02 := (B4d.cell (p := ⟨bb, off + 2, none⟩) hbb).trans s02
   have t03 := (B4d.cell (p := ⟨bb, off + 3, none⟩) hbb).trans s03
   have t10 := (B4d.cell (p := ⟨bb, off + 4, none⟩) hbb).trans s10
   have t11 := (B4d.cell (p := ⟨bb, off + 4 + 1, none⟩) hbb).trans s11
   have t12 := (B4d.cell (p := ⟨bb, off + 4 + 2, none⟩) hbb).trans s12
   have t13 := (B4d.cell (p := ⟨bb, off + 4 + 3, none⟩) hbb).trans s13
   clear s00 s01 s02 s03 s10 s11 s12 s13 B4d
   rcases bitN_01 h a with hb | hb
   ·rw [hb] at HBT HLE
    rw [if_pos rfl] at HLE
    have XN : Hid (Blk ((((w4.setCell ⟨w.heap.size, 0, none⟩ (.string l.toBr.key)).setCell ⟨w.heap.size, 1, none⟩ (.string l.toBr.val)).setCell ⟨w.heap.size, 2, none⟩ (.int .i64 l.toBr.at_)).setCell ⟨w.heap.size, 3, none⟩ (.slice ka0 l.toBr.kids.length kc0)).drew w.heap.size [.string l.toBr.key, .string l.toBr.val, .int .i64 l.toBr.at_, .slice ka0 l.toBr.kids.length kc0]) := Hd ((((((uh X4).set 0 (.string l.toBr.key) (by simp)).set 1 (.string l.toBr.val) (by simp)).set 2 (.int .i64 l.toBr.at_) (by simp)).set 3 (.slice ka0 l.toBr.kids.length kc0) (by simp)).drewN 1)
    have BN : Hid (Below w.heap.size w ((((w4.setCell ⟨w.heap.size, 0, none⟩ (.string l.toBr.key)).setCell ⟨w.heap.size, 1, none⟩ (.string l.toBr.val)).setCell ⟨w.heap.size, 2, none⟩ (.int .i64 l.toBr.at_)).setCell ⟨w.heap.size, 3, none⟩ (.slice ka0 l.toBr.kids.length kc0)).drew) := Hd (((((uh B4).setCell (p := ⟨w.heap.size, 0, none⟩) (Nat.le_refl _) (.string l.toBr.key)).setCell (p := ⟨w.heap.size, 1, none⟩) (Nat.le_refl _) (.string l.toBr.val)).setCell (p := ⟨w.heap.size, 2, none⟩) (Nat.le_refl _) (.int .i64 l.toBr.at_)).setCell (p := ⟨w.heap.size, 3, none⟩) (Nat.le_refl _) (.slice ka0 l.toBr.kids.length kc0)).drew
    go_wp2_with fail
    go_region_law ((go_simp; go_at_call 95; refine (uh HBT _).mono ?_; rintro e w9 ⟨rfl, hw9⟩; subst w9; go_simp))
    all_goals
     generalize ((((w4.setCell ⟨w.heap.size, 0, none⟩ (.string l.toBr.key)).setCell ⟨w.heap.size, 1, none⟩ (.string l.toBr.val)).setCell ⟨w.heap.size, 2, none⟩ (.int .i64 l.toBr.at_)).setCell ⟨w.heap.size, 3, none⟩ (.slice ka0 l.toBr.kids.length kc0)).drew = w5 at *
     clear x0 x1 x2 x3 f0 f1 f2 f3 t00 t01 t02 t03 t10 t11 t12 t13
     go_wp2_with fail
     have hat := atCell2_is (X := w.heap.size) (w := w5) (a := l.at_) (by rw [(uh XN).cell 2 rfl, toBr_at])
     have hle := r2.le
     have hle2 := r2.le256
     refine ⟨⟨a + 1, l, ka0, kc0, uh XN, uh K0, r2, okl, by rw [← uh HL, uh HLE], uh BN⟩, ?_⟩
     rw [hat, uh hA]
     omega
   ·rw [hb] at HBT HLE
    rw [if_neg (by omega)] at HLE
    have XN : Hid (Blk ((((w4.setCell ⟨w.heap.size, 0, none⟩ (.string r.toBr.key)).setCell ⟨w.heap.size, 1, none⟩ (.string r.toBr.val)).setCell ⟨w.heap.size, 2, none⟩ (.int .i64 r.toBr.at_)).setCell ⟨w.heap.size, 3, none⟩ (.slice ka1 r.toBr.kids.length kc1)).drew w.heap.size [.string r.toBr.key, .string r.toBr.val, .int .i64 r.toBr.at_, .slice ka1 r.toBr.kids.length kc1]) := Hd ((((((uh X4).set 0 (.string r.toBr.key) (by simp)).set 1 (.string r.toBr.val) (by simp)).set 2 (.int .i64 r.toBr.at_) (by simp)).set 3 (.slice ka1 r.toBr.kids.length kc1) (by simp)).drewN 1)
    have BN : Hid (Below w.heap.size w ((((w4.setCell ⟨w.heap.size, 0, none⟩ (.string r.toBr.key)).setCell ⟨w.heap.size, 1, none⟩ (.string r.toBr.val)).setCell ⟨w.heap.size, 2, none⟩ (.int .i64 r.toBr.at_)).setCell ⟨w.heap.size, 3, none⟩ (.slice ka1 r.toBr.kids.length kc1)).drew) := Hd (((((uh B4).setCell (p := ⟨w.heap.size, 0, none⟩) (Nat.le_refl _) (.string r.toBr.key)).setCell (p := ⟨w.heap.size, 1, none⟩) (Nat.le_refl _) (.string r.toBr.val)).setCell (p := ⟨w.heap.size, 2, none⟩) (Nat.le_refl _) (.int .i64 r.toBr.at_)).setCell (p := ⟨w.heap.size, 3, none⟩) (Nat.le_refl _) (.slice ka1 r.toBr.kids.length kc1)).drew
    go_wp2_with fail
    go_region_law ((go_simp; go_at_call 95; refine (uh HBT _).mono ?_; rintro e w9 ⟨rfl, hw9⟩; subst w9; go_simp))
    all_goals
     generalize ((((w4.setCell ⟨w.heap.size, 0, none⟩ (.string r.toBr.key)).setCell ⟨w.heap.size, 1, none⟩ (.string r.toBr.val)).setCell ⟨w.heap.size, 2, none⟩ (.int .i64 r.toBr.at_)).setCell ⟨w.heap.size, 3, none⟩ (.slice ka1 r.toBr.kids.length kc1)).drew = w5 at *
     clear x0 x1 x2 x3 f0 f1 f2 f3 t00 t01 t02 t03 t10 t11 t12 t13
     go_wp2_with fail
     have hat := atCell2_is (X := w.heap.size) (w := w5) (a := r.at_) (by rw [(uh XN).cell 2 rfl, toBr_at])
     have hle := r3.le
     have hle2 := r3.le256
     refine ⟨⟨a + 1, r, ka1, kc1, uh XN, uh K1, r3, okr, by rw [← uh HL, uh HLE], uh BN⟩, ?_⟩
     rw [hat, uh hA]
     omega
theorem l07Differ_any (x y : ByteArray) (w : World) (hx : x.size = 32) (hy : y.size = 32) :
  Calls Tryz.prog 98 #[.string x, .string y] w fun e w' => e = .returned (.int .i64 (fd x y)) ∧ w' = w := by
 have HF : Hid (fd x y = fdF x y 256 0) := rfl
 have HX := Hd (fun i (hi : i < 256) => l07Bit_any x i w hx hi)
 have HY := Hd (fun i (hi : i < 256) => l07Bit_any y i w hy hi)
 go_enter Tryz.func98, Tryz.ntmps98
 go_wp2_with fail
 go_loop [5] (fun i => ∃ k : Nat, k ≤ 256 ∧ i = .int .i64 k ∧ fdF x y (256 - k) k = fd x y) (fun i => 256 - (intOf i).toNat)
 case atStart => exact ⟨0, Nat.zero_le _, rfl, rfl⟩
 case round =>
  obtain ⟨k, hk, rfl, hfd⟩ := hrel
  by_cases hlt : k < 256
  ·have p1 : (k : Int) < 256 := by omega
   have HXk := Hd (uh HX k hlt)
   have HYk := Hd (uh HY k hlt)
   have HD : Hid (fd x y = if bitN x k = bitN y k then fdF x y (256 - (k + 1)) (k + 1) else k) := Hd (by
    rw [← hfd, show 256 - k = (256 - (k + 1)) + 1 by omega]
    rfl)
   clear hfd
   have hx1 := bitN_01 x k
   have hy1 := bitN_01 y k
   by_cases he : bitN x k = bitN y k
   ·rw [if_pos he] at HD
    rw [he] at HXk
    generalize bitN y k = q at *
    clear he
    go_wp2_with fail
    refine (uh HXk).mono ?_
    rintro e w9 ⟨rfl, hw9⟩
    subst w9
    go_wp2_with fail
    refine (uh HYk).mono ?_
    rintro e w9 ⟨rfl, hw9⟩
    subst w9
    go_wp2_with fail
    go_round
    case rel => exact ⟨k + 1, by omega, by go_num, (uh HD).symm⟩
    case measure => simp [intOf]; omega
   ·rw [if_neg he] at HD
    generalize bitN x k = q1 at *
    generalize bitN y k = q2 at *
    have hne : (q1 != q2) = true := by simpa using he
    go_wp2_with fail
    refine (uh HXk).mono ?_
    rintro e w9 ⟨rfl, hw9⟩
    subst w9
    go_wp2_with fail
    refine (uh HYk).mono ?_
    rintro e w9 ⟨rfl, hw9⟩
    subst w9
    go_wp2_with fail
    go_ret
    exact ⟨by rw [uh HD]; rfl, rfl⟩
  ·obtain rfl : k = 256 := by omega
   have HD : Hid (fd x y = 256) := Hd hfd.symm
   clear hfd
   go_wp2_with fail
   go_ret
   exact ⟨by rw [uh HD]; rfl, rfl⟩
theorem l07New_any (k v : ByteArray) (w : World) :
  Calls Tryz.prog 97 #[.string k, .string v] w fun e w' => e = .returned (.agg #[.string k, .string v, .int .i64 256, .slice none 0 0]) ∧ Below w.heap.size w w' := by
 have R1 := Hd (Blk.new w #[.string ⟨#[]⟩, .string ⟨#[]⟩, .int .i64 0, .slice none 0 0] 30 w.heap.size rfl)
 have B1 := Hd (bal w (.cells #[.string ⟨#[]⟩, .string ⟨#[]⟩, .int .i64 0, .slice none 0 0] 30))
 go_enter Tryz.func97, Tryz.ntmps97
 go_upto_region 1 with fail
 generalize w.alloc (.cells #[.string ⟨#[]⟩, .string ⟨#[]⟩, .int .i64 0, .slice none 0 0] 30) = w1 at *
 have r0 := (uh R1).cell 0 rfl
 have r1 := (uh R1).cell 1 rfl
 have r2 := (uh R1).cell 2 rfl
 have r3 := (uh R1).cell 3 rfl
 have f0 := (uh R1).fro 0
 have f1 := (uh R1).fro 1
 have f2 := (uh R1).fro 2
 have f3 := (uh R1).fro 3
 have hZ := set4_blk (uh R1) (.string k) (.string v) (.int .i64 256) (.slice none 0 0)
 have z0 := hZ.cell 0 rfl
 have z1 := hZ.cell 1 rfl
 have z2 := hZ.cell 2 rfl
 have z3 := hZ.cell 3 rfl
 have HT4 := set4_touch w1 w.heap.size (.string k) (.string v) (.int .i64 256) (.slice none 0 0)
 have HBF := Hd ((uh B1).trans (HT4.below (uh B1).size (fun q hq e => by omega)))
 unfold set4 at z0 z1 z2 z3
 clear hZ HT4
 go_wp2_with fail
 refine bodyPost_ret (v := .agg #[.string k, .string v, .int .i64 256, .slice none 0 0]) (by simp [results, Tryz.results97, go_sem, z0, z1, z2, z3]) rfl ?_
 exact ⟨rfl, uh HBF⟩
theorem wrapS (n : Int) (h0 : 0 ≤ n) (h1 : n < 9223372036854775808) : IntKind.i64.wrap n = n := by
 simp only [IntKind.wrap, IntKind.bits, IntKind.signed]
 simp
 omega
theorem l07Size_any : ∀ (t : Tr), TrOK t → t.lvN ≤ 1000 → ∀ (S : Nat → Prop) (kv : Value) (w : World), Brs S w kv t.toBr.kids →
  Calls Tryz.prog 79 #[.agg #[.string t.toBr.key, .string t.toBr.val, .int .i64 t.toBr.at_, kv]] w fun e w' => e = .returned (.int .i64 t.lvN) ∧ Below w.heap.size w w' := by
 intro t
 induction t with
 | leaf k v =>
  intro hok hsz S kv w hB
  obtain ⟨sa, cap, rfl, _, hcm⟩ := hB.shape
  have HNE := not_empty hok
  have hk := (okK_iff.1 hok.1).2
  have hv : v.size ≤ 60 := hok.2
  dsimp only [Tr.toBr, Br.key, Br.val, Br.at_, Br.kids] at HNE ⊢
  have B0 := Hd (bal w (.cells #[.string k, .string v, .int .i64 256, .slice sa 0 cap] 30))
  have X0 := Hd (Blk.new w #[.string k, .string v, .int .i64 256, .slice sa 0 cap] 30 w.heap.size rfl)
  have HE := Hd (fun wx => l07Empty_any k v 256 [] sa cap wx (by simp))
  have HLF := Hd (fun wx => l07Leaf_any k v 256 sa 0 cap wx (by omega))
  rw [HNE] at HE
  simp only [List.length_nil] at HE
  rw [show decide (0 = 0) = true from rfl] at HLF
  have HV : Hid ((Tr.leaf k v).lvN = 1) := rfl
  clear hB hok HNE
  go_enter Tryz.func79, Tryz.ntmps79
  go_wp2_with fail
  generalize w.alloc (.cells #[.string k, .string v, .int .i64 256, .slice sa 0 cap] 30) = w1 at *
  refine (uh HE w1).mono ?_
  rintro e w2 ⟨rfl, hb2⟩
  have B2 := hbt B0 hb2
  have X2 := Hd ((uh X0).below hb2)
  clear hb2
  have x0 := (uh X2).cell 0 rfl
  have x1 := (uh X2).cell 1 rfl
  have x2 := (uh X2).cell 2 rfl
  have x3 := (uh X2).cell 3 rfl
  go_wp2_with fail
  refine (uh HLF w2).mono ?_
  rintro e w3 ⟨rfl, hb3⟩
  have B3 := hbt B2 hb3
  have X3 := Hd ((uh X2).below hb3)
  clear hb3 x0 x1 x2 x3
  have x0 := (uh X3).cell 0 rfl
  have x1 := (uh X3).cell 1 rfl
  go_wp2_with fail
  go_ret
  exact ⟨ret_int (by rw [uh HV]; rfl), uh B3⟩
 | fork a hh l r ihl ihr =>
  intro hok hsz S kv w hB
  obtain ⟨sa, cap, rfl, _, hcm⟩ := hB.shape
  have HNE := not_empty hok
  obtain ⟨ha, _, okl, okr⟩ := hok
  dsimp only [Tr.toBr, Br.key, Br.val, Br.at_, Br.kids] at HNE hB ⊢
  have B0 := Hd (bal w (.cells #[.string ⟨#[]⟩, .string ⟨#[]⟩, .int .i64 a, .slice sa 2 cap] 30))
  have X0 := Hd (Blk.new w #[.string ⟨#[]⟩, .string ⟨#[]⟩, .int .i64 a, .slice sa 2 cap] 30 w.heap.size rfl)
  have HE := Hd (fun wx => l07Empty_any ⟨#[]⟩ ⟨#[]⟩ a [l.toBr, r.toBr] sa cap wx (by unfold maxLen; simp))
  have HLF := Hd (fun wx => l07Leaf_any ⟨#[]⟩ ⟨#[]⟩ a sa 2 cap wx (by unfold maxLen; omega))
  rw [HNE] at HE
  rw [show decide (2 = 0) = false from rfl] at HLF
  obtain ⟨bb, off, kvf, rfl, _, hat⟩ := hB.at (by simp)
  have hbb := hat.lt
  obtain ⟨s00, s01, s02, s03⟩ := hat.cells 0 (by simp)
  obtain ⟨s10, s11, s12, s13⟩ := hat.cells 1 (by simp)
  have K0 := Hd (hat.kids 0 (by simp))
  have K1 := Hd (hat.kids 1 (by simp))
  simp only [List.getD_cons_zero, List.getD_cons_succ, Nat.zero_mul, Nat.add_zero, Nat.one_mul] at s00 s01 s02 s03 s10 s11 s12 s13 K0 K1
  obtain ⟨ka0, kc0, hkv0, _, _⟩ := (uh K0).shape
  obtain ⟨ka1, kc1, hkv1, _, _⟩ := (uh K1).shape
  rw [hkv0] at K0 s03
  rw [hkv1] at K1 s13
  have hz2 : l.lvN + r.lvN ≤ 1000 := hsz
  have hz0 : l.lvN ≤ 1000 := by omega
  have hz1 : r.lvN ≤ 1000 := by omega
  have HL := Hd (fun wx (hx : Below w.heap.size w wx) => ihl okl hz0 S _ wx ((uh K0).blw hx))
  have HR := Hd (fun wx (hx : Below w.heap.size w wx) => ihr okr hz1 S _ wx ((uh K1).blw hx))
  have HV : Hid ((Tr.fork a hh l r).lvN = l.lvN + r.lvN) := rfl
  clear hB hat hkv0 hkv1 K0 K1 ihl ihr HNE
  generalize l.toBr = b0 at *
  generalize r.toBr = b1 at *
  generalize l.lvN = rl at *
  generalize r.lvN = rr at *
  simp only [List.length_cons, List.length_nil] at HE
  go_enter Tryz.func79, Tryz.ntmps79
  go_wp2_with fail
  generalize w.alloc (.cells #[.string ⟨#[]⟩, .string ⟨#[]⟩, .int .i64 a, .slice (some ⟨bb, off, none⟩) 2 cap] 30) = w1 at *
  refine (uh HE w1).mono ?_
  rintro e w2 ⟨rfl, hb2⟩
  have B2 := hbt B0 hb2
  have X2 := Hd ((uh X0).below hb2)
  clear hb2
  have x0 := (uh X2).cell 0 rfl
  have x1 := (uh X2).cell 1 rfl
  have x2 := (uh X2).cell 2 rfl
  have x3 := (uh X2).cell 3 rfl
  go_wp2_with fail
  refine (uh HLF w2).mono ?_
  rintro e w3 ⟨rfl, hb3⟩
  have B3 := hbt B2 hb3
  have X3 := Hd ((uh X2).below hb3)
  clear hb3 x0 x1 x2 x3
  have hX := (uh X3).1
  have hw3 := (uh B3).size
  have HSX : Hid (∀ wx, Below w3.heap.size w3 wx → wx.cell? ⟨w.heap.size, 3, none⟩ = some (.slice (some ⟨bb, off, none⟩) 2 cap) ∧ wx.cell? ⟨bb, off, none⟩ = some (.string b0.key) ∧ wx.cell? ⟨bb, off + 1, none⟩ = some (.string b0.val) ∧ wx.cell? ⟨bb, off + 2, none⟩ = some (.int .i64 b0.at_) ∧ wx.cell? ⟨bb, off + 3, none⟩ = some (.slice ka0 b0.kids.length kc0) ∧ wx.cell? ⟨bb, off + 4, none⟩ = some (.string b1.key) ∧ wx.cell? ⟨bb, off + 4 + 1, none⟩ = some (.string b1.val) ∧ wx.cell? ⟨bb, off + 4 + 2, none⟩ = some (.int .i64 b1.at_) ∧ wx.cell? ⟨bb, off + 4 + 3, none⟩ = some (.slice ka1 b1.kids.length kc1)) := Hd (fun wx hb => by
   have hb' := (uh B3).trans (hb.mono hw3)
   have X := (uh X3).below hb
   exact ⟨X.cell 3 rfl, (hb'.cell (p := ⟨bb, off, none⟩) hbb).trans s00, (hb'.cell (p := ⟨bb, off + 1, none⟩) hbb).trans s01, (hb'.cell (p := ⟨bb, off + 2, none⟩) hbb).trans s02, (hb'.cell (p := ⟨bb, off + 3, none⟩) hbb).trans s03, (hb'.cell (p := ⟨bb, off + 4, none⟩) hbb).trans s10, (hb'.cell (p := ⟨bb, off + 4 + 1, none⟩) hbb).trans s11, (hb'.cell (p := ⟨bb, off + 4 + 2, none⟩) hbb).trans s12, (hb'.cell (p := ⟨bb, off + 4 + 3, none⟩) hbb).trans s13⟩)
  obtain ⟨y3, t00, t01, t02, t03, t10, t11, t12, t13⟩ := uh HSX w3 (Below.refl _ _)
  clear s00 s01 s02 s03 s10 s11 s12 s13
  go_wp2_with fail
  go_region_held3 (fun wx => wx.cell? ⟨w.heap.size, 3, none⟩ = some (.slice (some ⟨bb, off, none⟩) 2 cap) ∧ wx.cell? ⟨bb, off, none⟩ = some (.string b0.key) ∧ wx.cell? ⟨bb, off + 1, none⟩ = some (.string b0.val) ∧ wx.cell? ⟨bb, off + 2, none⟩ = some (.int .i64 b0.at_) ∧ wx.cell? ⟨bb, off + 3, none⟩ = some (.slice ka0 b0.kids.length kc0) ∧ wx.cell? ⟨bb, off + 4, none⟩ = some (.string b1.key) ∧ wx.cell? ⟨bb, off + 4 + 1, none⟩ = some (.string b1.val) ∧ wx.cell? ⟨bb, off + 4 + 2, none⟩ = some (.int .i64 b1.at_) ∧ wx.cell? ⟨bb, off + 4 + 3, none⟩ = some (.slice ka1 b1.kids.length kc1)) (first | go_keep | exact uh HSX _ hc2 | exact uh HSX _ hc1) (first
   | (go_at_call 79; refine (uh HR _ ((uh B3).trans (hc1.mono hw3))).mono ?_; rintro e w5 ⟨rfl, hb5⟩; have hc2 := hc1.trans (hb5.mono hc1.size))
   | (go_at_call 79; refine (uh HL _ ((uh B3).trans (((Below.refl _ w3).drew).mono hw3))).mono ?_; rintro e w4 ⟨rfl, hb4⟩; have hc1 : Below w3.heap.size w3 w4 := ((Below.refl _ w3).drew).trans hb4))
  have K := Hd ((uh B3).trans (hc2.mono hw3))
  clear hb4 hb5 hc1 hc2 y3 t00 t01 t02 t03 t10 t11 t12 t13
  go_wp2_with fail
  go_ret
  refine ⟨ret_int ?_, uh K⟩
  rw [uh HV, wrapS _ (by omega) (by omega)]
  omega
theorem mtxR_size : ∀ (n k : Nat), k ≤ n → ∀ out : ByteArray, (mtxR k out).size ≤ out.size + k := by
 intro n
 induction n with
 | zero =>
  intro k hk out
  obtain rfl : k = 0 := by omega
  rw [mtxR, dif_pos rfl]; omega
 | succ n ih =>
  intro k hk out
  by_cases h : k = 0
  ·rw [mtxR, dif_pos h]; omega
  ·rw [mtxR, dif_neg h]
   have := ih (k / 10) (by omega) (strOfNums [48 + ((k % 10 : Nat) : Int)] ++ out)
   rw [ByteArray.size_append, strOfNums_size, List.length_cons, List.length_nil] at this
   omega
theorem mtx_size (k : Nat) : (mtx k).size ≤ 1 + k := by
 unfold mtx
 rw [ByteArray.size_append, strOfNums_size]
 have := mtxR_size k k (Nat.le_refl _) (strOfNums [])
 rw [strOfNums_size] at this
 simp at this ⊢
 omega
mutual
def Br.cnt : Br → Nat
 | .mk _ _ _ l => 1 + cntL l
def cntL : List Br → Nat
 | [] => 0
 | b :: r => Br.cnt b + cntL r
end
mutual
def markB (k : Nat) : Br → Br
 | .mk _ _ _ l => .mk (mtx k) (mtx (k + 1)) ((k + 2 : Nat) : Int) (markL (k + 3) l)
def markL (k : Nat) : List Br → List Br
 | [] => []
 | b :: r => markB k b :: markL (k + 3 * Br.cnt b) r
end
theorem cntL_cons (b : Br) (r : List Br) : cntL (b :: r) = b.cnt + cntL r := by conv => lhs; unfold cntL
theorem Br.cnt_eq (b : Br) : b.cnt = 1 + cntL b.kids := by cases b; unfold Br.cnt; rfl
theorem markB_key (k : Nat) (b : Br) : (markB k b).key = mtx k ∧ (markB k b).val = mtx (k + 1) ∧ (markB k b).at_ = ((k + 2 : Nat) : Int) ∧ (markB k b).kids = markL (k + 3) b.kids := by
 cases b; unfold markB; exact ⟨rfl, rfl, rfl, rfl⟩
theorem markL_len : ∀ (k : Nat) (l : List Br), (markL k l).length = l.length
 | k, [] => by unfold markL; rfl
 | k, b :: r => by unfold markL; simp [markL_len _ r]
theorem markL_get : ∀ (l : List Br) (k i : Nat), i < l.length → (markL k l).getD i default = markB (k + 3 * cntL (l.take i)) (l.getD i default)
 | [], k, i, h => by simp at h
 | b :: r, k, 0, h => by unfold markL; simp [cntL]
 | b :: r, k, i + 1, h => by
  have := markL_get r (k + 3 * b.cnt) i (by simpa using h)
  unfold markL
  simp only [List.getD_cons_succ, List.take_succ_cons]
  rw [this, cntL_cons]
  congr 1
  omega
theorem cnt_take : ∀ (l : List Br) (i : Nat), i < l.length → cntL (l.take (i + 1)) = cntL (l.take i) + (l.getD i default).cnt
 | [], i, h => by simp at h
 | b :: r, 0, h => by simp [cntL]
 | b :: r, i + 1, h => by
  have := cnt_take r i (by simpa using h)
  simp only [List.take_succ_cons, List.getD_cons_succ]
  rw [cntL_cons, cntL_cons, this]
  omega
theorem cnt_take_le : ∀ (l : List Br) (i : Nat), cntL (l.take i) ≤ cntL l
 | [], i => by simp
 | b :: r, 0 => by simp [cntL]
 | b :: r, i + 1 => by
  have := cnt_take_le r i
  simp only [List.take_succ_cons]
  rw [cntL_cons, cntL_cons]
  omega
theorem markBranchS_any {S : Nat → Prop} {w0 : World} {v : Value} {l : List Br} (h : BrO w0 S v l) : ∀ (w : World) (T : Nat → Prop) (k : Nat), Touch T w0 w → (∀ b, S b → ¬ T b) → 0 < k → k + 3 * cntL l ≤ 8388608 →
  Calls Tryz.prog 57 #[v, .int .i64 k] w fun e w' => e = .returned (.int .i64 ((k + 3 * cntL l : Nat) : Int)) ∧ BrO w' S v (markL k l) ∧ Touch S w w' := by
 induction h with
 | nil S a cap hc =>
  intro w T k ht hn hk0 hk1
  have HO : Hid (BrO w S (.slice a 0 cap) (markL k [])) := Hd (by unfold markL; exact .nil S a cap hc)
  have hcz : k + 3 * cntL [] = k := by unfold cntL; omega
  rw [hcz]
  clear ht hn hc hcz
  go_enter Tryz.func57, Tryz.ntmps57
  go_wp2_with fail
  go_loopw [1, 5] (fun kk i wr => kk = .int .i64 k ∧ i = .int .i64 0 ∧ wr = w) (fun _ i _ => 0)
  case atStart => exact ⟨rfl, rfl, rfl⟩
  case round =>
   obtain ⟨rfl, rfl, rfl⟩ := hrel
   go_wp2_with fail
   go_ret
   exact ⟨rfl, uh HO, Touch.refl _ _⟩
 | row S g cap l kv xs Si h0 h1 h2 h3 h4 h5 h6 h7 ih =>
  intro w T k ht hn hk0 hk1
  have O0 := Hd (own_kept h2 ht (fun q hq => by cases hq; exact hn g h1))
  have HK0 := Hd (fun i (hi : i < l.length) => (h7 i hi).touch ht (fun q hq => hn q (h5 i q hi hq).1))
  have HIH := Hd ih
  have HT0 := Hd (And.intro ht hn)
  have HS5 := Hd h5
  have HS6 := Hd h6
  have HR := Hd h3
  have HG := Hd h1
  have hlm : l.length ≤ cap ∧ cap ≤ maxLen := by
   rcases h2.2 with ⟨hx, _⟩ | ⟨g', cap', cur, hv, _, _, hn', hm', _⟩
   ·cases hx
   ·simp only [Value.slice.injEq] at hv; obtain ⟨_, _, rfl⟩ := hv; exact ⟨hn', hm'⟩
  have hlm2 : l.length ≤ 9223372036854775807 := by obtain ⟨h1, h2⟩ := hlm; unfold maxLen at h2; omega
  clear ht hn h2 h3 h7 ih h5 h6 h1 h4
  go_enter Tryz.func57, Tryz.ntmps57
  go_wp2_with fail
  go_loopw [1, 5] (fun kk i wr => ∃ (j : Nat) (ys : List Value), j ≤ l.length ∧ kk = .int .i64 ((k + 3 * cntL (l.take j) : Nat) : Int) ∧ i = .int .i64 j ∧ wr.ownsRow 0 30 4 (.slice (some ⟨g, 0, none⟩) l.length cap) l.length ys ∧ RowIs ys (markL k l) kv j ∧ (∀ q, q < l.length → ys[q * 4 + 3]? = some (kv q)) ∧ (∀ q, q < l.length → BrO wr (Si q) (kv q) (if q < j then (markL k l).getD q default else l.getD q default).kids) ∧ Touch (fun b => b = g ∨ ∃ q, q < j ∧ Si q b) w wr) (fun _ i _ => l.length - (intOf i).toNat)
  case atStart => exact ⟨0, xs, Nat.zero_le _, by simp [cntL], rfl, uh O0, fun i hi => by omega, fun q hq => (uh HR q hq).2.2.2, fun q hq => by rw [if_neg (by omega)]; exact uh HK0 q hq, Touch.refl _ _⟩
  case round =>
   obtain ⟨j, ys, hj, rfl, rfl, hO, hRI, hKV, hKD, hTS⟩ := hrel
   by_cases hlt : j < l.length
   ·have hct := cnt_take l j hlt
    have hctl := cnt_take_le l (j + 1)
    have hcn := Br.cnt_eq (l.getD j default)
    obtain ⟨q, hq⟩ : ∃ q, q = k + 3 * cntL (l.take j) := ⟨_, rfl⟩
    rw [← hq]
    have hq0 : 0 < q := by omega
    have hq1 : q + 3 ≤ 8388608 := by omega
    have HMG := Hd (markL_get l k j hlt)
    rw [← hq] at HMG
    have p0 : (0 : Int) ≤ (j : Int) := by omega
    have p1 : (j : Int) < (l.length : Int) := by omega
    have hyl : ys.length = l.length * 4 := hO.1
    obtain ⟨o0, u0⟩ := get_some hyl (show j * 4 < l.length * 4 by omega)
    obtain ⟨o1, u1⟩ := get_some hyl (show j * 4 + 1 < l.length * 4 by omega)
    obtain ⟨o2, u2⟩ := get_some hyl (show j * 4 + 2 < l.length * 4 by omega)
    have u3 := hKV j hlt
    have HO := Hd hO
    have HX := Hd (And.intro hRI (And.intro hKV (And.intro hKD hTS)))
    have HYL := Hd hyl
    have HU := Hd (And.intro u0 (And.intro u1 (And.intro u2 u3)))
    have HQ := Hd (And.intro hq (And.intro hct (And.intro hctl hcn)))
    clear hO hRI hKV hKD hTS hyl u0 u1 u2 u3 hq hct hctl hcn
    go_wp2_with fail
    refine (markText_int _ q (by omega) wr (by omega) (by omega)).mono ?_
    rintro e w1 ⟨rfl, hb1⟩
    have O1 := own_kept (T := fun _ => False) (uh HO) (Touch.ofBelow hb1) (fun _ _ h => h)
    have c0 := (O1.cellAt (j * 4) (by omega)).trans (uh HU).1
    have f0 := O1.frozenAt (j * 4)
    have O2 := Hd (O1.stored (j * 4) (.string (mtx q))).1
    have T2 := Hd ((Touch.ofBelow (T := fun b => b = g) hb1).setCell ⟨g, j * 4, none⟩ (.string (mtx q)) (fun _ => rfl))
    have w1a : IntKind.i64.wrap ((q : Int) + 1) = ((q + 1 : Nat) : Int) := by simp only [IntKind.wrap, IntKind.bits, IntKind.signed]; simp; omega
    have w2a : IntKind.i64.wrap (((q + 1 : Nat) : Int) + 1) = ((q + 2 : Nat) : Int) := by simp only [IntKind.wrap, IntKind.bits, IntKind.signed]; simp; omega
    have w3a : IntKind.i64.wrap (((q + 2 : Nat) : Int) + 1) = ((q + 3 : Nat) : Int) := by simp only [IntKind.wrap, IntKind.bits, IntKind.signed]; simp; omega
    clear hb1 O1
    generalize hq1n : q + 1 = qa at *
    generalize hq2n : q + 2 = qb at *
    generalize hq3n : q + 3 = qc at *
    have HQN := Hd (And.intro hq1n (And.intro hq2n hq3n))
    clear hq1n hq2n hq3n
    obtain ⟨m0, hm0⟩ : ∃ m0, m0 = mtx q := ⟨_, rfl⟩
    rw [← hm0] at O2 T2 ⊢
    have HM0 := Hd hm0
    clear hm0
    go_wp2_with fail
    clear c0 f0
    generalize w1.setCell ⟨g, j * 4, none⟩ (.string m0) = w2 at *
    refine (markText_int _ qa (by omega) w2 (by have := (uh HQN).1; omega) (by have := (uh HQN).1; have := (uh HQN).2.2; omega)).mono ?_
    rintro e w3 ⟨rfl, hb3⟩
    have O3 := own_kept (T := fun _ => False) (uh O2) (Touch.ofBelow hb3) (fun _ _ h => h)
    have c1 := (O3.cellAt (j * 4 + 1) (by omega)).trans ((List.getElem?_set_ne (by omega)).trans (uh HU).2.1)
    have f1 := O3.frozenAt (j * 4 + 1)
    have O4 := Hd (O3.stored (j * 4 + 1) (.string (mtx qa))).1
    have T4 := Hd (((uh T2).trans (Touch.ofBelow (T := fun b => b = g) hb3) (fun _ _ h => h)).setCell ⟨g, j * 4 + 1, none⟩ (.string (mtx qa)) (fun _ => rfl))
    clear hb3 O3 O2 T2
    obtain ⟨m1, hm1⟩ : ∃ m1, m1 = mtx qa := ⟨_, rfl⟩
    rw [← hm1] at O4 T4 ⊢
    have HM1 := Hd hm1
    clear hm1
    have c2 := ((uh O4).cellAt (j * 4 + 2) (by omega)).trans ((List.getElem?_set_ne (by omega)).trans ((List.getElem?_set_ne (by omega)).trans (uh HU).2.2.1))
    have f2 := (uh O4).frozenAt (j * 4 + 2)
    have O5 := Hd ((uh O4).stored (j * 4 + 2) (.int .i64 qb)).1
    have T5 := Hd ((uh T4).setCell ⟨g, j * 4 + 2, none⟩ (.int .i64 qb) (fun _ => rfl))
    have c3 := ((uh O5).cellAt (j * 4 + 3) (by omega)).trans ((List.getElem?_set_ne (by omega)).trans ((List.getElem?_set_ne (by omega)).trans ((List.getElem?_set_ne (by omega)).trans (uh HU).2.2.2)))
    clear O4 T4
    go_wp2_with fail
    clear c1 f1 c2 f2
    generalize (w3.setCell ⟨g, j * 4 + 1, none⟩ (.string m1)).setCell ⟨g, j * 4 + 2, none⟩ (.int .i64 qb) = w5 at *
    have HBIG : Hid (Touch (fun b => T b ∨ b = g ∨ ∃ q, q < j ∧ Si q b) w0 w5) := Hd ((((Touch.refl (fun b => T b ∨ b = g ∨ ∃ q, q < j ∧ Si q b) w0).trans (uh HT0).1 (fun _ _ h => .inl h)).trans (uh HX).2.2.2 (fun _ _ h => .inr h)).trans (uh T5) (fun _ _ h => .inr (.inl h)))
    have HNB : Hid (∀ b, Si j b → ¬ (T b ∨ b = g ∨ ∃ q, q < j ∧ Si q b)) := Hd (fun b hb h => by
     rcases h with h | h | ⟨q', hq', h⟩
     ·exact (uh HT0).2 b (uh HS5 j b hlt hb).1 h
     ·exact (uh HS5 j b hlt hb).2 h
     ·exact uh HS6 q' j b hq' hlt h hb)
    have HKC := Hd (uh HIH j hlt w5 _ qc (uh HBIG) (uh HNB) (by have := (uh HQN).2.2; omega) (by obtain ⟨a1, a2, a3, a4⟩ := uh HQ; have := (uh HQN).2.2; omega))
    refine (uh HKC).mono ?_
    rintro e w6 ⟨rfl, hO6, hT6⟩
    have RR := Hd (And.intro hO6 hT6)
    have O6 := Hd (own_kept (uh O5) hT6 (fun q' hq' h => by cases hq'; exact (uh HS5 j g hlt h).2 rfl))
    clear hO6 hT6 HKC HBIG HNB c3
    have hkk : Hid (qc + 3 * cntL (l.getD j default).kids = k + 3 * cntL (l.take (j + 1))) := Hd (by obtain ⟨a1, a2, a3, a4⟩ := uh HQ; have := (uh HQN).2.2; omega)
    generalize hnx : qc + 3 * cntL (l.getD j default).kids = nx at *
    clear hnx
    go_wp2_with fail
    obtain ⟨a1, a2, a3, a4⟩ := uh HQ
    obtain ⟨b1, b2, b3⟩ := uh HQN
    obtain ⟨x1, x2, x3, x4⟩ := uh HX
    have hmb := markB_key q (l.getD j default)
    refine ⟨⟨j + 1, _, by omega, by rw [uh hkk], by go_num, uh O6, ?_, ?_, ?_, ?_⟩, ?_⟩
    ·intro i hi
     by_cases e : i = j
     ·subst e
      rw [uh HMG, hmb.1, hmb.2.1, hmb.2.2.1]
      refine ⟨?_, ?_, ?_, ?_⟩
      ·rw [List.getElem?_set_ne (by omega), List.getElem?_set_ne (by omega), List.getElem?_set_self (by have := uh HYL; omega)]
       exact congrArg (fun z => some (Value.string z)) (uh HM0)
      ·rw [List.getElem?_set_ne (by omega), List.getElem?_set_self (by have := uh HYL; simp; omega)]
       exact congrArg (fun z => some (Value.string z)) (by rw [uh HM1, ← b1])
      ·rw [List.getElem?_set_self (by have := uh HYL; simp; omega), b2]
      ·rw [List.getElem?_set_ne (by omega), List.getElem?_set_ne (by omega), List.getElem?_set_ne (by omega)]
       exact (uh HU).2.2.2
     ·have hx := x1 i (by omega)
      rw [List.getElem?_set_ne (by omega), List.getElem?_set_ne (by omega), List.getElem?_set_ne (by omega), List.getElem?_set_ne (by omega), List.getElem?_set_ne (by omega), List.getElem?_set_ne (by omega), List.getElem?_set_ne (by omega), List.getElem?_set_ne (by omega), List.getElem?_set_ne (by omega), List.getElem?_set_ne (by omega), List.getElem?_set_ne (by omega), List.getElem?_set_ne (by omega)]
      exact hx
    ·intro i hi
     rw [List.getElem?_set_ne (by omega), List.getElem?_set_ne (by omega), List.getElem?_set_ne (by omega)]
     exact x2 i hi
    ·intro i hi
     by_cases e : i = j
     ·subst e
      rw [if_pos (by omega), uh HMG, hmb.2.2.2, b3]
      exact (uh RR).1
     ·have hk := x3 i hi
      have ht1 := hk.touch (uh T5) (fun b hb h => (uh HS5 i b hi hb).2 h)
      have ht2 := ht1.touch (uh RR).2 (fun b hb h => by
       rcases Nat.lt_or_ge i j with h' | h'
       ·exact uh HS6 i j b h' hlt hb h
       ·exact uh HS6 j i b (by omega) hi h hb)
      rcases Nat.lt_or_ge i j with h' | h'
      ·rw [if_pos h'] at ht2; rw [if_pos (by omega)]; exact ht2
      ·rw [if_neg (by omega)] at ht2; rw [if_neg (by omega)]; exact ht2
    ·refine (((Touch.refl (fun b => b = g ∨ ∃ q, q < j + 1 ∧ Si q b) w).trans x4 ?_).trans (uh T5) (fun _ _ h => .inl h)).trans (uh RR).2 (fun b _ h => .inr ⟨j, by omega, h⟩)
     intro b _ h
     rcases h with h | ⟨q', hq', h⟩
     ·exact .inl h
     ·exact .inr ⟨q', by omega, h⟩
    ·simp [intOf]; omega
   ·obtain rfl : j = l.length := by omega
    have R := Hd (And.intro hO (And.intro hRI (And.intro hKD hTS)))
    clear hO hRI hKV hKD hTS
    rw [List.take_length]
    go_wp2_with fail
    go_ret
    obtain ⟨r1, r2, r3, r4⟩ := uh R
    have hll := markL_len k l
    refine ⟨rfl, ?_, (Touch.refl S w).trans r4 (fun b _ h => ?_)⟩
    ·have hrow := BrO.row (w := wr) S g cap (markL k l) kv ys Si (by omega) (uh HG) (by rw [hll]; exact r1) (by rw [hll]; exact r2)
      (fun i hi => by
       rw [hll] at hi
       rw [markL_get l k i hi]
       obtain ⟨e1, e2, _, _⟩ := markB_key (k + 3 * cntL (l.take i)) (l.getD i default)
       rw [e1, e2]
       have h1 := mtx_size (k + 3 * cntL (l.take i))
       have h2 := mtx_size (k + 3 * cntL (l.take i) + 1)
       have h3 := cnt_take_le l i
       unfold maxLen
       omega)
      (fun i b hi => by rw [hll] at hi; exact uh HS5 i b hi)
      (fun i j b hij hj => by rw [hll] at hj; exact uh HS6 i j b hij hj)
      (fun i hi => by
       rw [hll] at hi
       have := r3 i hi
       rw [if_pos hi] at this
       exact this)
     rw [hll] at hrow
     exact hrow
    ·rcases h with h | ⟨q', hq', h⟩
     ·rw [h]; exact uh HG
     ·exact (uh HS5 q' b hq' h).1
end Go.Proofs.YtbchnheinnileaaGreatDoor.Sha
namespace Go.Proofs.YtbchnheinnileaaGreatDoor.Sha
set_option maxRecDepth 100000
set_option maxHeartbeats 8000000
open Go.ChangeShapes Go.WideShapes Go.ChangeAt Go.RowKit
set_option linter.unusedVariables false
set_option linter.unusedSimpArgs false
structure Ow (X R O : Nat) (w wr : World) (ax : List Value) (k v : ByteArray) (a : Int) (l : List Br) (j : Nat) (sv : Value) (xs : List Value) (kvf : Nat → Value) (Si : Nat → Nat → Prop) : Prop where
 x : Blk wr X ax
 r : Blk wr R [.string ⟨#[]⟩, .string ⟨#[]⟩, .int .i64 0, .slice none 0 0]
 o : Blk wr O [.string k, .string v, .int .i64 a, sv]
 own : wr.ownsRow (O + 1) 30 4 sv j xs
 row : RowIs xs l kvf j
 kid : ∀ i, i < j → BrO wr (Si i) (kvf i) (l.getD i default).kids
 sep : ∀ i b, i < j → Si i b → O < b ∧ b < wr.heap.size ∧ sv.ownBlock ≠ some b
 dis : ∀ i i' b, i < i' → i' < j → Si i b → ¬ Si i' b
 b : Below X w wr
 s0 : X < R
 s1 : R < O
variable {X R O : Nat} {w wr : World} {ax : List Value} {k v : ByteArray} {a : Int} {l : List Br} {j : Nat} {sv : Value} {xs : List Value} {kvf : Nat → Value} {Si : Nat → Nat → Prop}
theorem Ow.below {wx : World} (h : Ow X R O w wr ax k v a l j sv xs kvf Si) (hb : Below wr.heap.size wr wx) : Ow X R O w wx ax k v a l j sv xs kvf Si :=
 ⟨h.x.below hb, h.r.below hb, h.o.below hb, own_kept (T := fun _ => False) h.own (Touch.ofBelow hb) (fun _ _ h => h), h.row, fun i hi => (h.kid i hi).blw hb, fun i b hi hs => ⟨(h.sep i b hi hs).1, Nat.lt_of_lt_of_le (h.sep i b hi hs).2.1 hb.size, (h.sep i b hi hs).2.2⟩, h.dis, h.b.trans (hb.mono (Nat.le_of_lt h.x.1)), h.s0, h.s1⟩
theorem Ow.push {w6 w7 : World} {Sk : Nat → Prop} {ks : Value} {m : Nat} (h : Ow X R O w w6 ax k v a l j sv xs kvf Si) (ob : Obj) {gg cg : Nat}
  (hk : BrO w6 Sk ks (l.getD j default).kids) (hS : ∀ b, Sk b → m ≤ b ∧ b < w6.heap.size) (hm : O < m) (hSi : ∀ i b, i < j → Si i b → b < m) (hso : ∀ b, sv.ownBlock = some b → b < m)
  (hown : w7.ownsRow (O + 1) 30 4 (.slice (some ⟨gg, 0, none⟩) (j + 1) cg) (j + 1) (xs ++ [.string (l.getD j default).key, .string (l.getD j default).val, .int .i64 (l.getD j default).at_, ks]))
  (hgrow : (w6.alloc ob).grownBy w7 sv.ownBlock) (hat : sv.ownBlock = some gg ∨ gg = w6.heap.size + 1) :
  Blk w7 O [.string k, .string v, .int .i64 a, sv] ∧ Ow X R O w (w7.setCell ⟨O, 3, none⟩ (.slice (some ⟨gg, 0, none⟩) (j + 1) cg)) ax k v a l (j + 1) (.slice (some ⟨gg, 0, none⟩) (j + 1) cg) (xs ++ [.string (l.getD j default).key, .string (l.getD j default).val, .int .i64 (l.getD j default).at_, ks]) (fun i => if i = j then ks else kvf i) (fun i => if i = j then Sk else Si i) := by
 have t1 : Touch (fun q => sv.ownBlock = some q) w6 w7 := ((Touch.refl (fun q => sv.ownBlock = some q) w6).alloc ob).grown hgrow (fun q hq _ => hq)
 have hlt := fun q (hq : sv.ownBlock = some q) => World.ownsRow.lt h.own q hq
 have o7 : Blk w7 O [.string k, .string v, .int .i64 a, sv] := h.o.kept t1 (fun e => by have := (hlt O e).1; omega)
 have t2 : Touch (fun q => sv.ownBlock = some q ∨ q = O) w6 (w7.setCell ⟨O, 3, none⟩ (.slice (some ⟨gg, 0, none⟩) (j + 1) cg)) :=
  (((Touch.refl (fun q => sv.ownBlock = some q ∨ q = O) w6).trans t1 (fun _ _ h => .inl h))).setCell ⟨O, 3, none⟩ _ (fun _ => .inr rfl)
 have h0 := h.s0
 have h1 := h.s1
 have hO := h.o.1
 have hxl : xs.length = j * 4 := h.own.1
 have hgO : gg ≠ O := by
  rcases hat with e | e
  ·have := (hlt gg e).1; omega
  ·omega
 have hsz := t2.size
 refine ⟨o7, ?_⟩
 refine ⟨h.x.kept t2 (fun e => ?_), h.r.kept t2 (fun e => ?_), o7.set 3 _ (by simp), ?_, ?_, ?_, ?_, ?_, h.b.trans (t2.below (Nat.le_of_lt h.x.1) (fun q hq e => ?_)), h0, h1⟩
 ·rcases e with e | e
  ·have := (hlt X e).1; omega
  ·omega
 ·rcases e with e | e
  ·have := (hlt R e).1; omega
  ·omega
 ·exact own_kept (T := fun q => q = O) hown ((Touch.refl (fun q => q = O) w7).setCell ⟨O, 3, none⟩ _ (fun _ => rfl)) (fun q hq e => by
   have e2 : gg = q := by simpa [Value.ownBlock] using hq
   omega)
 ·intro i hi
  by_cases e : i = j
  ·subst e
   dsimp only
   rw [if_pos rfl]
   refine ⟨?_, ?_, ?_, ?_⟩ <;> rw [List.getElem?_append_right (by omega), hxl]
   ·rw [show i * 4 - i * 4 = 0 by omega]; rfl
   ·rw [show i * 4 + 1 - i * 4 = 1 by omega]; rfl
   ·rw [show i * 4 + 2 - i * 4 = 2 by omega]; rfl
   ·rw [show i * 4 + 3 - i * 4 = 3 by omega]; rfl
  ·dsimp only
   rw [if_neg e]
   obtain ⟨e0, e1, e2, e3⟩ := h.row i (by omega)
   rw [List.getElem?_append_left (by omega), List.getElem?_append_left (by omega), List.getElem?_append_left (by omega), List.getElem?_append_left (by omega)]
   exact ⟨e0, e1, e2, e3⟩
 ·intro i hi
  by_cases e : i = j
  ·subst e
   rw [if_pos rfl, if_pos rfl]
   exact hk.touch t2 (fun b hb e => by
    rcases e with e | e
    ·have := hso b e; have := (hS b hb).1; omega
    ·have := (hS b hb).1; omega)
  ·rw [if_neg e, if_neg e]
   exact (h.kid i (by omega)).touch t2 (fun b hb e => by
    rcases e with e | e
    ·exact (h.sep i b (by omega) hb).2.2 e
    ·have := (h.sep i b (by omega) hb).1; omega)
 ·intro i b hi hb
  by_cases e : i = j
  ·subst e
   rw [if_pos rfl] at hb
   have hb2 := hS b hb
   refine ⟨by omega, by omega, fun e2 => ?_⟩
   have e3 : gg = b := by simpa [Value.ownBlock] using e2
   rcases hat with e | e
   ·have := hso gg e; omega
   ·omega
  ·rw [if_neg e] at hb
   have hb2 := h.sep i b (by omega) hb
   refine ⟨hb2.1, by omega, fun e2 => ?_⟩
   have e3 : gg = b := by simpa [Value.ownBlock] using e2
   rcases hat with e | e
   ·exact hb2.2.2 (by rw [e, e3])
   ·omega
 ·intro i i' b hii hi' hb hb2
  by_cases e : i' = j
  ·subst e
   rw [if_pos rfl] at hb2
   rw [if_neg (by omega)] at hb
   have := hSi i b (by omega) hb
   have := (hS b hb2).1
   omega
  ·rw [if_neg e] at hb2
   rw [if_neg (by omega)] at hb
   exact h.dis i i' b hii (by omega) hb hb2
 ·rcases e with e | e
  ·have := (hlt q e).1; omega
  ·omega
theorem Ow.shape (h : Ow X R O w wr ax k v a l j sv xs kvf Si) : ∃ ga gc, sv = .slice ga j gc := by
 rcases h.own.2 with ⟨rfl, h0⟩ | ⟨g, cap, cur, rfl, _⟩
 ·exact ⟨none, 0, by rw [h0]⟩
 ·exact ⟨_, _, rfl⟩
theorem Ow.fin {n : Nat} {ga : Option Addr} {gc : Nat} (h : Ow w.heap.size R O w wr ax k v a l l.length (.slice ga l.length gc) xs kvf Si) (hs : ∀ i, i < l.length → (l.getD i default).key.size ≤ maxLen ∧ (l.getD i default).val.size ≤ maxLen) :
  Blk (set4 wr R (.string k) (.string v) (.int .i64 a) (.slice ga l.length gc)) R [.string k, .string v, .int .i64 a, .slice ga l.length gc] ∧
  BrO (set4 wr R (.string k) (.string v) (.int .i64 a) (.slice ga l.length gc)) (fun x => w.heap.size ≤ x ∧ x < (set4 wr R (.string k) (.string v) (.int .i64 a) (.slice ga l.length gc)).heap.size) (.slice ga l.length gc) l ∧
  Below w.heap.size w (set4 wr R (.string k) (.string v) (.int .i64 a) (.slice ga l.length gc)) := by
 have ht := set4_touch wr R (.string k) (.string v) (.int .i64 a) (.slice ga l.length gc)
 have hts := ht.size
 have h0 := h.s0
 have h1 := h.s1
 refine ⟨set4_blk h.r _ _ _ _, ?_, h.b.trans (ht.below h.b.size (fun q hq e => by omega))⟩
 have hO : BrO wr (fun x => w.heap.size ≤ x ∧ x < wr.heap.size ∧ x ≠ R) (.slice ga l.length gc) l := by
  rcases h.own.2 with ⟨e, h0⟩ | ⟨g, cap, cur, e, hg, r⟩
  ·obtain rfl := List.eq_nil_of_length_eq_zero h0
   cases e
   exact .nil _ _ _ (by unfold maxLen; omega)
  ·have hlt := World.ownsRow.lt h.own
   cases e
   by_cases hl : l.length = 0
   ·obtain rfl := List.eq_nil_of_length_eq_zero hl
    exact .nil _ _ _ r.2.2.1
   have hgl := hlt g rfl
   refine BrO.row _ g gc l kvf xs Si (by omega) ⟨by omega, by omega, by omega⟩ (World.ownsRow.mono h.own (Nat.zero_le _)) h.row hs ?_ h.dis h.kid
   intro i b hi hb
   have h3 := h.sep i b hi hb
   exact ⟨⟨by omega, by omega, by omega⟩, fun e => h3.2.2 (by rw [e]; rfl)⟩
 exact (hO.touch ht (fun q hq e => hq.2.2 e)).mono (fun q hq => ⟨hq.1, by omega⟩)
theorem cnt_len : ∀ l : List Br, l.length ≤ cntL l
 | [] => by simp
 | b :: r => by
  have := cnt_len r
  have := Br.cnt_eq b
  rw [cntL_cons, List.length_cons]
  omega
theorem cnt_kid (l : List Br) (j : Nat) (hj : j < l.length) : cntL (l.getD j default).kids ≤ cntL l := by
 have h1 := cnt_take l j hj
 have h2 := cnt_take_le l (j + 1)
 have h3 := Br.cnt_eq (l.getD j default)
 omega
theorem br_eta (b : Br) : Br.mk b.key b.val b.at_ b.kids = b := by cases b; rfl
theorem l07Own_any {S : Nat → Prop} {w0 : World} {u : Value} {l : List Br} (h : Brs S w0 u l) : ∀ (k v : ByteArray) (a : Int) (w : World), cntL l ≤ 1048576 → Below w0.heap.size w0 w →
  Calls Tryz.prog 40 #[.agg #[.string k, .string v, .int .i64 a, u]] w fun e w' => BranchR (.mk k v a l) w e w' := by
 obtain ⟨i0, hi, hz0, hz1, hz2⟩ := info_parts infoBr
 induction h with
 | nil sa cap hc =>
  intro k v a w hcn hb0
  have HGR : Hid (∀ sa n cap w', BrO w' (fun x => w.heap.size ≤ x ∧ x < w'.heap.size) (.slice sa n cap) [] → Below w.heap.size w w' → BranchR (.mk k v a []) w (.returned (.agg #[.string k, .string v, .int .i64 a, .slice sa n cap])) w') := Hd (fun sa n cap w' h1 hb => ⟨sa, n, cap, rfl, h1, hb⟩)
  have G1 : Hid (Ow w.heap.size (w.heap.size + 1) (w.heap.size + 1 + 1) w (((w.alloc (.cells #[.string k, .string v, .int .i64 a, .slice sa 0 cap] 30)).alloc (.cells #[.string ⟨#[]⟩, .string ⟨#[]⟩, .int .i64 0, .slice none 0 0] 30)).alloc (.cells #[.string k, .string v, .int .i64 a, .slice none 0 0] 30)) [.string k, .string v, .int .i64 a, .slice sa 0 cap] k v a [] 0 (.slice none 0 0) [] (fun _ => undef) (fun _ _ => False)) := Hd
   ⟨((Blk.new w _ _ w.heap.size rfl).alloc _).alloc _, (Blk.new _ _ _ (w.heap.size + 1) (by simp)).alloc _, Blk.new _ _ _ (w.heap.size + 1 + 1) (by simp), World.ownsRow_nil _ _ _ _, fun i hi => absurd hi (by omega), fun i hi => absurd hi (by omega), fun i b hi => absurd hi (by omega), fun i i' b h1 h2 => absurd h2 (by omega), (((Below.refl _ _).alloc (Nat.le_refl _) _).alloc (by simp) _).alloc (by simp; omega) _, by omega, by omega⟩
  clear hb0
  go_enter Tryz.func40, Tryz.ntmps40
  go_wp2_with fail
  generalize ((w.alloc (.cells #[.string k, .string v, .int .i64 a, .slice sa 0 cap] 30)).alloc (.cells #[.string ⟨#[]⟩, .string ⟨#[]⟩, .int .i64 0, .slice none 0 0] 30)).alloc (.cells #[.string k, .string v, .int .i64 a, .slice none 0 0] 30) = w1 at *
  generalize w.heap.size + 1 + 1 = O at *
  generalize w.heap.size + 1 = R at *
  go_loopw [4] (fun i wr => i = .int .i64 0 ∧ wr = w1) (fun _ _ => 0)
  case atStart => exact ⟨rfl, rfl⟩
  case round =>
   obtain ⟨rfl, hwr⟩ := hrel
   subst wr
   have hE := Ow.fin (n := 0) (l := []) (uh G1) (fun i hi => absurd hi (by simp))
   have x3 := (uh G1).x.cell 3 rfl
   have o0 := (uh G1).o.cell 0 rfl
   have o1 := (uh G1).o.cell 1 rfl
   have o2 := (uh G1).o.cell 2 rfl
   have o3 := (uh G1).o.cell 3 rfl
   have r0 := (uh G1).r.cell 0 rfl
   have r1 := (uh G1).r.cell 1 rfl
   have r2 := (uh G1).r.cell 2 rfl
   have r3 := (uh G1).r.cell 3 rfl
   have f0 := (uh G1).r.fro 0
   have f1 := (uh G1).r.fro 1
   have f2 := (uh G1).r.fro 2
   have f3 := (uh G1).r.fro 3
   have z0 := hE.1.cell 0 rfl
   have z1 := hE.1.cell 1 rfl
   have z2 := hE.1.cell 2 rfl
   have z3 := hE.1.cell 3 rfl
   have HE := Hd hE
   unfold set4 at z0 z1 z2 z3
   simp only [List.length_nil] at z0 z1 z2 z3
   clear hE
   go_wp2_with fail
   refine bodyPost_ret (v := .agg #[.string k, .string v, .int .i64 a, .slice none 0 0]) (by simp [results, Tryz.results40, go_sem, z0, z1, z2, z3]) rfl ?_
   exact uh HGR _ _ _ _ (uh HE).2.1 (uh HE).2.2
 | row b off cap l kv p0 p1 p2 p3 p4 p5 p6 p7 ih =>
  intro k v a w hcn hb0
  have HC := Hd (BrAt.mk p3 p4 p5 p6 p7 : BrAt S w0 b off l kv)
  have HI := Hd ih
  have HB0 := Hd hb0
  have HSM := Hd p6
  have hlm : l.length ≤ 9223372036854775807 := by unfold maxLen at p2; omega
  have hlm2 : l.length ≤ maxLen := by omega
  have hlen := cnt_len l
  have HCK := Hd (fun i hi => cnt_kid l i hi)
  have HGR : Hid (∀ sa n cap w', BrO w' (fun x => w.heap.size ≤ x ∧ x < w'.heap.size) (.slice sa n cap) l → Below w.heap.size w w' → BranchR (.mk k v a l) w (.returned (.agg #[.string k, .string v, .int .i64 a, .slice sa n cap])) w') := Hd (fun sa n cap w' h1 hb => ⟨sa, n, cap, rfl, h1, hb⟩)
  have G1 : Hid (Ow w.heap.size (w.heap.size + 1) (w.heap.size + 1 + 1) w (((w.alloc (.cells #[.string k, .string v, .int .i64 a, .slice (some ⟨b, off, none⟩) l.length cap] 30)).alloc (.cells #[.string ⟨#[]⟩, .string ⟨#[]⟩, .int .i64 0, .slice none 0 0] 30)).alloc (.cells #[.string k, .string v, .int .i64 a, .slice none 0 0] 30)) [.string k, .string v, .int .i64 a, .slice (some ⟨b, off, none⟩) l.length cap] k v a l 0 (.slice none 0 0) [] (fun _ => undef) (fun _ _ => False)) := Hd
   ⟨((Blk.new w _ _ w.heap.size rfl).alloc _).alloc _, (Blk.new _ _ _ (w.heap.size + 1) (by simp)).alloc _, Blk.new _ _ _ (w.heap.size + 1 + 1) (by simp), World.ownsRow_nil _ _ _ _, fun i hi => absurd hi (by omega), fun i hi => absurd hi (by omega), fun i b hi => absurd hi (by omega), fun i i' b h1 h2 => absurd h2 (by omega), (((Below.refl _ _).alloc (Nat.le_refl _) _).alloc (by simp) _).alloc (by simp; omega) _, by omega, by omega⟩
  clear p3 p4 p5 p6 p7 ih hb0 p1 p2
  go_enter Tryz.func40, Tryz.ntmps40
  go_wp2_with fail
  generalize ((w.alloc (.cells #[.string k, .string v, .int .i64 a, .slice (some ⟨b, off, none⟩) l.length cap] 30)).alloc (.cells #[.string ⟨#[]⟩, .string ⟨#[]⟩, .int .i64 0, .slice none 0 0] 30)).alloc (.cells #[.string k, .string v, .int .i64 a, .slice none 0 0] 30) = w1 at *
  generalize w.heap.size + 1 + 1 = O at *
  generalize w.heap.size + 1 = R at *
  go_loopw [4] (fun i wr => ∃ (j : Nat) (sv : Value) (xs : List Value) (kvf : Nat → Value) (Si : Nat → Nat → Prop), j ≤ l.length ∧ i = .int .i64 j ∧ Ow w.heap.size R O w wr [.string k, .string v, .int .i64 a, .slice (some ⟨b, off, none⟩) l.length cap] k v a l j sv xs kvf Si) (fun i _ => l.length - (intOf i).toNat)
  case atStart => exact ⟨0, _, _, _, _, Nat.zero_le _, rfl, uh G1⟩
  case round =>
   obtain ⟨j, sv, xs, kvf, Si, hj, rfl, hG⟩ := hrel
   obtain ⟨ga, gc, rfl⟩ := hG.shape
   by_cases hlt : j < l.length
   ·obtain ⟨s0, s1, s2, s3⟩ := (uh HC).cells j hlt
    have hbl := (uh HC).lt
    have hbw := (uh HB0).trans (hG.b.mono (uh HB0).size)
    have c0 := (hbw.cell (p := ⟨b, off + j * 4, none⟩) hbl).trans s0
    have c1 := (hbw.cell (p := ⟨b, off + j * 4 + 1, none⟩) hbl).trans s1
    have c2 := (hbw.cell (p := ⟨b, off + j * 4 + 2, none⟩) hbl).trans s2
    have c3 := (hbw.cell (p := ⟨b, off + j * 4 + 3, none⟩) hbl).trans s3
    obtain ⟨ka, kc, hkv, _, _⟩ := ((uh HC).kids j hlt).shape
    have x3 := hG.x.cell 3 rfl
    have o3 := hG.o.cell 3 rfl
    have hO1 := hG.o.1
    have HRT := Hd (uh HI j hlt (l.getD j default).key (l.getD j default).val (l.getD j default).at_ wr.drew (by have := uh HCK j hlt; omega) (below_drewN hbw 1))
    rw [br_eta, hkv] at HRT
    rw [hkv] at c3
    have HGB := Hd (fun wx (hx : Below wr.heap.size wr wx) => hG.below hx)
    have HSI := Hd (fun i b hi hb => (hG.sep i b hi hb).2.1)
    have HSO := Hd (fun b hb => (World.ownsRow.lt hG.own b hb).2)
    have hxl : xs.length = j * 4 := hG.own.1
    have k0 : (0 : Int) ≤ (j : Int) := by omega
    have k1 : (j : Int) < (l.length : Int) := by omega
    have hj2 : j + 1 ≤ maxLen := by omega
    clear s0 s1 s2 s3 hbw hG hkv
    obtain ⟨kb, hkb⟩ : ∃ kb, kb = l.getD j default := ⟨_, rfl⟩
    rw [← hkb] at c0 c1 c2 c3 HRT
    have HKB := Hd hkb
    clear hkb
    go_wp2_with fail
    go_region_law (first
     | (go_simp; go_at_call 40; refine (uh HRT).mono ?_; rintro e w6 ⟨s1, n1, e1, rfl, hO6, hb6⟩; have hb6' : Below wr.heap.size wr w6 := (below_drewN (Below.refl _ wr) 1).trans hb6; have G6 := uh HGB w6 hb6'; have k3 := G6.o.cell 3 rfl; have k4 := ((bal w6 (.cells #[.string kb.key, .string kb.val, .int .i64 kb.at_, .slice s1 n1 e1] 30)).cell (p := ⟨O, 3, none⟩) G6.o.1).trans k3; go_simp)
     | (refine step_append_lies _ (by rfl) _ _ _ (by rfl) (O + 1) 30 i0 _ 4 64 Tryz.underlying28 hi hz0 hz1 hz2 rfl (by omega) (.slice ga j gc) j xs (by rfl) (own_kept (T := fun _ => False) G6.own ((Touch.refl _ _).alloc (.cells #[.string kb.key, .string kb.val, .int .i64 kb.at_, .slice s1 n1 e1] 30)) (fun _ _ h => h)) ⟨w6.heap.size, 0, none⟩ 1 1 [.string kb.key, .string kb.val, .int .i64 kb.at_, .slice s1 n1 e1] (by rfl) (by rfl) (World.news_of_block (cs := #[.string kb.key, .string kb.val, .int .i64 kb.at_, .slice s1 n1 e1]) (t := 30) (fr := (0, 0)) (heap_alloc_new w6 _)) (by simp [Value.oneCell']) (by omega) hj2 (by omega) (by have := G6.o.1; simp; omega) (w6.heap.size + 1) (by simp) ?_; intro gg cg w7 hown7 hgrow7 hat7 hlt7; rw [uh HKB] at hown7 hO6; obtain ⟨O7, G7⟩ := G6.push _ hO6 (fun b hb => hb) hO1 (uh HSI) (uh HSO) hown7 hgrow7 hat7; have k7 := O7.cell 3 rfl; have f7 := O7.fro 3))
    all_goals
     have HG7 := Hd G7
     clear k3 k4 k7 f7 O7 G7 G6 hown7 hgrow7 hat7 hlt7 hb6 hb6' hO6 x3 o3 c0 c1 c2 c3
     go_wp2_with fail
     refine ⟨⟨j + 1, _, _, _, _, by omega, by go_num, uh HG7⟩, ?_⟩
     simp [intOf]; omega
   ·obtain rfl : j = l.length := by omega
    have hE := Ow.fin (n := 0) hG (uh HSM)
    have G1 := Hd hG
    clear hG
    have x3 := (uh G1).x.cell 3 rfl
    have o0 := (uh G1).o.cell 0 rfl
    have o1 := (uh G1).o.cell 1 rfl
    have o2 := (uh G1).o.cell 2 rfl
    have o3 := (uh G1).o.cell 3 rfl
    have r0 := (uh G1).r.cell 0 rfl
    have r1 := (uh G1).r.cell 1 rfl
    have r2 := (uh G1).r.cell 2 rfl
    have r3 := (uh G1).r.cell 3 rfl
    have f0 := (uh G1).r.fro 0
    have f1 := (uh G1).r.fro 1
    have f2 := (uh G1).r.fro 2
    have f3 := (uh G1).r.fro 3
    have z0 := hE.1.cell 0 rfl
    have z1 := hE.1.cell 1 rfl
    have z2 := hE.1.cell 2 rfl
    have z3 := hE.1.cell 3 rfl
    have HE := Hd hE
    unfold set4 at z0 z1 z2 z3
    clear hE
    go_wp2_with fail
    refine bodyPost_ret (v := .agg #[.string k, .string v, .int .i64 a, .slice ga l.length gc]) (by simp [results, Tryz.results40, go_sem, z0, z1, z2, z3]) rfl ?_
    exact uh HGR _ _ _ _ (uh HE).2.1 (uh HE).2.2
end Go.Proofs.YtbchnheinnileaaGreatDoor.Sha
