/- What the proof of the claim needs (joined by program): BrNr BrSz. -/
import Derived.Test.YtnhhnjmjodmacaaGreatDoorQaa16
import Derived.Test.YtnhhnjmjodmacaaGreatDoorQaa12
import Derived.Deep.RegionHeld3
namespace Go.Proofs.YtnhhnjmjodmacaaGreatDoor.Sha
set_option maxRecDepth 100000
set_option maxHeartbeats 8000000
open Go.ChangeShapes Go.WideShapes Go.ChangeAt Go.RowKit
set_option linter.unusedVariables false
set_option linter.unusedSimpArgs false
theorem l07Near_any (h : ByteArray) (hh : h.size = 32) (t : Tr) (hok : TrOK t) (hri : Rise 0 t) (S : Nat → Prop) (kv : Value) (w : World) (hB : Brs S w kv t.toBr.kids) :
  Calls Tryz.prog 109 #[.agg #[.string t.toBr.key, .string t.toBr.val, .int .i64 t.toBr.at_, kv], .string h] w fun e w' => e = .returned (.string (kh (leadL h t).1)) ∧ Below w.heap.size w w' := by
 obtain ⟨sa, cap, rfl, hcap, hcm⟩ := hB.shape
 have B1 := Hd (bal w (.cells #[.string t.toBr.key, .string t.toBr.val, .int .i64 t.toBr.at_, .slice sa t.toBr.kids.length cap] 35))
 have X1 := Hd (Blk.new w #[.string t.toBr.key, .string t.toBr.val, .int .i64 t.toBr.at_, .slice sa t.toBr.kids.length cap] 35 w.heap.size rfl)
 have HKB := Hd hB.bound
 have HGR : Hid (∀ x w', Below w.heap.size w w' → x = kh (leadL h t).1 → Ending.returned (.string x) = .returned (.string (kh (leadL h t).1)) ∧ Below w.heap.size w w') := Hd (fun x w' hb he => ⟨by rw [he], hb⟩)
 have HOK := Hd hok
 have HRI := Hd hri
 clear hB hok hri
 go_enter Tryz.func109, Tryz.ntmps109
 go_wp2_with fail
 generalize w.alloc (.cells #[.string t.toBr.key, .string t.toBr.val, .int .i64 t.toBr.at_, .slice sa t.toBr.kids.length cap] 35) = w1 at *
 go_loopw [] (fun wr => ∃ (m : Nat) (t' : Tr) (ka : Option Addr) (kc : Nat), Blk wr w.heap.size [.string t'.toBr.key, .string t'.toBr.val, .int .i64 t'.toBr.at_, .slice ka t'.toBr.kids.length kc] ∧ Brs (fun x => x < w.heap.size) w (.slice ka t'.toBr.kids.length kc) t'.toBr.kids ∧ Rise m t' ∧ TrOK t' ∧ leadL h t' = leadL h t ∧ Below w.heap.size w wr) (fun wr => 256 - atCell2 w.heap.size wr)
 case atStart => exact ⟨0, t, sa, cap, uh X1, uh HKB, uh HRI, uh HOK, rfl, uh B1⟩
 case round =>
  clear HKB HRI HOK B1 X1
  obtain ⟨m, t', ka, kc, hX, hKB, hRI, hOK, hL, hbw⟩ := hrel
  obtain ⟨_, _, _, _, hkm⟩ := hKB.shape
  have HLF := Hd (fun wx => l07Leaf_any t'.toBr.key t'.toBr.val t'.toBr.at_ ka t'.toBr.kids.length kc wx (by unfold maxLen at hkm ⊢; have := hKB.shape; omega))
  have HX := Hd hX
  have x0 := hX.cell 0 rfl
  have x1 := hX.cell 1 rfl
  have x2 := hX.cell 2 rfl
  have x3 := hX.cell 3 rfl
  have HBW := Hd hbw
  have HL := Hd hL
  have HA := Hd (atCell2_is (X := w.heap.size) (w := wr) (a := t'.at_) (by rw [x2, toBr_at]))
  clear hX hbw hL
  cases t' with
  | leaf k v =>
   rw [show decide ((Tr.leaf k v).toBr.kids.length = 0) = true from rfl] at HLF
   dsimp only [Tr.toBr, Br.key, Br.val, Br.at_, Br.kids, List.length_nil] at HLF x0 x1 x2 x3 HX hKB
   have HLL : Hid (kh k = kh (leadL h t).1) := Hd (by rw [← uh HL]; rfl)
   have hk24 := (okK_iff.1 hOK.1).2
   have HHS := Hd (fun wx => l07Hash_any k wx (by omega))
   go_wp2_with fail
   refine (uh HLF wr).mono ?_
   rintro e w4 ⟨rfl, hb4⟩
   have B4 := hbt HBW hb4
   have X4 := Hd ((uh HX).below hb4)
   clear hb4 x0 x1 x2 x3 HX HBW
   have x0 := (uh X4).cell 0 rfl
   go_wp2_with fail
   refine (uh HHS w4).mono ?_
   rintro e w5 ⟨rfl, hb5⟩
   have B5 := hbt B4 hb5
   clear hb5
   generalize kh k = q at *
   go_wp2_with fail
   go_ret
   exact uh HGR _ _ (uh B5) (uh HLL)
  | fork a hv l r =>
   rw [show decide ((Tr.fork a hv l r).toBr.kids.length = 0) = false from rfl] at HLF
   dsimp only [Tr.toBr, Br.key, Br.val, Br.at_, Br.kids] at HLF x0 x1 x2 x3 HX hKB
   rw [show ([l.toBr, r.toBr] : List Br).length = 2 from rfl] at HLF x3 HX hKB
   obtain ⟨r0, r1, r2, r3⟩ := hRI
   obtain ⟨_, _, okl, okr⟩ := hOK
   obtain ⟨bb, off, kvf, rfl, _, hat⟩ := hKB.at (by simp)
   have hbb := hat.lt
   obtain ⟨s00, s01, s02, s03⟩ := hat.cells 0 (by simp)
   obtain ⟨s10, s11, s12, s13⟩ := hat.cells 1 (by simp)
   have K0 := Hd (hat.kids 0 (by simp))
   have K1 := Hd (hat.kids 1 (by simp))
   simp only [List.getD_cons_zero, List.getD_cons_succ, Nat.zero_mul, Nat.add_zero, Nat.one_mul] at s00 s01 s02 s03 s10 s11 s12 s13 K0 K1
   obtain ⟨ka0, kc0, hkv0, _, _⟩ := (uh K0).shape
   obtain ⟨ka1, kc1, hkv1, _, _⟩ := (uh K1).shape
   rw [hkv0] at K0 s03
   rw [hkv1] at K1 s13
   have HLE : Hid (leadL h (.fork a hv l r) = if bitN h a = 0 then leadL h l else leadL h r) := rfl
   have HBT := Hd (fun wx => l07Bit_any h a wx hh r1)
   have hA : Hid (atCell2 w.heap.size wr = a) := HA
   clear hKB hat hkv0 hkv1 HA
   go_wp2_with fail
   refine (uh HLF wr).mono ?_
   rintro e w4 ⟨rfl, hb4⟩
   have B4 := hbt HBW hb4
   have X4 := Hd ((uh HX).below hb4)
   clear hb4 x0 x1 x2 x3 HX HBW
   have x0 := (uh X4).cell 0 rfl
   have x1 := (uh X4).cell 1 rfl
   have x2 := (uh X4).cell 2 rfl
   have x3 := (uh X4).cell 3 rfl
   have f0 := (uh X4).fro 0
   have f1 := (uh X4).fro 1
   have f2 := (uh X4).fro 2
   have f3 := (uh X4).fro 3
   have B4d := uh B4
   have t00 := (B4d.cell (p := ⟨bb, off, none⟩) hbb).trans s00
   have t01 := (B4d.cell (p := ⟨bb, off + 1, none⟩) hbb).trans s01
   have t02 := (B4d.cell (p := ⟨bb, off + 2, none⟩) hbb).trans s02
   have t03 := (B4d.cell (p := ⟨bb, off + 3, none⟩) hbb).trans s03
   have t10 := (B4d.cell (p := ⟨bb, off + 4, none⟩) hbb).trans s10
   have t11 := (B4d.cell (p := ⟨bb, off + 4 + 1, none⟩) hbb).trans s11
   have t12 := (B4d.cell (p := ⟨bb, off + 4 + 2, none⟩) hbb).trans s12
   have t13 := (B4d.cell (p := ⟨bb, off + 4 + 3, none⟩) hbb).trans s13
   clear s00 s01 s02 s03 s10 s11 s12 s13 B4d
   rcases bitN_01 h a with hb | hb
   ·rw [hb] at HBT HLE
    rw [if_pos rfl] at HLE
    have XN : Hid (Blk ((((w4.setCell ⟨w.heap.size, 0, none⟩ (.string l.toBr.key)).setCell ⟨w.heap.size, 1, none⟩ (.string l.toBr.val)).setCell ⟨w.heap.size, 2, none⟩ (.int .i64 l.toBr.at_)).setCell ⟨w.heap.size, 3, none⟩ (.slice ka0 l.toBr.kids.length kc0)).drew w.heap.size [.string l.toBr.key, .string l.toBr.val, .int .i64 l.toBr.at_, .slice ka0 l.toBr.kids.length kc0]) := Hd ((((((uh X4).set 0 (.string l.toBr.key) (by simp)).set 1 (.string l.toBr.val) (by simp)).set 2 (.int .i64 l.toBr.at_) (by simp)).set 3 (.slice ka0 l.toBr.kids.length kc0) (by simp)).drewN 1)
    have BN : Hid (Below w.heap.size w ((((w4.setCell ⟨w.heap.size, 0, none⟩ (.string l.toBr.key)).setCell ⟨w.heap.size, 1, none⟩ (.string l.toBr.val)).setCell ⟨w.heap.size, 2, none⟩ (.int .i64 l.toBr.at_)).setCell ⟨w.heap.size, 3, none⟩ (.slice ka0 l.toBr.kids.length kc0)).drew) := Hd (((((uh B4).setCell (p := ⟨w.heap.size, 0, none⟩) (Nat.le_refl _) (.string l.toBr.key)).setCell (p := ⟨w.heap.size, 1, none⟩) (Nat.le_refl _) (.string l.toBr.val)).setCell (p := ⟨w.heap.size, 2, none⟩) (Nat.le_refl _) (.int .i64 l.toBr.at_)).setCell (p := ⟨w.heap.size, 3, none⟩) (Nat.le_refl _) (.slice ka0 l.toBr.kids.length kc0)).drew
    go_wp2_with fail
    go_region_law ((go_simp; go_at_call 105; refine (uh HBT _).mono ?_; rintro e w9 ⟨rfl, hw9⟩; subst w9; go_simp))
    all_goals
     generalize ((((w4.setCell ⟨w.heap.size, 0, none⟩ (.string l.toBr.key)).setCell ⟨w.heap.size, 1, none⟩ (.string l.toBr.val)).setCell ⟨w.heap.size, 2, none⟩ (.int .i64 l.toBr.at_)).setCell ⟨w.heap.size, 3, none⟩ (.slice ka0 l.toBr.kids.length kc0)).drew = w5 at *
     clear x0 x1 x2 x3 f0 f1 f2 f3 t00 t01 t02 t03 t10 t11 t12 t13
     go_wp2_with fail
     have hat := atCell2_is (X := w.heap.size) (w := w5) (a := l.at_) (by rw [(uh XN).cell 2 rfl, toBr_at])
     have hle := r2.le
     have hle2 := r2.le256
     refine ⟨⟨a + 1, l, ka0, kc0, uh XN, uh K0, r2, okl, by rw [← uh HL, uh HLE], uh BN⟩, ?_⟩
     rw [hat, uh hA]
     omega
   ·rw [hb] at HBT HLE
    rw [if_neg (by omega)] at HLE
    have XN : Hid (Blk ((((w4.setCell ⟨w.heap.size, 0, none⟩ (.string r.toBr.key)).setCell ⟨w.heap.size, 1, none⟩ (.string r.toBr.val)).setCell ⟨w.heap.size, 2, none⟩ (.int .i64 r.toBr.at_)).setCell ⟨w.heap.size, 3, none⟩ (.slice ka1 r.toBr.kids.length kc1)).drew w.heap.size [.string r.toBr.key, .string r.toBr.val, .int .i64 r.toBr.at_, .slice ka1 r.toBr.kids.length kc1]) := Hd ((((((uh X4).set 0 (.string r.toBr.key) (by simp)).set 1 (.string r.toBr.val) (by simp)).set 2 (.int .i64 r.toBr.at_) (by simp)).set 3 (.slice ka1 r.toBr.kids.length kc1) (by simp)).drewN 1)
    have BN : Hid (Below w.heap.size w ((((w4.setCell ⟨w.heap.size, 0, none⟩ (.string r.toBr.key)).setCell ⟨w.heap.size, 1, none⟩ (.string r.toBr.val)).setCell ⟨w.heap.size, 2, none⟩ (.int .i64 r.toBr.at_)).setCell ⟨w.heap.size, 3, none⟩ (.slice ka1 r.toBr.kids.length kc1)).drew) := Hd (((((uh B4).setCell (p := ⟨w.heap.size, 0, none⟩) (Nat.le_refl _) (.string r.toBr.key)).setCell (p := ⟨w.heap.size, 1, none⟩) (Nat.le_refl _) (.string r.toBr.val)).setCell (p := ⟨w.heap.size, 2, none⟩) (Nat.le_refl _) (.int .i64 r.toBr.at_)).setCell (p := ⟨w.heap.size, 3, none⟩) (Nat.le_refl _) (.slice ka1 r.toBr.kids.length kc1)).drew
    go_wp2_with fail
    go_region_law ((go_simp; go_at_call 105; refine (uh HBT _).mono ?_; rintro e w9 ⟨rfl, hw9⟩; subst w9; go_simp))
    all_goals
     generalize ((((w4.setCell ⟨w.heap.size, 0, none⟩ (.string r.toBr.key)).setCell ⟨w.heap.size, 1, none⟩ (.string r.toBr.val)).setCell ⟨w.heap.size, 2, none⟩ (.int .i64 r.toBr.at_)).setCell ⟨w.heap.size, 3, none⟩ (.slice ka1 r.toBr.kids.length kc1)).drew = w5 at *
     clear x0 x1 x2 x3 f0 f1 f2 f3 t00 t01 t02 t03 t10 t11 t12 t13
     go_wp2_with fail
     have hat := atCell2_is (X := w.heap.size) (w := w5) (a := r.at_) (by rw [(uh XN).cell 2 rfl, toBr_at])
     have hle := r3.le
     have hle2 := r3.le256
     refine ⟨⟨a + 1, r, ka1, kc1, uh XN, uh K1, r3, okr, by rw [← uh HL, uh HLE], uh BN⟩, ?_⟩
     rw [hat, uh hA]
     omega
theorem l07Differ_any (x y : ByteArray) (w : World) (hx : x.size = 32) (hy : y.size = 32) :
  Calls Tryz.prog 108 #[.string x, .string y] w fun e w' => e = .returned (.int .i64 (fd x y)) ∧ w' = w := by
 have HF : Hid (fd x y = fdF x y 256 0) := rfl
 have HX := Hd (fun i (hi : i < 256) => l07Bit_any x i w hx hi)
 have HY := Hd (fun i (hi : i < 256) => l07Bit_any y i w hy hi)
 go_enter Tryz.func108, Tryz.ntmps108
 go_wp2_with fail
 go_loop [5] (fun i => ∃ k : Nat, k ≤ 256 ∧ i = .int .i64 k ∧ fdF x y (256 - k) k = fd x y) (fun i => 256 - (intOf i).toNat)
 case atStart => exact ⟨0, Nat.zero_le _, rfl, rfl⟩
 case round =>
  obtain ⟨k, hk, rfl, hfd⟩ := hrel
  by_cases hlt : k < 256
  ·have p1 : (k : Int) < 256 := by omega
   have HXk := Hd (uh HX k hlt)
   have HYk := Hd (uh HY k hlt)
   have HD : Hid (fd x y = if bitN x k = bitN y k then fdF x y (256 - (k + 1)) (k + 1) else k) := Hd (by
    rw [← hfd, show 256 - k = (256 - (k + 1)) + 1 by omega]
    rfl)
   clear hfd
   have hx1 := bitN_01 x k
   have hy1 := bitN_01 y k
   by_cases he : bitN x k = bitN y k
   ·rw [if_pos he] at HD
    rw [he] at HXk
    generalize bitN y k = q at *
    clear he
    go_wp2_with fail
    refine (uh HXk).mono ?_
    rintro e w9 ⟨rfl, hw9⟩
    subst w9
    go_wp2_with fail
    refine (uh HYk).mono ?_
    rintro e w9 ⟨rfl, hw9⟩
    subst w9
    go_wp2_with fail
    go_round
    case rel => exact ⟨k + 1, by omega, by go_num, (uh HD).symm⟩
    case measure => simp [intOf]; omega
   ·rw [if_neg he] at HD
    generalize bitN x k = q1 at *
    generalize bitN y k = q2 at *
    have hne : (q1 != q2) = true := by simpa using he
    go_wp2_with fail
    refine (uh HXk).mono ?_
    rintro e w9 ⟨rfl, hw9⟩
    subst w9
    go_wp2_with fail
    refine (uh HYk).mono ?_
    rintro e w9 ⟨rfl, hw9⟩
    subst w9
    go_wp2_with fail
    go_ret
    exact ⟨by rw [uh HD]; rfl, rfl⟩
  ·obtain rfl : k = 256 := by omega
   have HD : Hid (fd x y = 256) := Hd hfd.symm
   clear hfd
   go_wp2_with fail
   go_ret
   exact ⟨by rw [uh HD]; rfl, rfl⟩
theorem l07New_any (k v : ByteArray) (w : World) :
  Calls Tryz.prog 107 #[.string k, .string v] w fun e w' => e = .returned (.agg #[.string k, .string v, .int .i64 256, .slice none 0 0]) ∧ Below w.heap.size w w' := by
 have R1 := Hd (Blk.new w #[.string ⟨#[]⟩, .string ⟨#[]⟩, .int .i64 0, .slice none 0 0] 35 w.heap.size rfl)
 have B1 := Hd (bal w (.cells #[.string ⟨#[]⟩, .string ⟨#[]⟩, .int .i64 0, .slice none 0 0] 35))
 go_enter Tryz.func107, Tryz.ntmps107
 go_upto_region 1 with fail
 generalize w.alloc (.cells #[.string ⟨#[]⟩, .string ⟨#[]⟩, .int .i64 0, .slice none 0 0] 35) = w1 at *
 have r0 := (uh R1).cell 0 rfl
 have r1 := (uh R1).cell 1 rfl
 have r2 := (uh R1).cell 2 rfl
 have r3 := (uh R1).cell 3 rfl
 have f0 := (uh R1).fro 0
 have f1 := (uh R1).fro 1
 have f2 := (uh R1).fro 2
 have f3 := (uh R1).fro 3
 have hZ := set4_blk (uh R1) (.string k) (.string v) (.int .i64 256) (.slice none 0 0)
 have z0 := hZ.cell 0 rfl
 have z1 := hZ.cell 1 rfl
 have z2 := hZ.cell 2 rfl
 have z3 := hZ.cell 3 rfl
 have HT4 := set4_touch w1 w.heap.size (.string k) (.string v) (.int .i64 256) (.slice none 0 0)
 have HBF := Hd ((uh B1).trans (HT4.below (uh B1).size (fun q hq e => by omega)))
 unfold set4 at z0 z1 z2 z3
 clear hZ HT4
 go_wp2_with fail
 refine bodyPost_ret (v := .agg #[.string k, .string v, .int .i64 256, .slice none 0 0]) (by simp [results, Tryz.results107, go_sem, z0, z1, z2, z3]) rfl ?_
 exact ⟨rfl, uh HBF⟩
theorem wrapS (n : Int) (h0 : 0 ≤ n) (h1 : n < 9223372036854775808) : IntKind.i64.wrap n = n := by
 simp only [IntKind.wrap, IntKind.bits, IntKind.signed]
 simp
 omega
theorem l07Size_any : ∀ (t : Tr), TrOK t → t.lvN ≤ 1000 → ∀ (S : Nat → Prop) (kv : Value) (w : World), Brs S w kv t.toBr.kids →
  Calls Tryz.prog 87 #[.agg #[.string t.toBr.key, .string t.toBr.val, .int .i64 t.toBr.at_, kv]] w fun e w' => e = .returned (.int .i64 t.lvN) ∧ Below w.heap.size w w' := by
 intro t
 induction t with
 | leaf k v =>
  intro hok hsz S kv w hB
  obtain ⟨sa, cap, rfl, _, hcm⟩ := hB.shape
  have HNE := not_empty hok
  have hk := (okK_iff.1 hok.1).2
  have hv : v.size ≤ 60 := hok.2
  dsimp only [Tr.toBr, Br.key, Br.val, Br.at_, Br.kids] at HNE ⊢
  have B0 := Hd (bal w (.cells #[.string k, .string v, .int .i64 256, .slice sa 0 cap] 35))
  have X0 := Hd (Blk.new w #[.string k, .string v, .int .i64 256, .slice sa 0 cap] 35 w.heap.size rfl)
  have HE := Hd (fun wx => l07Empty_any k v 256 [] sa cap wx (by simp))
  have HLF := Hd (fun wx => l07Leaf_any k v 256 sa 0 cap wx (by omega))
  rw [HNE] at HE
  simp only [List.length_nil] at HE
  rw [show decide (0 = 0) = true from rfl] at HLF
  have HV : Hid ((Tr.leaf k v).lvN = 1) := rfl
  clear hB hok HNE
  go_enter Tryz.func87, Tryz.ntmps87
  go_wp2_with fail
  generalize w.alloc (.cells #[.string k, .string v, .int .i64 256, .slice sa 0 cap] 35) = w1 at *
  refine (uh HE w1).mono ?_
  rintro e w2 ⟨rfl, hb2⟩
  have B2 := hbt B0 hb2
  have X2 := Hd ((uh X0).below hb2)
  clear hb2
  have x0 := (uh X2).cell 0 rfl
  have x1 := (uh X2).cell 1 rfl
  have x2 := (uh X2).cell 2 rfl
  have x3 := (uh X2).cell 3 rfl
  go_wp2_with fail
  refine (uh HLF w2).mono ?_
  rintro e w3 ⟨rfl, hb3⟩
  have B3 := hbt B2 hb3
  have X3 := Hd ((uh X2).below hb3)
  clear hb3 x0 x1 x2 x3
  have x0 := (uh X3).cell 0 rfl
  have x1 := (uh X3).cell 1 rfl
  go_wp2_with fail
  go_ret
  exact ⟨ret_int (by rw [uh HV]; rfl), uh B3⟩
 | fork a hh l r ihl ihr =>
  intro hok hsz S kv w hB
  obtain ⟨sa, cap, rfl, _, hcm⟩ := hB.shape
  have HNE := not_empty hok
  obtain ⟨ha, _, okl, okr⟩ := hok
  dsimp only [Tr.toBr, Br.key, Br.val, Br.at_, Br.kids] at HNE hB ⊢
  have B0 := Hd (bal w (.cells #[.string ⟨#[]⟩, .string ⟨#[]⟩, .int .i64 a, .slice sa 2 cap] 35))
  have X0 := Hd (Blk.new w #[.string ⟨#[]⟩, .string ⟨#[]⟩, .int .i64 a, .slice sa 2 cap] 35 w.heap.size rfl)
  have HE := Hd (fun wx => l07Empty_any ⟨#[]⟩ ⟨#[]⟩ a [l.toBr, r.toBr] sa cap wx (by unfold maxLen; simp))
  have HLF := Hd (fun wx => l07Leaf_any ⟨#[]⟩ ⟨#[]⟩ a sa 2 cap wx (by unfold maxLen; omega))
  rw [HNE] at HE
  rw [show decide (2 = 0) = false from rfl] at HLF
  obtain ⟨bb, off, kvf, rfl, _, hat⟩ := hB.at (by simp)
  have hbb := hat.lt
  obtain ⟨s00, s01, s02, s03⟩ := hat.cells 0 (by simp)
  obtain ⟨s10, s11, s12, s13⟩ := hat.cells 1 (by simp)
  have K0 := Hd (hat.kids 0 (by simp))
  have K1 := Hd (hat.kids 1 (by simp))
  simp only [List.getD_cons_zero, List.getD_cons_succ, Nat.zero_mul, Nat.add_zero, Nat.one_mul] at s00 s01 s02 s03 s10 s11 s12 s13 K0 K1
  obtain ⟨ka0, kc0, hkv0, _, _⟩ := (uh K0).shape
  obtain ⟨ka1, kc1, hkv1, _, _⟩ := (uh K1).shape
  rw [hkv0] at K0 s03
  rw [hkv1] at K1 s13
  have hz2 : l.lvN + r.lvN ≤ 1000 := hsz
  have hz0 : l.lvN ≤ 1000 := by omega
  have hz1 : r.lvN ≤ 1000 := by omega
  have HL := Hd (fun wx (hx : Below w.heap.size w wx) => ihl okl hz0 S _ wx ((uh K0).blw hx))
  have HR := Hd (fun wx (hx : Below w.heap.size w wx) => ihr okr hz1 S _ wx ((uh K1).blw hx))
  have HV : Hid ((Tr.fork a hh l r).lvN = l.lvN + r.lvN) := rfl
  clear hB hat hkv0 hkv1 K0 K1 ihl ihr HNE
  generalize l.toBr = b0 at *
  generalize r.toBr = b1 at *
  generalize l.lvN = rl at *
  generalize r.lvN = rr at *
  simp only [List.length_cons, List.length_nil] at HE
  go_enter Tryz.func87, Tryz.ntmps87
  go_wp2_with fail
  generalize w.alloc (.cells #[.string ⟨#[]⟩, .string ⟨#[]⟩, .int .i64 a, .slice (some ⟨bb, off, none⟩) 2 cap] 35) = w1 at *
  refine (uh HE w1).mono ?_
  rintro e w2 ⟨rfl, hb2⟩
  have B2 := hbt B0 hb2
  have X2 := Hd ((uh X0).below hb2)
  clear hb2
  have x0 := (uh X2).cell 0 rfl
  have x1 := (uh X2).cell 1 rfl
  have x2 := (uh X2).cell 2 rfl
  have x3 := (uh X2).cell 3 rfl
  go_wp2_with fail
  refine (uh HLF w2).mono ?_
  rintro e w3 ⟨rfl, hb3⟩
  have B3 := hbt B2 hb3
  have X3 := Hd ((uh X2).below hb3)
  clear hb3 x0 x1 x2 x3
  have hX := (uh X3).1
  have hw3 := (uh B3).size
  have HSX : Hid (∀ wx, Below w3.heap.size w3 wx → wx.cell? ⟨w.heap.size, 3, none⟩ = some (.slice (some ⟨bb, off, none⟩) 2 cap) ∧ wx.cell? ⟨bb, off, none⟩ = some (.string b0.key) ∧ wx.cell? ⟨bb, off + 1, none⟩ = some (.string b0.val) ∧ wx.cell? ⟨bb, off + 2, none⟩ = some (.int .i64 b0.at_) ∧ wx.cell? ⟨bb, off + 3, none⟩ = some (.slice ka0 b0.kids.length kc0) ∧ wx.cell? ⟨bb, off + 4, none⟩ = some (.string b1.key) ∧ wx.cell? ⟨bb, off + 4 + 1, none⟩ = some (.string b1.val) ∧ wx.cell? ⟨bb, off + 4 + 2, none⟩ = some (.int .i64 b1.at_) ∧ wx.cell? ⟨bb, off + 4 + 3, none⟩ = some (.slice ka1 b1.kids.length kc1)) := Hd (fun wx hb => by
   have hb' := (uh B3).trans (hb.mono hw3)
   have X := (uh X3).below hb
   exact ⟨X.cell 3 rfl, (hb'.cell (p := ⟨bb, off, none⟩) hbb).trans s00, (hb'.cell (p := ⟨bb, off + 1, none⟩) hbb).trans s01, (hb'.cell (p := ⟨bb, off + 2, none⟩) hbb).trans s02, (hb'.cell (p := ⟨bb, off + 3, none⟩) hbb).trans s03, (hb'.cell (p := ⟨bb, off + 4, none⟩) hbb).trans s10, (hb'.cell (p := ⟨bb, off + 4 + 1, none⟩) hbb).trans s11, (hb'.cell (p := ⟨bb, off + 4 + 2, none⟩) hbb).trans s12, (hb'.cell (p := ⟨bb, off + 4 + 3, none⟩) hbb).trans s13⟩)
  obtain ⟨y3, t00, t01, t02, t03, t10, t11, t12, t13⟩ := uh HSX w3 (Below.refl _ _)
  clear s00 s01 s02 s03 s10 s11 s12 s13
  go_wp2_with fail
  go_region_held3 (fun wx => wx.cell? ⟨w.heap.size, 3, none⟩ = some (.slice (some ⟨bb, off, none⟩) 2 cap) ∧ wx.cell? ⟨bb, off, none⟩ = some (.string b0.key) ∧ wx.cell? ⟨bb, off + 1, none⟩ = some (.string b0.val) ∧ wx.cell? ⟨bb, off + 2, none⟩ = some (.int .i64 b0.at_) ∧ wx.cell? ⟨bb, off + 3, none⟩ = some (.slice ka0 b0.kids.length kc0) ∧ wx.cell? ⟨bb, off + 4, none⟩ = some (.string b1.key) ∧ wx.cell? ⟨bb, off + 4 + 1, none⟩ = some (.string b1.val) ∧ wx.cell? ⟨bb, off + 4 + 2, none⟩ = some (.int .i64 b1.at_) ∧ wx.cell? ⟨bb, off + 4 + 3, none⟩ = some (.slice ka1 b1.kids.length kc1)) (first | go_keep | exact uh HSX _ hc2 | exact uh HSX _ hc1) (first
   | (go_at_call 87; refine (uh HR _ ((uh B3).trans (hc1.mono hw3))).mono ?_; rintro e w5 ⟨rfl, hb5⟩; have hc2 := hc1.trans (hb5.mono hc1.size))
   | (go_at_call 87; refine (uh HL _ ((uh B3).trans (((Below.refl _ w3).drew).mono hw3))).mono ?_; rintro e w4 ⟨rfl, hb4⟩; have hc1 : Below w3.heap.size w3 w4 := ((Below.refl _ w3).drew).trans hb4))
  have K := Hd ((uh B3).trans (hc2.mono hw3))
  clear hb4 hb5 hc1 hc2 y3 t00 t01 t02 t03 t10 t11 t12 t13
  go_wp2_with fail
  go_ret
  refine ⟨ret_int ?_, uh K⟩
  rw [uh HV, wrapS _ (by omega) (by omega)]
  omega
end Go.Proofs.YtnhhnjmjodmacaaGreatDoor.Sha
