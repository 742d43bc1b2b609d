/- For every two lists of bytes that can be read, laws.FnAnswers returns true, both read as they did, and so do the two tables of words, which the card ties to the program's text. Condition: the listed tables start as the program's text lays them. (Written by py/lfa.py.) -/
import Derived.Test.YtlbcdngidfjogaaGreatDoorQba20
import Derived.Test.YtlbcdngidfjogaaGreatDoorQba22
import Derived.Test.YtlbcdngidfjogaaGreatDoorQba08
import Derived.Test.YtlbcdngidfjogaaGreatDoorQba00
import Derived.Test.YtlbcdngidfjogaaGreatDoorCards
import Derived.Test.YtlbcdngidfjogaaGreatDoorTie
import Derived.Deep.DeepCutAuto
namespace Go.Proofs.YtlbcdngidfjogaaGreatDoor.fnAnswers
set_option maxRecDepth 100000
set_option maxHeartbeats 8000000
open Go.ChangeShapes Go.WideShapes Go.ChangeAt Go.RowKit Go.Deep Sha
open Go.ChangeMaps (open_string shut_string)
set_option linter.unusedVariables false
set_option linter.unusedSimpArgs false
theorem eql_rep (w : World) (x y : Int) (s : ByteArray) : (binOp .eql 27 (.agg #[.int .i64 x, .int .i64 y, .string s]) (.agg #[.int .i64 x, .int .i64 y, .string s])).run Tryz.prog w = .ok (.bool true) w := by
 rw [run_eql_struct]
 rw [run_equalIn_struct w 9999 27 _ _ (by kernel_rfl) (by kernel_rfl)]
 simp only [Program.fieldsOf, Tryz.underlying27]
 simp [Op.eqFields, go_sem]
theorem cm_small {c : Cm} (h : cmK c = true) : c.ky.size ≤ 60 ∧ c.vl.size ≤ 60 := by
 unfold cmK cmdOK at h
 split at h
 ·rename_i h1
  simp only [Bool.and_eq_true, decide_eq_true_eq] at h1
  refine ⟨?_, h1.2⟩
  split at h
  ·have := inB_iff.1 h; omega
  ·split at h
   ·simp only [Bool.and_eq_true] at h
    have := inB_iff.1 h.1; omega
   ·split at h
    ·simp only [Bool.and_eq_true] at h
     have := emptyB_iff.1 h.1.1; omega
    ·cases h
 ·cases h
theorem css_take {w : World} {la : Option Addr} {lc : Nat} {L : List Cm} (h : Css w (.slice la L.length lc) L) (n : Nat) (hn : n ≤ L.length) : Css w (.slice la n lc) (L.take n) := by
 have hl : (L.take n).length = n := by rw [List.length_take]; omega
 obtain ⟨a, c, e, h1, h2, h3⟩ := h
 simp only [Value.slice.injEq] at e
 obtain ⟨rfl, _, rfl⟩ := e
 refine ⟨la, lc, by rw [hl], by rw [hl]; omega, h2, ?_⟩
 rcases h3 with h0 | ⟨b, off, e, hb, hc⟩
 ·left; rw [hl]; omega
 ·refine .inr ⟨b, off, e, hb, fun i hi => ?_⟩
  rw [hl] at hi
  rw [take_getD L n i hi]
  exact hc i (by omega)
theorem walk (a : Option Addr) (len cap : Nat) (zs : List Int) (a2 : Option Addr) (len2 cap2 : Nat) (zs2 : List Int) (w : World) (hR : IsRow .u8 w a len cap zs) (hR2 : IsRow .u8 w a2 len2 cap2 zs2) (hF : First w) (hT : Table w) :
  Calls Tryz.prog 3 #[.slice a len cap, .slice a2 len2 cap2] w fun e w' => e = .returned (.bool true) ∧ Below w.heap.size w w' := by
 have HT := Hd (show Tab w from ⟨hF, hT⟩)
 have hB := bytes_of_row hR
 have hB2 := bytes_of_row hR2
 have hon : (zs.take len).length = len := by
  rcases hR with ⟨_, rfl, _, rfl⟩ | ⟨x, _, h1, h2, h3, _⟩
  ·rfl
  ·rw [List.length_take]; omega
 have hom : len ≤ 9223372036854775807 ∧ len2 ≤ 9223372036854775807 := by
  have e1 : len ≤ maxLen := by
   rcases hR with ⟨_, rfl, _, rfl⟩ | ⟨x, _, h1, h2, h3, _⟩
   ·unfold maxLen; omega
   ·omega
  have e2 : len2 ≤ maxLen := by
   rcases hR2 with ⟨_, rfl, _, rfl⟩ | ⟨x, _, h1, h2, h3, _⟩
   ·unfold maxLen; omega
   ·omega
  unfold maxLen at e1 e2
  omega
 obtain ⟨hom1, hom2⟩ := hom
 generalize zs.take len = od at *
 generalize zs2.take len2 = od2 at *
 subst hon
 have HB := Hd hB
 have HB2 := Hd hB2
 clear hB hB2 hR hR2 hF hT
 by_cases h1 : 1048576 < od.length
 ·have g1 : (1048576 : Int) < (od.length : Int) := by omega
  go_enter Tryz.func3, Tryz.ntmps3
  go_wp2_with fail
  go_ret
  exact ⟨rfl, Below.refl _ _⟩
 have g1 : ¬ (1048576 : Int) < (od.length : Int) := by omega
 by_cases h2 : 1048576 < len2
 ·have g2 : (1048576 : Int) < (len2 : Int) := by omega
  go_enter Tryz.func3, Tryz.ntmps3
  go_wp2_with fail
  go_ret
  exact ⟨rfl, Below.refl _ _⟩
 have g2 : ¬ (1048576 : Int) < (len2 : Int) := by omega
 go_enter Tryz.func3, Tryz.ntmps3
 go_wp2_with fail
 refine (commandsOf_any a cap od w (uh HB) (by omega)).mono ?_
 rintro e w1 ⟨v1, L, rfl, hO1, hL2, hL100, hok, hb1⟩
 have K1 := Hd hb1
 have C1 := Hd hO1.read
 obtain ⟨la, lc, hv1, hlc, _⟩ := hO1.read
 subst hv1
 have HOK : Hid (∀ i, i < L.length → cmK (L.getD i default) = true) := Hd hok
 clear hO1 hok hb1
 have HAT := Hd (at_any _ od2 0 (L.length : Int) w1 ((uh HB2).below (uh K1)) (by omega) (by omega) (by omega) (by omega))
 go_wp2_with fail
 refine (uh HAT).mono ?_
 rintro e w2 ⟨x2, rfl, hx0, hx1, d2, hw2⟩
 have hb2 : Below w1.heap.size w1 w2 := by rw [hw2]; exact below_drewN (Below.refl _ _) d2
 have K2 := hbt K1 hb2
 have C2 := Hd ((uh C1).below hb2)
 clear hb2 hw2 K1 C1 HAT
 obtain ⟨k, rfl⟩ : ∃ k : Nat, x2 = (k : Int) := ⟨x2.toNat, by omega⟩
 have hk : k < L.length := by omega
 have HCM := Hd (fun i (hi : i < L.length) => (show (L.getD i default).ky.size ≤ maxLen ∧ (L.getD i default).vl.size ≤ maxLen from by
  have h9 := uh HOK i hi
  have h8 := cm_small h9
  unfold maxLen
  omega))
 obtain ⟨j, hjk, ea, eb⟩ := ans_pure hk (by omega) (fun i hi => uh HOK i hi)
 have htl : (L.take (k + 1)).length = k + 1 := by rw [List.length_take]; omega
 have HI1 := Hd (fun (wx : World) (hb : Below w2.heap.size w2 wx) => implAnswerIn_any _ L (L.getD k default) wx ((uh C2).below hb) (by omega) (uh HCM) (uh HCM k hk) ((uh HT).below ((uh K2).trans (hb.mono (uh K2).size))))
 have HS1 := Hd (fun (wx : World) (hb : Below w2.heap.size w2 wx) => specAnswerIn_any _ L (L.getD k default) wx ((uh C2).below hb) (by omega) (uh HCM) (uh HCM k hk))
 have HI2 := Hd (fun (wx : World) (hb : Below w2.heap.size w2 wx) => implAnswerIn_any _ (L.take (k + 1)) (L.getD k default) wx (css_take ((uh C2).below hb) (k + 1) (by omega)) (by omega) (fun i hi => by rw [htl] at hi; rw [take_getD L (k + 1) i hi]; exact uh HCM i (by omega)) (uh HCM k hk) ((uh HT).below ((uh K2).trans (hb.mono (uh K2).size))))
 rw [ea] at HI1 HS1
 rw [eb] at HI2
 dsimp only at HI1 HS1 HI2
 generalize (reA L j).kd = rk at *
 generalize (reA L j).pl = rp at *
 generalize (reA L j).vl = rv at *
 clear ea eb htl
 obtain ⟨b, g0, rfl, hbl, hsrc⟩ : ∃ b g0, la = some ⟨b, g0, none⟩ ∧ b < w2.heap.size ∧ (w2.cell? ⟨b, g0 + k * 5, none⟩ = some (.int .i64 (L.getD k default).kd) ∧ w2.cell? ⟨b, g0 + k * 5 + 1, none⟩ = some (.int .i64 (L.getD k default).ss) ∧ w2.cell? ⟨b, g0 + k * 5 + 2, none⟩ = some (.int .i64 (L.getD k default).sq) ∧ w2.cell? ⟨b, g0 + k * 5 + 3, none⟩ = some (.string (L.getD k default).ky) ∧ w2.cell? ⟨b, g0 + k * 5 + 4, none⟩ = some (.string (L.getD k default).vl)) := by
  obtain ⟨a9, c9, e9, _, _, h9⟩ := uh C2
  simp only [Value.slice.injEq] at e9
  obtain ⟨rfl, _, rfl⟩ := e9
  rcases h9 with h0 | ⟨b, g0, e, hb, hc⟩
  ·omega
  ·exact ⟨b, g0, e, hb, hc k hk⟩
 obtain ⟨s0, s1, s2, s3, s4⟩ := hsrc
 clear C2 HOK HCM
 generalize L.getD k default = f at *
 obtain ⟨f0, f1, f2, f3, f4⟩ := f
 dsimp only at s0 s1 s2 s3 s4 HI1 HS1 HI2
 have k0 : (0 : Int) ≤ (k : Int) := by omega
 have k1 : (k : Int) < (L.length : Int) := by omega
 have q1 : IntKind.i64.wrap ((k : Int) + 1) = (k : Int) + 1 := wrapA _ (by omega) (by omega)
 have HSR := Hd (And.intro s0 (And.intro s1 (And.intro s2 (And.intro s3 s4))))
 clear hx0 hx1
 go_wp2_with fail
 refine (uh HI1 w2 (Below.refl _ _)).mono ?_
 rintro e w3 ⟨rfl, hb3⟩
 have B3 := Hd (hb3.alloc hb3.size (.cells #[.int .i64 rk, .int .i64 rp, .string rv] 27))
 have X3 := Hd (Blk.new w3 #[.int .i64 rk, .int .i64 rp, .string rv] 27 w3.heap.size rfl)
 clear hb3 s0 s1 s2 s3 s4
 go_upto_region 6 with fail
 generalize w3.alloc (.cells #[.int .i64 rk, .int .i64 rp, .string rv] 27) = w4 at *
 generalize w3.heap.size = xa at *
 obtain ⟨s0, s1, s2, s3, s4⟩ := uh HSR
 have t0 := ((uh B3).cell (p := ⟨b, g0 + k * 5, none⟩) hbl).trans s0
 have t1 := ((uh B3).cell (p := ⟨b, g0 + k * 5 + 1, none⟩) hbl).trans s1
 have t2 := ((uh B3).cell (p := ⟨b, g0 + k * 5 + 2, none⟩) hbl).trans s2
 have t3 := ((uh B3).cell (p := ⟨b, g0 + k * 5 + 3, none⟩) hbl).trans s3
 have t4 := ((uh B3).cell (p := ⟨b, g0 + k * 5 + 4, none⟩) hbl).trans s4
 clear s0 s1 s2 s3 s4
 go_wp2_with fail
 refine (uh HS1 w4 (uh B3)).mono ?_
 rintro e w5 ⟨rfl, hb5⟩
 have B5' := (uh B3).trans (hb5.mono (uh B3).size)
 have B5 := Hd (B5'.alloc B5'.size (.cells #[.int .i64 rk, .int .i64 rp, .string rv] 27))
 have X5 := Hd (((uh X3).below hb5).alloc (.cells #[.int .i64 rk, .int .i64 rp, .string rv] 27))
 have Y5 := Hd (Blk.new w5 #[.int .i64 rk, .int .i64 rp, .string rv] 27 w5.heap.size rfl)
 clear hb5 t0 t1 t2 t3 t4 B3 X3 B5'
 go_upto_region 7 with fail
 generalize w5.alloc (.cells #[.int .i64 rk, .int .i64 rp, .string rv] 27) = w6 at *
 generalize w5.heap.size = xb at *
 obtain ⟨s0, s1, s2, s3, s4⟩ := uh HSR
 have t0 := ((uh B5).cell (p := ⟨b, g0 + k * 5, none⟩) hbl).trans s0
 have t1 := ((uh B5).cell (p := ⟨b, g0 + k * 5 + 1, none⟩) hbl).trans s1
 have t2 := ((uh B5).cell (p := ⟨b, g0 + k * 5 + 2, none⟩) hbl).trans s2
 have t3 := ((uh B5).cell (p := ⟨b, g0 + k * 5 + 3, none⟩) hbl).trans s3
 have t4 := ((uh B5).cell (p := ⟨b, g0 + k * 5 + 4, none⟩) hbl).trans s4
 clear s0 s1 s2 s3 s4
 have hblq : b < w6.heap.size := Nat.lt_of_lt_of_le hbl (uh B5).size
 have lk : (k : Int) + 1 ≤ (lc : Int) := by omega
 have lk0 : (0 : Int) ≤ (k : Int) + 1 := by omega
 go_cut [13, 14, 15] (fun v13 v14 v15 wx => ∃ xc : Nat, v13 = .pointer (some ⟨xc, 0, none⟩) ∧ v14 = .int .i64 (j : Int) ∧ v15 = .int .i64 0 ∧ Hid (Blk wx xc [.int .i64 rk, .int .i64 rp, .string rv] ∧ Below w6.heap.size w6 wx))
 case first =>
  have HD := Hd (below_drewN (Below.refl w6.heap.size w6) 1)
  change Hid (Below w6.heap.size w6 w6.drew) at HD
  go_wp2_with fail
  refine wp_region_noPanic ?_
  refine wp_region_held_drew (S := (fun wx => wx.cell? ⟨b, g0 + k * 5, none⟩ = some (.int .i64 f0) ∧ wx.cell? ⟨b, g0 + k * 5 + 1, none⟩ = some (.int .i64 f1) ∧ wx.cell? ⟨b, g0 + k * 5 + 2, none⟩ = some (.int .i64 f2) ∧ wx.cell? ⟨b, g0 + k * 5 + 3, none⟩ = some (.string f3) ∧ wx.cell? ⟨b, g0 + k * 5 + 4, none⟩ = some (.string f4))) (by kernel_rfl) ?_ (fun hHeld => ?_)
  ·exact ⟨t0, t1, t2, t3, t4⟩
  obtain ⟨wd, hwd⟩ : ∃ wd, wd = w6.drew := ⟨_, rfl⟩
  rw [← hwd] at HD hHeld ⊢
  clear hwd
  refine tkH 0 rfl ?_
  refine tkH 1 rfl ?_
  refine tkH 2 rfl ?_
  refine tkH 3 rfl ?_
  refine tkH 4 rfl ?_
  refine tkH 5 rfl ?_
  refine tkH 6 rfl ?_
  refine tkH 7 rfl ?_
  refine rdy2 8 13 rfl rfl (fun K hK => ?_) (fun K hK => ?_)
  ·
   go_simp
   refine (uh HI2 wd ((uh B5).trans ((uh HD).mono (uh B5).size))).mono ?_
   rintro e w7 ⟨rfl, hbs⟩
   have HC := hbt HD hbs
   go_wp2_with fail
   refine outH hK ?_ (fun hHeld => ?_)
   ·exact ⟨((uh HC).cell (p := ⟨b, g0 + k * 5, none⟩) hblq).trans t0, ((uh HC).cell (p := ⟨b, g0 + k * 5 + 1, none⟩) hblq).trans t1, ((uh HC).cell (p := ⟨b, g0 + k * 5 + 2, none⟩) hblq).trans t2, ((uh HC).cell (p := ⟨b, g0 + k * 5 + 3, none⟩) hblq).trans t3, ((uh HC).cell (p := ⟨b, g0 + k * 5 + 4, none⟩) hblq).trans t4⟩
   clear hK K
   refine tkH 9 rfl ?_
   refine tkH 10 rfl ?_
   refine tkH 11 rfl ?_
   refine tkH 12 rfl ?_
   refine rdy1 13 rfl (fun K hK => ?_)
   go_simp
   have HQ := Hd ((uh HC).alloc (uh HC).size (.cells #[.int .i64 0, .int .i64 0, .string ⟨#[]⟩] 27))
   have HX := Hd (Blk.new w7 #[.int .i64 0, .int .i64 0, .string ⟨#[]⟩] 27 w7.heap.size rfl)
   have hxc : w6.heap.size ≤ w7.heap.size := (uh HC).size
   refine outH hK ?_ (fun hHeld => ?_)
   ·exact ⟨((uh HQ).cell (p := ⟨b, g0 + k * 5, none⟩) hblq).trans t0, ((uh HQ).cell (p := ⟨b, g0 + k * 5 + 1, none⟩) hblq).trans t1, ((uh HQ).cell (p := ⟨b, g0 + k * 5 + 2, none⟩) hblq).trans t2, ((uh HQ).cell (p := ⟨b, g0 + k * 5 + 3, none⟩) hblq).trans t3, ((uh HQ).cell (p := ⟨b, g0 + k * 5 + 4, none⟩) hblq).trans t4⟩
   clear hK K
   generalize w7.alloc (.cells #[.int .i64 0, .int .i64 0, .string ⟨#[]⟩] 27) = w8 at *
   generalize w7.heap.size = xc at *
   have z0 := (uh HX).cell 0 rfl
   have z1 := (uh HX).cell 1 rfl
   have z2 := (uh HX).cell 2 rfl
   have y0 := (uh HX).fro 0
   have y1 := (uh HX).fro 1
   have y2 := (uh HX).fro 2
   have HXN := Hd ((((uh HX).set 0 (.int .i64 rk) (by simp)).set 1 (.int .i64 rp) (by simp)).set 2 (.string rv) (by simp))
   have HBN := Hd ((((uh HQ).setCell (p := ⟨xc, 0, none⟩) hxc (.int .i64 rk)).setCell (p := ⟨xc, 1, none⟩) hxc (.int .i64 rp)).setCell (p := ⟨xc, 2, none⟩) hxc (.string rv))
   refine rdy1 14 rfl (fun K hK => ?_)
   go_simp
   refine outH hK ?_ (fun hHeld => ?_)
   ·exact ⟨((uh HBN).cell (p := ⟨b, g0 + k * 5, none⟩) hblq).trans t0, ((uh HBN).cell (p := ⟨b, g0 + k * 5 + 1, none⟩) hblq).trans t1, ((uh HBN).cell (p := ⟨b, g0 + k * 5 + 2, none⟩) hblq).trans t2, ((uh HBN).cell (p := ⟨b, g0 + k * 5 + 3, none⟩) hblq).trans t3, ((uh HBN).cell (p := ⟨b, g0 + k * 5 + 4, none⟩) hblq).trans t4⟩
   clear hK K
   refine tkH 15 rfl ?_
   refine tkH 16 rfl ?_
   refine wpAnyH_done (by kernel_rfl) (NoPanic.normal ?_) _
   go_wp2_with fail
   go_meet
   exact ⟨xc, rfl, rfl, rfl, Hd ⟨uh HXN, uh HBN⟩⟩
  ·
   go_simp
   have HQ0 := Hd ((uh HD).alloc (uh HD).size (.cells #[.int .i64 0, .int .i64 0, .string ⟨#[]⟩] 27))
   have HX0 := Hd (Blk.new wd #[.int .i64 0, .int .i64 0, .string ⟨#[]⟩] 27 wd.heap.size rfl)
   have hxc : w6.heap.size ≤ wd.heap.size := (uh HD).size
   refine outH hK ?_ (fun hHeld => ?_)
   ·exact ⟨((uh HQ0).cell (p := ⟨b, g0 + k * 5, none⟩) hblq).trans t0, ((uh HQ0).cell (p := ⟨b, g0 + k * 5 + 1, none⟩) hblq).trans t1, ((uh HQ0).cell (p := ⟨b, g0 + k * 5 + 2, none⟩) hblq).trans t2, ((uh HQ0).cell (p := ⟨b, g0 + k * 5 + 3, none⟩) hblq).trans t3, ((uh HQ0).cell (p := ⟨b, g0 + k * 5 + 4, none⟩) hblq).trans t4⟩
   clear hK K
   generalize wd.alloc (.cells #[.int .i64 0, .int .i64 0, .string ⟨#[]⟩] 27) = w8 at *
   generalize wd.heap.size = xc at *
   refine rdy1 8 rfl (fun K hK => ?_)
   go_simp
   refine (uh HI2 w8 ((uh B5).trans ((uh HQ0).mono (uh B5).size))).mono ?_
   rintro e w9 ⟨rfl, hbs⟩
   have HC := hbt HQ0 hbs
   have HQ := HC
   have HX := Hd ((uh HX0).below hbs)
   go_wp2_with fail
   refine outH hK ?_ (fun hHeld => ?_)
   ·exact ⟨((uh HC).cell (p := ⟨b, g0 + k * 5, none⟩) hblq).trans t0, ((uh HC).cell (p := ⟨b, g0 + k * 5 + 1, none⟩) hblq).trans t1, ((uh HC).cell (p := ⟨b, g0 + k * 5 + 2, none⟩) hblq).trans t2, ((uh HC).cell (p := ⟨b, g0 + k * 5 + 3, none⟩) hblq).trans t3, ((uh HC).cell (p := ⟨b, g0 + k * 5 + 4, none⟩) hblq).trans t4⟩
   clear hK K
   refine tkH 9 rfl ?_
   refine tkH 10 rfl ?_
   refine tkH 11 rfl ?_
   refine tkH 12 rfl ?_
   have z0 := (uh HX).cell 0 rfl
   have z1 := (uh HX).cell 1 rfl
   have z2 := (uh HX).cell 2 rfl
   have y0 := (uh HX).fro 0
   have y1 := (uh HX).fro 1
   have y2 := (uh HX).fro 2
   have HXN := Hd ((((uh HX).set 0 (.int .i64 rk) (by simp)).set 1 (.int .i64 rp) (by simp)).set 2 (.string rv) (by simp))
   have HBN := Hd ((((uh HQ).setCell (p := ⟨xc, 0, none⟩) hxc (.int .i64 rk)).setCell (p := ⟨xc, 1, none⟩) hxc (.int .i64 rp)).setCell (p := ⟨xc, 2, none⟩) hxc (.string rv))
   refine rdy1 14 rfl (fun K hK => ?_)
   go_simp
   refine outH hK ?_ (fun hHeld => ?_)
   ·exact ⟨((uh HBN).cell (p := ⟨b, g0 + k * 5, none⟩) hblq).trans t0, ((uh HBN).cell (p := ⟨b, g0 + k * 5 + 1, none⟩) hblq).trans t1, ((uh HBN).cell (p := ⟨b, g0 + k * 5 + 2, none⟩) hblq).trans t2, ((uh HBN).cell (p := ⟨b, g0 + k * 5 + 3, none⟩) hblq).trans t3, ((uh HBN).cell (p := ⟨b, g0 + k * 5 + 4, none⟩) hblq).trans t4⟩
   clear hK K
   refine tkH 15 rfl ?_
   refine tkH 16 rfl ?_
   refine wpAnyH_done (by kernel_rfl) (NoPanic.normal ?_) _
   go_wp2_with fail
   go_meet
   exact ⟨xc, rfl, rfl, rfl, Hd ⟨uh HXN, uh HBN⟩⟩
 case rest =>
  obtain ⟨xc, rfl, rfl, rfl, HXC⟩ := hcut
  have X9 := (uh X5).below (uh HXC).2
  have Y9 := (uh Y5).below (uh HXC).2
  have Z9 := (uh HXC).1
  have K9 := Hd ((uh K2).trans (((uh B5).trans ((uh HXC).2.mono (uh B5).size)).mono (uh K2).size))
  have x0 := X9.cell 0 rfl
  have x1 := X9.cell 1 rfl
  have x2 := X9.cell 2 rfl
  have y0 := Y9.cell 0 rfl
  have y1 := Y9.cell 1 rfl
  have y2 := Y9.cell 2 rfl
  have z0 := Z9.cell 0 rfl
  have z1 := Z9.cell 1 rfl
  have z2 := Z9.cell 2 rfl
  clear X9 Y9 Z9 HXC X5 Y5 t0 t1 t2 t3 t4
  have e1 := fun wx => eql_rep wx rk rp rv
  have e3 : Tryz.prog.eqGuardType Tryz.prog.depth 27 = false := by kernel_rfl
  have bj : ((j : Int) == (j : Int)) = true := by simp
  have bl : decide ((j : Int) ≤ (k : Int)) = true := decide_eq_true (by omega)
  have bl2 : (j : Int) ≤ (k : Int) := by omega
  go_wp2_with fail
  go_ret
  exact ⟨rfl, uh K9⟩

theorem vars_of_laid {W : World} (h : laidMetH Tryz.prog Rows.fnAnswersRow.laid W) :
  W.var? Tryz.prog "loop.example/g00220/impl.firstWords" = some firstCells ∧ W.var? Tryz.prog "loop.example/g00220/impl.roundWords" = some roundCells := by
 rw [MakeChecks.laidMetH_plain _ _ _ (by kernel_rfl)] at h
 obtain ⟨ps, ⟨g0, t0, cs0, f0, p0, q0, hg0, ht0, hv0, hd0, ⟨g1, t1, cs1, f1, p1, q1, hg1, ht1, hv1, hd1, _, _⟩, _⟩, _, _⟩ := h
 obtain rfl := Option.some.inj (gFirst.symm.trans hg0)
 obtain rfl := Option.some.inj (gRound.symm.trans hg1)
 obtain rfl := Option.some.inj (gFirstType.symm.trans ht0)
 obtain rfl := Option.some.inj (gRoundType.symm.trans ht1)
 have e0 := Lib.cells_of_tab (k := .u32) (cs := cs0.toList) (zs := iL.map fun (n : Nat) => (n : Int)) Tryz.underlying128 Tryz.underlying123 cellsE cellsA hd0
 have e1 := Lib.cells_of_tab (k := .u32) (cs := cs1.toList) (zs := kL.map fun (n : Nat) => (n : Int)) Tryz.underlying132 Tryz.underlying123 cellsE cellsB hd1
 have a0 : cs0 = firstCells := by
  have : cs0.toList = firstCells.toList := e0.trans (by kernel_rfl)
  exact Array.toList_inj.1 this
 have a1 : cs1 = roundCells := by
  have : cs1.toList = roundCells.toList := e1.trans (by kernel_rfl)
  exact Array.toList_inj.1 this
 exact ⟨by rw [hv0, a0], by rw [hv1, a1]⟩
theorem door_met (os : Os) (args : Array Value) : laidMetH Tryz.prog Rows.fnAnswersRow.laid ((World.doorLaid Tryz.prog 19 os).forCall (fun _ _ => 0) ⟨#[], args, []⟩).memory :=
 laidMetH_of_parts3 (fuel := 8) (laidMet_of_run' 8 (by kernel_rfl) (by kernel_rfl)) (by kernel_rfl) (by kernel_rfl)
theorem lifted (os : Os) (started : os.Started) (H : Type) (enc : TypeId × Value → H) :
  ReturnsInHanded {} Tryz.checked os 3 .any (fun w args => (Rows.fnAnswersSpec.pre enc Tryz.prog Tryz.f3 [] false w args ∧ laidMetH Tryz.prog Rows.fnAnswersRow.laid w) ∧ sizedMet enc Tryz.prog Tryz.f3 (OpenSpec.ofChange Rows.fnAnswersSpec) false w args)
   (Rows.fnAnswersSpec.post enc Tryz.prog Tryz.f3 false true false false) := by
 refine returnsInHanded_of_change_and (C := Tryz.checked) (X := fun w _ => laidMetH Tryz.prog Rows.fnAnswersRow.laid w) (fun _ _ _ hh h => h.of_heap hh) own started (by kernel_rfl) Tryz.func3
  (ChangeSpec.witness_shaped (enc := enc) (C := Tryz.checked) (os := os) (X := fun w _ => laidMetH Tryz.prog Rows.fnAnswersRow.laid w) false (World.doorLaid Tryz.prog 19 os) #[.slice none 0 0, .slice none 0 0] 8 rfl (World.shaped_of_RefB (by kernel_rfl) (by kernel_rfl)) (by kernel_rfl) (by kernel_rfl) (by kernel_rfl) (door_met os _)) ?_
 intro W base args ds gs before hval0 hW _ _ hL _
 have hval : ∀ (j : Nat) t v, Tryz.f3.params[j]? = some t → args[j]? = some v → Value.okWide Tryz.prog W .any base t v := hval0
 have hW' := hW
 obtain ⟨p, q, hA0, hV0, rfl, hfz, hnd⟩ := hW
 have hA : DataW.TrodAll enc Tryz.prog W 0 (fun _ => true) true Tryz.f3.params.toList args.toList ds p := hA0
 have hV : DataW.TrodVars enc Tryz.prog W (fun _ => true) ["loop.example/g00220/impl.firstWords", "loop.example/g00220/impl.roundWords"] gs q := hV0
 rw [Tryz.params3] at hA hval
 obtain ⟨v0, vs0, d0, ds0, p0, q0, hargs, rfl, rfl, h0, r0⟩ := trodAll_cons hA
 obtain ⟨v1, vs1, d1, ds1, p1, q1, rfl, rfl, rfl, h1, r1⟩ := trodAll_cons r0
 obtain ⟨rfl, rfl, rfl⟩ := trodAll_nil r1
 obtain rfl : args = #[v0, v1] := by cases args; simp_all
 have k0 := h0
 have lt0 : ∀ x ∈ p0, x.block < W.heap.size := by obtain ⟨m, hm⟩ := k0; exact DataW.trod_lt m _ _ _ hm
 obtain ⟨a0, len0, cap0, rfl⟩ := okWide_slice Tryz.underlying22 (hval 0 22 v0 rfl rfl)
 obtain ⟨z0, w0⟩ : ∃ zs, IsRow .u8 W a0 len0 cap0 zs := by
  obtain ⟨fuel, hf⟩ := h0
  rcases open_ints Tryz.underlying22 Tryz.underlying5 (by kernel_rfl) hf with ⟨hcs, _⟩ | ⟨x, l, c, zs, hcs, _, hl, hm, hz, _, hcell, hwz⟩
  ·simp [Value.cells] at hcs
   obtain ⟨rfl, rfl, rfl⟩ := hcs
   exact ⟨[], .inl ⟨rfl, rfl, rfl, rfl⟩⟩
  ·simp [Value.cells] at hcs
   obtain ⟨rfl, rfl, rfl⟩ := hcs
   exact ⟨zs, .inr ⟨_, rfl, hl, hm, by simpa using hz, hcell, hwz⟩⟩
 have k1 := h1
 have lt1 : ∀ x ∈ p1, x.block < W.heap.size := by obtain ⟨m, hm⟩ := k1; exact DataW.trod_lt m _ _ _ hm
 obtain ⟨a1, len1, cap1, rfl⟩ := okWide_slice Tryz.underlying22 (hval 1 22 v1 rfl rfl)
 obtain ⟨z1, w1⟩ : ∃ zs, IsRow .u8 W a1 len1 cap1 zs := by
  obtain ⟨fuel, hf⟩ := h1
  rcases open_ints Tryz.underlying22 Tryz.underlying5 (by kernel_rfl) hf with ⟨hcs, _⟩ | ⟨x, l, c, zs, hcs, _, hl, hm, hz, _, hcell, hwz⟩
  ·simp [Value.cells] at hcs
   obtain ⟨rfl, rfl, rfl⟩ := hcs
   exact ⟨[], .inl ⟨rfl, rfl, rfl, rfl⟩⟩
  ·simp [Value.cells] at hcs
   obtain ⟨rfl, rfl, rfl⟩ := hcs
   exact ⟨zs, .inr ⟨_, rfl, hl, hm, by simpa using hz, hcell, hwz⟩⟩
 obtain ⟨hvA, hvB⟩ := vars_of_laid hL
 clear hA0 hV0 hval0
 refine (walk a0 len0 cap0 z0 a1 len1 cap1 z1 W w0 w1 (first_of hvA) (table_of hvB)).mono fun e W' ⟨he, bel⟩ => ?_
 subst he
 obtain ⟨rfl, pv, hvs⟩ := vars_again (sp := fun b => decide (b < W.heap.size)) hvA hvB hV bel
 exact ⟨_, rfl, _, _, _, [], _, pv, hW', trodAll_mk1 (shut_bool Tryz.underlying4 _), (trodAll_cons_mk (Below.trod laidOut (by kernel_rfl) (of_decide_eq_true (by kernel_rfl)) k0 bel lt0) (trodAll_cons_mk (Below.trod laidOut (by kernel_rfl) (of_decide_eq_true (by kernel_rfl)) k1 bel lt1) trodAll_mk0)), hvs, bel.frame _, fun h => by cases h⟩

theorem said : Rows.FnAnswersSaid :=
 OpenClaim.holds_of_wide 3 Tryz.f3 rfl rfl rfl rfl rfl rfl rfl ⟨rfl, rfl, rfl, rfl, rfl⟩ rfl rfl rfl rfl rfl (by kernel_rfl) Tryz.func3 (by kernel_rfl)
  (of_decide_eq_true (by kernel_rfl)) (by unfold Func.isWrapper; first | (rw [if_pos (by decide +kernel)]; kernel_rfl) | (rw [if_neg (by decide +kernel)]; exact ⟨rfl, rfl⟩))
  (fun os started H enc _ => lifted os started H enc)

theorem plain (f : FuncId) (fn : Func) (hf : Tryz.pinned.checked.prog.funcNamed "loop.example/g00220/laws.FnAnswers" = some f) (hfn : Tryz.pinned.checked.prog.funcs[f]? = some fn) :
  false = Tryz.pinned.checked.prog.looks [] ∧ ∀ (j : Nat) t, fn.params[j]? = some t → Tryz.pinned.checked.prog.wantsStandIn t = false := by
 obtain rfl : f = 3 := Option.some.inj ((show Tryz.prog.funcNamed "loop.example/g00220/laws.FnAnswers" = some 3 by kernel_rfl).symm.trans hf) |>.symm
 obtain rfl : fn = Tryz.f3 := (Option.some.inj (Tryz.func3.symm.trans hfn)).symm
 refine ⟨by kernel_rfl, fun j t ht => ?_⟩
 rw [Tryz.params3] at ht
 obtain rfl : t = 22 := by
  have := Array.mem_of_getElem? ht
  simpa using this
 exact (show Tryz.prog.wantsStandIn 22 = false by kernel_rfl)
end Go.Proofs.YtlbcdngidfjogaaGreatDoor.fnAnswers
namespace Go.Proofs.YtlbcdngidfjogaaGreatDoor
theorem fnAnswers_card : Rows.FnAnswersCardSaid :=
 Claim7.holds_tied_plain_at .later [] _ _ _ _ fnAnswers.said (fun _ h => by cases h) (by kernel_rfl) (fun _ h => by cases h) fnAnswers_row_tie rfl ⟨rfl, rfl⟩ (by kernel_rfl) rfl fnAnswers.plain (by kernel_rfl)
#print axioms fnAnswers_card
end Go.Proofs.YtlbcdngidfjogaaGreatDoor
