/- What the proof of the claim needs (joined by program): NodP AnO LedM BrI LedH LwA NodS. -/
import Derived.Test.YtbchnheinnileaaGreatDoorQca24
import Derived.Test.YtbchnheinnileaaGreatDoorQca23
import Derived.Test.YtbchnheinnileaaGreatDoorQca10
import Derived.Test.YtbchnheinnileaaGreatDoorQca07
import Derived.Test.YtbchnheinnileaaGreatDoorQca00
import Derived.Test.YtbchnheinnileaaGreatDoorQca11
import Derived.Test.YtbchnheinnileaaGreatDoorQca22
namespace Go.Proofs.YtbchnheinnileaaGreatDoor
set_option maxRecDepth 100000
set_option maxHeartbeats 8000000
open Go.ChangeShapes Go.WideShapes Go.ChangeAt Go.RowKit Go.Deep
set_option linter.unusedVariables false
theorem specNodeOK_any (id tm vo ro cm el wt : Int) (up : Bool) (lg : List En) (st vs nx mt : List Int) (la : Option Addr) (lc : Nat) (sa : Option Addr) (sc : Nat) (va : Option Addr) (vc : Nat) (na : Option Addr) (nc : Nat) (ma : Option Addr) (mc : Nat) (w : World) (h : NoR w (.slice la lg.length lc) (.slice sa st.length sc) (.slice va vs.length vc) (.slice na nx.length nc) (.slice ma mt.length mc) lg st vs nx mt) (hs : NoS lg st vs nx mt) :
  Calls Tryz.prog 15 #[.agg #[.int .i64 id, .int .i64 tm, .int .i64 vo, .slice la lg.length lc, .slice sa st.length sc, .int .i64 ro, .slice va vs.length vc, .slice na nx.length nc, .slice ma mt.length mc, .int .i64 cm, .int .i64 el, .int .i64 wt, .bool up]] w fun e w' => e = .returned (.bool (nodeB id tm vo ro cm el wt up lg st vs nx mt)) ∧ Below w.heap.size w w' := by
 have B0 := Hd (bal w (.cells #[.int .i64 id, .int .i64 tm, .int .i64 vo, .slice la lg.length lc, .slice sa st.length sc, .int .i64 ro, .slice va vs.length vc, .slice na nx.length nc, .slice ma mt.length mc, .int .i64 cm, .int .i64 el, .int .i64 wt, .bool up] 38))
 have X0 := Hd (Blk.new w #[.int .i64 id, .int .i64 tm, .int .i64 vo, .slice la lg.length lc, .slice sa st.length sc, .int .i64 ro, .slice va vs.length vc, .slice na nx.length nc, .slice ma mt.length mc, .int .i64 cm, .int .i64 el, .int .i64 wt, .bool up] 38 w.heap.size rfl)
 have HSt := Hd (fun wx (hx : Below w.heap.size w wx) => specStateOK_any tm vo _ lg wx (h.lg.below hx) hs.dt)
 have HMe := Hd (fun wx (hx : Below w.heap.size w wx) => l10Ids_any _ st wx (h.st.below hx) hs.l1)
 have HRi := Hd (fun wx (hx : Below w.heap.size w wx) => l10Ids_any _ vs wx (h.vs.below hx) hs.l2)
 have HNX := Hd h.nx
 have HMT := Hd h.mt
 have hll := hs.l0
 have HT1 := Hd (fun (hx : nx.length ≠ 7) => (show toldB nx mt lg.length = false from by unfold toldB; simp [hx]))
 have HT2 := Hd (fun (hx : mt.length ≠ 7) => (show toldB nx mt lg.length = false from by unfold toldB; simp [hx]))
 have HT3 := Hd (fun k (hk : k < 7) hx => told_bad (nx := nx) (mt := mt) (e := lg.length) (k := k) hk hx)
 have HT4 := Hd (fun h1 h2 hx => told_all (nx := nx) (mt := mt) (e := lg.length) h1 h2 hx)
 have HN : Hid (nodeB id tm vo ro cm el wt up lg st vs nx mt = (inB id 0 6 && (stateB tm vo lg && ((idsB st && !decide (st.length = 0)) && (inB ro 0 2 && (idsB vs && (toldB nx mt lg.length && (inB cm 0 lg.length && (inB el 0 1000 && (inB wt 5 100 && (up || decide (ro = 0)))))))))))) := Hd (by rw [← idsB_fault, ← risB_ids]; rfl)
 generalize nodeB id tm vo ro cm el wt up lg st vs nx mt = R at *
 generalize stateB tm vo lg = b1 at *
 generalize idsB st = b2 at *
 generalize idsB vs = b4 at *
 generalize toldB nx mt lg.length = b5 at *
 clear h hs
 go_enter Tryz.func15, Tryz.ntmps15
 go_wp2_with fail
 generalize w.alloc (.cells #[.int .i64 id, .int .i64 tm, .int .i64 vo, .slice la lg.length lc, .slice sa st.length sc, .int .i64 ro, .slice va vs.length vc, .slice na nx.length nc, .slice ma mt.length mc, .int .i64 cm, .int .i64 el, .int .i64 wt, .bool up] 38) = w0 at *
 have x1 := (uh X0).cell 1 rfl
 have x2 := (uh X0).cell 2 rfl
 have x3 := (uh X0).cell 3 rfl
 refine (l01In_any _ _ _ _).mono ?_
 rintro e w' ⟨rfl, hw'⟩
 have hw2 := hw'.symm
 clear hw'
 subst hw2
 generalize inB id 0 6 = bb at *
 cases bb
 case false =>
  have E : Hid (R = false) := Hd (by rw [uh HN]; simp)
  go_wp2_with fail
  all_goals
   go_ret
   exact ⟨ret_bool (uh E).symm, uh B0⟩
 go_wp2_with fail
 refine (uh HSt w0 (uh B0)).mono ?_
 rintro e w1 ⟨rfl, hb⟩
 have K1 := hbt B0 hb
 have XX := (uh X0).below hb
 clear x1 x2 x3
 have x4 := XX.cell 4 rfl
 have X1 := Hd XX
 clear hb XX X0 B0
 clear HSt
 cases b1
 case false =>
  have E : Hid (R = false) := Hd (by rw [uh HN]; simp)
  go_wp2_with fail
  all_goals
   go_ret
   exact ⟨ret_bool (uh E).symm, uh K1⟩
 go_wp2_with fail
 refine (uh HMe w1 (uh K1)).mono ?_
 rintro e w2 ⟨rfl, n2, hn⟩
 have hb : Below w1.heap.size w1 w2 := by rw [hn]; exact below_drewN (Below.refl _ _) n2
 clear hn HMe
 have K2 := hbt K1 hb
 have XX := (uh X1).below hb
 clear x4
 have x4 := XX.cell 4 rfl
 have x6 := XX.cell 6 rfl
 have X2 := Hd XX
 clear hb XX X1 K1
 cases b2
 case false =>
  have E : Hid (R = false) := Hd (by rw [uh HN]; simp)
  go_wp2_with fail
  all_goals
   go_ret
   exact ⟨ret_bool (uh E).symm, uh K2⟩
 by_cases hm : st.length = 0
 case pos =>
  have hm2 : ((st.length : Int) == 0) = true := by rw [hm]; rfl
  have E : Hid (R = false) := Hd (by rw [uh HN]; simp [hm])
  go_wp2_with fail
  all_goals
   go_ret
   exact ⟨ret_bool (uh E).symm, uh K2⟩
 have hm2 : ((st.length : Int) == 0) = false := by rw [beq_eq_false_iff_ne]; omega
 replace HN := Hd (by have := uh HN; rw [decide_eq_false hm] at this; exact this)
 clear hm
 go_wp2_with fail
 refine (uh HRi w2 (uh K2)).mono ?_
 rintro e w3 ⟨rfl, n3, hn⟩
 have hb : Below w2.heap.size w2 w3 := by rw [hn]; exact below_drewN (Below.refl _ _) n3
 clear hn HRi hm2
 have K3 := hbt K2 hb
 have XX := (uh X2).below hb
 clear x4 x6
 have x5 := XX.cell 5 rfl
 have x7 := XX.cell 7 rfl
 have x8 := XX.cell 8 rfl
 have x3 := XX.cell 3 rfl
 have x9 := XX.cell 9 rfl
 have x10 := XX.cell 10 rfl
 have x11 := XX.cell 11 rfl
 have x12 := XX.cell 12 rfl
 have X3 := Hd XX
 clear hb XX X2 K2
 cases b4
 case false =>
  have E : Hid (R = false) := Hd (by rw [uh HN]; simp)
  go_wp2_with fail
  all_goals
   go_ret
   exact ⟨ret_bool (uh E).symm, uh K3⟩
 go_wp2_with fail
 refine (l01In_any _ _ _ _).mono ?_
 rintro e w' ⟨rfl, hw'⟩
 have hw2 := hw'.symm
 clear hw'
 subst hw2
 generalize inB ro 0 2 = bb at *
 cases bb
 case false =>
  have E : Hid (R = false) := Hd (by rw [uh HN]; simp)
  go_wp2_with fail
  all_goals
   go_ret
   exact ⟨ret_bool (uh E).symm, uh K3⟩
 by_cases h7 : nx.length = 7
 case neg =>
  have hm2 : ((nx.length : Int) == 7) = false := by rw [beq_eq_false_iff_ne]; omega
  have E : Hid (R = false) := Hd (by rw [uh HN, uh HT1 h7]; simp)
  go_wp2_with fail
  all_goals
   go_ret
   exact ⟨ret_bool (uh E).symm, uh K3⟩
 by_cases h8 : mt.length = 7
 case neg =>
  have hm2 : ((nx.length : Int) == 7) = true := by rw [h7]; rfl
  have hm3 : ((mt.length : Int) == 7) = false := by rw [beq_eq_false_iff_ne]; omega
  have E : Hid (R = false) := Hd (by rw [uh HN, uh HT2 h8]; simp)
  go_wp2_with fail
  all_goals
   go_ret
   exact ⟨ret_bool (uh E).symm, uh K3⟩
 replace HT4 := Hd (uh HT4 h7 h8)
 rw [h7] at x7
 rw [h8] at x8
 have HC : Hid (∃ b off, na = some ⟨b, off, none⟩ ∧ b < w.heap.size ∧ ∀ i, i < 7 → w.cell? ⟨b, off + i, none⟩ = some (.int .i64 (nx.getD i 0))) := Hd (by
  obtain ⟨a, c, e, _, hc⟩ := uh HNX
  cases e
  rcases hc with h0 | h0
  ·omega
  ·rw [h7] at h0; exact h0)
 have HC' : Hid (∃ b off, ma = some ⟨b, off, none⟩ ∧ b < w.heap.size ∧ ∀ i, i < 7 → w.cell? ⟨b, off + i, none⟩ = some (.int .i64 (mt.getD i 0))) := Hd (by
  obtain ⟨a, c, e, _, hc⟩ := uh HMT
  cases e
  rcases hc with h0 | h0
  ·omega
  ·rw [h8] at h0; exact h0)
 have hm2 : ((nx.length : Int) == 7) = true := by rw [h7]; rfl
 have hm3 : ((mt.length : Int) == 7) = true := by rw [h8]; rfl
 clear HNX HMT HT1 HT2
 go_wp2_with fail
 refine (l01In_any _ _ _ _).mono ?_
 rintro e w' ⟨rfl, hw'⟩
 have hw2 := hw'.symm
 clear hw'
 subst hw2
 generalize inB cm 0 ↑lg.length = bb at *
 cases bb
 case false =>
  have E : Hid (R = false) := Hd (by rw [uh HN]; simp)
  go_wp2_with fail
  all_goals
   go_ret
   exact ⟨ret_bool (uh E).symm, uh K3⟩
 go_wp2_with fail
 refine (l01In_any _ _ _ _).mono ?_
 rintro e w' ⟨rfl, hw'⟩
 have hw2 := hw'.symm
 clear hw'
 subst hw2
 generalize inB el 0 1000 = bb at *
 cases bb
 case false =>
  have E : Hid (R = false) := Hd (by rw [uh HN]; simp)
  go_wp2_with fail
  all_goals
   go_ret
   exact ⟨ret_bool (uh E).symm, uh K3⟩
 go_wp2_with fail
 refine (l01In_any _ _ _ _).mono ?_
 rintro e w' ⟨rfl, hw'⟩
 have hw2 := hw'.symm
 clear hw'
 subst hw2
 generalize inB wt 5 100 = bb at *
 cases bb
 case false =>
  have E : Hid (R = false) := Hd (by rw [uh HN]; simp)
  go_wp2_with fail
  all_goals
   go_ret
   exact ⟨ret_bool (uh E).symm, uh K3⟩
 go_wp2_with fail
 clear x9 x10 x11 hm2 hm3
 replace HN := Hd (show R = (b5 && (up || decide (ro = 0))) from by have := uh HN; simpa using this)
 obtain ⟨b, off, rfl, hbl, hsrc⟩ := uh HC
 obtain ⟨b', off', rfl, hbl', hsrc'⟩ := uh HC'
 have HS := Hd hsrc
 have HS' := Hd hsrc'
 have H7 := Hd h7
 have H8 := Hd h8
 clear hsrc hsrc' HC HC' h7 h8
 have we : IntKind.i64.wrap ((lg.length : Int) + 1) = (lg.length : Int) + 1 := by
  simp only [IntKind.wrap, IntKind.bits, IntKind.signed]
  simp
  omega
 go_loopw [3] (fun i wr => ∃ k n : Nat, k ≤ 7 ∧ i = .int .i64 k ∧ Hid (∀ i, i < k → toldI nx mt lg.length i = true) ∧ Below w3.heap.size w3 wr) (fun i _ => 7 - (intOf i).toNat)
 case atStart => exact ⟨0, 0, Nat.zero_le _, rfl, fun i hi => absurd hi (Nat.not_lt_zero _), Below.refl _ _⟩
 case round =>
  obtain ⟨k, n, hk, rfl, hA, hwr⟩ := hrel
  have XX := (uh X3).below hwr
  have y3 := XX.cell 3 rfl
  have y5 := XX.cell 5 rfl
  have y7 := XX.cell 7 rfl
  have y8 := XX.cell 8 rfl
  rw [uh H7] at y7
  rw [uh H8] at y8
  have y12 := XX.cell 12 rfl
  have KK := hbt K3 hwr
  clear x3 x5 x7 x8 x12 XX
  by_cases hlt : k < 7
  ·have s1 : wr.cell? ⟨b, off + k, none⟩ = some (.int .i64 (nx.getD k 0)) := ((uh KK).cell (p := ⟨b, off + k, none⟩) hbl).trans (uh HS k hlt)
   have s2 : wr.cell? ⟨b', off' + k, none⟩ = some (.int .i64 (mt.getD k 0)) := ((uh KK).cell (p := ⟨b', off' + k, none⟩) hbl').trans (uh HS' k hlt)
   have hk0 : (0 : Int) ≤ (k : Int) := by omega
   have hk1 : (k : Int) < 7 := by omega
   have HWR := Hd hwr
   have HT : Hid (toldI nx mt lg.length k = (inB (nx.getD k 0) 1 ((lg.length : Int) + 1) && inB (mt.getD k 0) 0 (nx.getD k 0 - 1))) := Hd rfl
   have HB := Hd (fun h => uh HT3 k hlt h)
   have HX := Hd (fun h => show ∀ i, i < k + 1 → toldI nx mt lg.length i = true from fun i hi => by
     by_cases e : i = k
     ·subst e; exact h
     ·exact uh hA i (by omega))
   clear hA hwr HT3
   generalize nx.getD k 0 = x at *
   generalize mt.getD k 0 = y at *
   rcases Bool.eq_false_or_eq_true (inB x 1 ((lg.length : Int) + 1)) with hin | hin
   case inr =>
    have E : Hid (R = false) := Hd (by rw [uh HN, uh HB (by rw [uh HT, hin]; rfl)]; rfl)
    clear HB HX HT
    go_wp2_with fail
    go_quiet ((go_at_call 37; exact Calls.quiet_of_same (l01In_any _ _ _ _)))
    go_wp2_with fail
    go_ret
    exact ⟨ret_bool (uh E).symm, below_drewN (uh KK) nq⟩
   have hx := inB_iff.1 hin
   have wx : IntKind.i64.wrap (x - 1) = x - 1 := by
    simp only [IntKind.wrap, IntKind.bits, IntKind.signed]
    simp
    omega
   rcases Bool.eq_false_or_eq_true (inB y 0 (x - 1)) with hin2 | hin2
   case inr =>
    have E : Hid (R = false) := Hd (by rw [uh HN, uh HB (by rw [uh HT, hin, hin2]; rfl)]; rfl)
    clear HB HX HT hx
    go_wp2_with fail
    go_quiet ((go_at_call 37; exact Calls.quiet_of_same (l01In_any _ _ _ _)))
    go_wp2_with fail
    go_ret
    exact ⟨ret_bool (uh E).symm, below_drewN (uh KK) nq⟩
   have E := Hd (uh HX (by rw [uh HT, hin, hin2]; rfl))
   clear HB HX HT hx
   go_wp2_with fail
   go_quiet ((go_at_call 37; exact Calls.quiet_of_same (l01In_any _ _ _ _)))
   go_wp2_with fail
   refine ⟨⟨k + 1, n + nq, by omega, by go_num, uh E, below_drewN (uh HWR) nq⟩, ?_⟩
   simp [intOf]; omega
  ·obtain rfl : k = 7 := by omega
   have E : Hid (R = (up || decide (ro = 0))) := Hd (by rw [uh HN, uh HT4 (uh hA)]; rfl)
   clear hA hwr
   cases up
   case true =>
    have E2 : Hid (R = true) := Hd (by rw [uh E]; rfl)
    go_wp2_with fail
    go_ret
    exact ⟨ret_bool (uh E2).symm, uh KK⟩
   have E2 : Hid (R = (ro == 0)) := Hd (by rw [uh E, Bool.eq_iff_iff]; simp)
   go_wp2_with fail
   go_ret
   exact ⟨ret_bool (uh E2).symm, uh KK⟩
end Go.Proofs.YtbchnheinnileaaGreatDoor
namespace Go.Proofs.YtbchnheinnileaaGreatDoor.Sha
set_option maxRecDepth 100000
set_option maxHeartbeats 8000000
open Go.ChangeShapes Go.WideShapes Go.ChangeAt Go.RowKit
set_option linter.unusedVariables false
set_option linter.unusedSimpArgs false
theorem specApplyNode_any (id tm vo ro cm el wt : Int) (up : Bool) (lg : List En) (st vs nx mt : List Int) (la : Option Addr) (lc : Nat) (sa : Option Addr) (sc : Nat) (va : Option Addr) (vc : Nat) (na : Option Addr) (nc : Nat) (ma : Option Addr) (mc : Nat) (w : World) (h : NoR w (.slice la lg.length lc) (.slice sa st.length sc) (.slice va vs.length vc) (.slice na nx.length nc) (.slice ma mt.length mc) lg st vs nx mt) (hs : NoS lg st vs nx mt) :
  Calls Tryz.prog 5 #[.agg #[.int .i64 id, .int .i64 tm, .int .i64 vo, .slice la lg.length lc, .slice sa st.length sc, .int .i64 ro, .slice va vs.length vc, .slice na nx.length nc, .slice ma mt.length mc, .int .i64 cm, .int .i64 el, .int .i64 wt, .bool up]] w fun e w' => AnE w (anO (nodeB id tm vo ro cm el wt up lg st vs nx mt) lg cm.toNat) e w' := by
 have HS := Hd hs
 have H := Hd h
 have B0 := Hd ((bal w (.cells #[.int .i64 id, .int .i64 tm, .int .i64 vo, .slice la lg.length lc, .slice sa st.length sc, .int .i64 ro, .slice va vs.length vc, .slice na nx.length nc, .slice ma mt.length mc, .int .i64 cm, .int .i64 el, .int .i64 wt, .bool up] 38)).alloc (by simp) (.cells #[.slice none 0 0, .string ⟨#[]⟩, .string ⟨#[]⟩, .int .i64 0, .slice none 0 0, .slice none 0 0] 33))
 have P0 := Hd ((Blk.new w #[.int .i64 id, .int .i64 tm, .int .i64 vo, .slice la lg.length lc, .slice sa st.length sc, .int .i64 ro, .slice va vs.length vc, .slice na nx.length nc, .slice ma mt.length mc, .int .i64 cm, .int .i64 el, .int .i64 wt, .bool up] 38 w.heap.size rfl).alloc (.cells #[.slice none 0 0, .string ⟨#[]⟩, .string ⟨#[]⟩, .int .i64 0, .slice none 0 0, .slice none 0 0] 33))
 have R0 := Hd (Blk.new (w.alloc (.cells #[.int .i64 id, .int .i64 tm, .int .i64 vo, .slice la lg.length lc, .slice sa st.length sc, .int .i64 ro, .slice va vs.length vc, .slice na nx.length nc, .slice ma mt.length mc, .int .i64 cm, .int .i64 el, .int .i64 wt, .bool up] 38)) #[.slice none 0 0, .string ⟨#[]⟩, .string ⟨#[]⟩, .int .i64 0, .slice none 0 0, .slice none 0 0] 33 (w.heap.size + 1) (by simp))
 clear h hs
 go_enter Tryz.func5, Tryz.ntmps5
 go_upto_region 1 with fail
 generalize (w.alloc (.cells #[.int .i64 id, .int .i64 tm, .int .i64 vo, .slice la lg.length lc, .slice sa st.length sc, .int .i64 ro, .slice va vs.length vc, .slice na nx.length nc, .slice ma mt.length mc, .int .i64 cm, .int .i64 el, .int .i64 wt, .bool up] 38)).alloc (.cells #[.slice none 0 0, .string ⟨#[]⟩, .string ⟨#[]⟩, .int .i64 0, .slice none 0 0, .slice none 0 0] 33) = w0 at *
 have HFIT := Hd (fun (e : nodeB id tm vo ro cm el wt up lg st vs nx mt = true) => node_fit e)
 have HN := Hd (specNodeOK_any id tm vo ro cm el wt up lg st vs nx mt la lc sa sc va vc na nc ma mc w0 ((uh H).below (uh B0)) (uh HS))
 have p0 := (uh P0).cell 0 rfl
 have p1 := (uh P0).cell 1 rfl
 have p2 := (uh P0).cell 2 rfl
 have p3 := (uh P0).cell 3 rfl
 have p4 := (uh P0).cell 4 rfl
 have p5 := (uh P0).cell 5 rfl
 have p6 := (uh P0).cell 6 rfl
 have p7 := (uh P0).cell 7 rfl
 have p8 := (uh P0).cell 8 rfl
 have p9 := (uh P0).cell 9 rfl
 have p10 := (uh P0).cell 10 rfl
 have p11 := (uh P0).cell 11 rfl
 have p12 := (uh P0).cell 12 rfl
 generalize hbe : nodeB id tm vo ro cm el wt up lg st vs nx mt = b at *
 have HBE := Hd hbe
 clear hbe
 go_wp2_with fail
 refine (uh HN).mono ?_
 rintro e w1 ⟨rfl, hb⟩
 have B1 := hbt B0 hb
 have P1 := Hd ((uh P0).below hb)
 have R1 := Hd ((uh R0).below hb)
 clear hb HN B0 P0 R0 p0 p1 p2 p3 p4 p5 p6 p7 p8 p9 p10 p11 p12
 cases b with
 | false =>
  clear HFIT
  obtain ⟨⟨x0, x1, x2, x3, x4, x5⟩, g0, g1, g2, g3, g4, g5⟩ := Blk.c6 (uh R1)
  have HR9 := Hd (st6 (uh R1) (.slice none 0 0) (.string ⟨#[]⟩) (.string ⟨#[]⟩) (.int .i64 0) (.slice none 0 0) (.slice none 0 0))
  have HT9 := Hd (tc6 (Touch.refl (fun q => q = w.heap.size + 1) w1) (w.heap.size + 1) rfl (.slice none 0 0) (.string ⟨#[]⟩) (.string ⟨#[]⟩) (.int .i64 0) (.slice none 0 0) (.slice none 0 0))
  have K9 := Hd ((uh B1).trans ((uh HT9).below (uh B1).size (fun q hq e => by omega)))
  clear R1 B1
  go_wp2_with fail
  obtain ⟨⟨z0, z1, z2, z3, z4, z5⟩, _⟩ := Blk.c6 (uh HR9)
  refine bodyPost_ret (v := .tuple #[.agg #[.slice none 0 0, .string ⟨#[]⟩, .string ⟨#[]⟩, .int .i64 0, .slice none 0 0, .slice none 0 0], .int .i64 1]) (by simp [results, Tryz.results5, go_sem, z0, z1, z2, z3, z4, z5]) rfl ?_
  exact tell_no _ _ (uh HBE) ⟨_, _, _, _, _, _, _, rfl, LedO.nilN _ _, uh K9⟩
 | true =>
  obtain ⟨hl, hd, hc0, hc1⟩ := uh HFIT rfl
  obtain ⟨n, rfl⟩ : ∃ n : Nat, cm = (n : Int) := ⟨cm.toNat, by omega⟩
  have hn : n ≤ lg.length := by omega
  have E1 := Hd ((uh H).lg.below (uh B1))
  have p0 := (uh P1).cell 0 rfl
  have p1 := (uh P1).cell 1 rfl
  have p2 := (uh P1).cell 2 rfl
  have p3 := (uh P1).cell 3 rfl
  have p4 := (uh P1).cell 4 rfl
  have p5 := (uh P1).cell 5 rfl
  have p6 := (uh P1).cell 6 rfl
  have p7 := (uh P1).cell 7 rfl
  have p8 := (uh P1).cell 8 rfl
  have p9 := (uh P1).cell 9 rfl
  have p10 := (uh P1).cell 10 rfl
  have p11 := (uh P1).cell 11 rfl
  have p12 := (uh P1).cell 12 rfl
  have HK := Hd (l12Applied_any id tm vo ro el wt n up lg st vs nx mt la lc sa sc va vc na nc ma mc w1 (uh E1) hl hn hd)
  have HOK := Hd (stN_ok lg n)
  go_wp2_with fail
  refine (uh HK).mono ?_
  generalize hy : stN lg n = y at *
  have HY := Hd hy
  clear hy
  rintro e w2 ⟨qa0, qc0, qk0, qn0, qd0, qs0, qe0, rfl, hO, hb⟩
  have B2 := hbt B1 hb
  have R2 := Hd ((uh R1).below hb)
  obtain ⟨_, _, e3, _⟩ := hO.b.shape
  obtain rfl : qn0 = (brOf y.o).kids.length := by cases e3; rfl
  have HLE := Hd (l09Own_any (brOf y.o).key (brOf y.o).val (brOf y.o).at_ y.ls (brOf y.o).kids y.ss qa0 qk0 qs0 qc0 qd0 qe0 w2 hO.s (hO.b.mono (fun _ _ => trivial)) hO.e (by have := (uh HOK).n; omega) (by have := lok_cntN (uh HOK); omega) (by have := (uh HOK).m; omega))
  clear hO hb HK E1 H P1 B1 R1 p0 p1 p2 p3 p4 p5 p6 p7 p8 p9 p10 p11 p12 HFIT HS e3 HOK
  go_wp2_with fail
  refine (uh HLE).mono ?_
  rintro e w3 ⟨qa, qc, qk, qn, qd, qs, qe, rfl, hO, hb⟩
  have B3 := hbt B2 hb
  have R3 := Hd ((uh R2).below hb)
  have hlow : w.heap.size + 1 < w2.heap.size := (uh R2).1
  have LL := Hd hO
  clear hO hb HLE B2 R2
  have HBW : Hid (∀ wx, LedO w2.heap.size wx (.slice qa y.ls.length qc) (.slice qk qn qd) (.slice qs y.ss.length qe) y.ls (brOf y.o).kids y.ss → LedO w.heap.size wx (.slice qa y.ls.length qc) (.slice qk qn qd) (.slice qs y.ss.length qe) y.ls (brOf y.o).kids y.ss) := Hd (fun wx hx => hx.down (by omega))
  have HLX := Hd (fun wx (hx : Touch (fun q => q = w.heap.size + 1) w3 wx) => uh HBW wx ((uh LL).touchN hx (fun k hk e => by omega)))
  obtain ⟨⟨x0, x1, x2, x3, x4, x5⟩, g0, g1, g2, g3, g4, g5⟩ := Blk.c6 (uh R3)
  have HR9 := Hd (st6 (uh R3) (.slice qa y.ls.length qc) (.string (brOf y.o).key) (.string (brOf y.o).val) (.int .i64 (brOf y.o).at_) (.slice qk qn qd) (.slice qs y.ss.length qe))
  have HT9 := Hd (tc6 (Touch.refl (fun q => q = w.heap.size + 1) w3) (w.heap.size + 1) rfl (.slice qa y.ls.length qc) (.string (brOf y.o).key) (.string (brOf y.o).val) (.int .i64 (brOf y.o).at_) (.slice qk qn qd) (.slice qs y.ss.length qe))
  have K9 := Hd ((uh B3).trans ((uh HT9).below (uh B3).size (fun q hq e => by omega)))
  clear R3 B3
  go_wp2_with fail
  obtain ⟨⟨z0, z1, z2, z3, z4, z5⟩, _⟩ := Blk.c6 (uh HR9)
  refine bodyPost_ret (v := .tuple #[.agg #[.slice qa y.ls.length qc, .string (brOf y.o).key, .string (brOf y.o).val, .int .i64 (brOf y.o).at_, .slice qk qn qd, .slice qs y.ss.length qe], .int .i64 0]) (by simp [results, Tryz.results5, go_sem, z0, z1, z2, z3, z4, z5]) rfl ?_
  exact tell_yes _ _ (uh HBE) (uh HY) ⟨_, _, _, _, _, _, _, rfl, uh HLX _ (uh HT9), uh K9⟩
end Go.Proofs.YtbchnheinnileaaGreatDoor.Sha
namespace Go.Proofs.YtbchnheinnileaaGreatDoor.Sha
set_option maxRecDepth 100000
set_option maxHeartbeats 8000000
open Go.ChangeShapes Go.WideShapes Go.ChangeAt Go.RowKit
set_option linter.unusedVariables false
theorem markBranchK_any (c : Nat) (hc0 : 0 < c) (k v : ByteArray) (at_ : Int) (a : Option Addr) (n cap : Nat) {S : Nat → Prop} {w : World} {l : List Br} (h : BrO w S (.slice a n cap) l) (hc : c + 3 * cntL l ≤ 8388608) :
  Calls Tryz.prog 31 #[.agg #[.string k, .string v, .int .i64 at_, .slice a n cap], .int .i64 (c : Int)] w fun e w' => e = .returned (.int .i64 ((c + 3 * cntL l : Nat) : Int)) ∧ BrO w' S (.slice a n cap) (markL c l) ∧ Touch S w w' := by
 have T1 := Hd ((Touch.refl (fun _ => False) w).alloc (.cells #[.string k, .string v, .int .i64 at_, .slice a n cap] 30))
 have HE := Hd (markBranchS_any h _ (fun _ => False) c (uh T1) (fun _ _ h => h) hc0 hc)
 have TS := Hd ((Touch.refl S w).alloc (.cells #[.string k, .string v, .int .i64 at_, .slice a n cap] 30))
 clear h
 generalize c + 3 * cntL l = m at *
 go_enter Tryz.func31, Tryz.ntmps31
 go_wp2_with fail
 refine (uh HE).mono ?_
 rintro e w2 ⟨rfl, hO2, hT2⟩
 have R := Hd (And.intro hO2 ((uh TS).trans hT2 (fun _ _ h => h)))
 clear hO2 hT2 HE
 go_wp2_with fail
 go_ret
 exact ⟨rfl, (uh R).1, (uh R).2⟩
def LedU (B M : Nat) (w : World) (lv kv sv : Value) (ls : List ByteArray) (ks : List Br) (ss : List Se) : Prop :=
 OwnS B w lv ls ∧ OwnSe B w sv ss ∧ (∀ x, lv.ownBlock = some x → sv.ownBlock ≠ some x) ∧ (∀ x, lv.ownBlock = some x → x < M) ∧ (∀ x, sv.ownBlock = some x → x < M) ∧ ∃ S : Nat → Prop, BrO w S kv ks ∧ ∀ x, S x → B ≤ x ∧ x < M ∧ lv.ownBlock ≠ some x ∧ sv.ownBlock ≠ some x
theorem LedO.up {B : Nat} {w : World} {lv kv sv : Value} {ls : List ByteArray} {ks : List Br} {ss : List Se} (h : LedO B w lv kv sv ls ks ss) : LedU B w.heap.size w lv kv sv ls ks ss := by
 obtain ⟨h1, h2, h4, S, h3, h5⟩ := h
 exact ⟨h1, h2, h4, fun x hx => (h1.lt x hx).2, fun x hx => (h2.lt x hx).2, S, h3, h5⟩
theorem LedU.below {B M : Nat} {w w' : World} {lv kv sv : Value} {ls : List ByteArray} {ks : List Br} {ss : List Se} (h : LedU B M w lv kv sv ls ks ss) (hb : Below w.heap.size w w') : LedU B M w' lv kv sv ls ks ss := by
 obtain ⟨h1, h2, h4, h6, h7, S, h3, h5⟩ := h
 exact ⟨h1.below hb, h2.below hb, h4, h6, h7, S, h3.blw hb, h5⟩
theorem LedU.led {B M : Nat} {w : World} {lv kv sv : Value} {ls : List ByteArray} {ks : List Br} {ss : List Se} (h : LedU B M w lv kv sv ls ks ss) : LedR w lv kv sv ls ks ss := by
 obtain ⟨h1, h2, _, _, _, S, h3, _⟩ := h
 exact ⟨h1.strs, h3.brs.mono (fun _ _ => trivial), h2.read⟩
end Go.Proofs.YtbchnheinnileaaGreatDoor.Sha
namespace Go.Proofs.YtbchnheinnileaaGreatDoor.Sha
set_option maxRecDepth 100000
set_option maxHeartbeats 8000000
open Go.ChangeShapes Go.WideShapes Go.ChangeAt Go.RowKit
set_option linter.unusedVariables false
set_option linter.unusedSimpArgs false
theorem heldBranchS_any {S : Nat → Prop} {w0 : World} {v : Value} {L : List Br} (h : Brs S w0 v L) : ∀ (k : Nat) (l : List Br) (w : World), L = markL k l → Below w0.heap.size w0 w → 0 < k → k + 3 * cntL l ≤ 8388608 →
  Calls Tryz.prog 58 #[v, .int .i64 k] w fun e w' => e = .returned (.int .i64 ((k + 3 * cntL l : Nat) : Int)) ∧ Below w.heap.size w w' := by
 induction h with
 | nil a cap hc =>
  intro k l w hl hb0 hk0 hk1
  obtain rfl : l = [] := List.eq_nil_of_length_eq_zero (by rw [← markL_len k l, ← hl]; rfl)
  have hc0 : k + 3 * cntL [] = k := by unfold cntL; omega
  rw [hc0]
  clear hb0 hc hl hk1 hc0
  go_enter Tryz.func58, Tryz.ntmps58
  go_wp2_with fail
  go_loopw [1, 5] (fun kk i wr => kk = .int .i64 (k : Int) ∧ i = .int .i64 0 ∧ wr = w) (fun _ _ _ => 0)
  case atStart => exact ⟨rfl, rfl, rfl⟩
  case round =>
   obtain ⟨rfl, rfl, hwr⟩ := hrel
   subst wr
   go_wp2_with fail
   go_ret
   exact ⟨rfl, Below.refl _ _⟩
 | row b off cap L kv p0 p1 p2 p3 p4 p5 p6 p7 ih =>
  intro k l w hl hb0 hk0 hk1
  have HC := Hd (BrAt.mk p3 p4 p5 p6 p7 : BrAt S w0 b off L kv)
  have HI := Hd ih
  have HB0 := Hd hb0
  have hlen : L.length = l.length := by rw [hl, markL_len]
  have HMG := Hd (fun i (hi : i < l.length) => show L.getD i default = markB (k + 3 * cntL (l.take i)) (l.getD i default) by rw [hl]; exact markL_get l k i hi)
  have hlm : l.length ≤ 9223372036854775807 := by unfold maxLen at p2; omega
  rw [hlen]
  have HCT := Hd (fun i => cnt_take_le l i)
  clear p3 p4 p5 p6 p7 ih hb0 p1 p2 hl
  go_enter Tryz.func58, Tryz.ntmps58
  go_wp2_with fail
  go_loopw [1, 5] (fun kk i wr => ∃ j : Nat, j ≤ l.length ∧ kk = .int .i64 ((k + 3 * cntL (l.take j) : Nat) : Int) ∧ i = .int .i64 j ∧ Below w.heap.size w wr) (fun _ i _ => l.length - (intOf i).toNat)
  case atStart => exact ⟨0, Nat.zero_le _, by simp [cntL], rfl, Below.refl _ _⟩
  case round =>
   obtain ⟨j, hj, rfl, rfl, hb⟩ := hrel
   by_cases hlt : j < l.length
   ·have hltL : j < L.length := by omega
    obtain ⟨s0, s1, s2, s3⟩ := (uh HC).cells j hltL
    have hbl := (uh HC).lt
    have hb00 := (uh HB0).trans (hb.mono (uh HB0).size)
    have hmb := markB_key (k + 3 * cntL (l.take j)) (l.getD j default)
    have hct := cnt_take l j hlt
    have hcl := uh HCT (j + 1)
    have hce := Br.cnt_eq (l.getD j default)
    obtain ⟨ka, kc, hkv, _, _⟩ := ((uh HC).kids j hltL).shape
    have HR := Hd (fun wx (hx : Below w0.heap.size w0 wx) => uh HI j hltL (k + 3 * cntL (l.take j) + 3) (l.getD j default).kids wx (by rw [uh HMG j hlt]; exact hmb.2.2.2) hx (by omega) (by omega))
    rw [hkv] at HR s3
    rw [uh HMG j hlt, hmb.2.2.2, markL_len] at s3 HR
    rw [uh HMG j hlt, hmb.1] at s0
    rw [uh HMG j hlt, hmb.2.1] at s1
    rw [uh HMG j hlt, hmb.2.2.1] at s2
    have hnext : k + 3 * cntL (l.take j) + 3 + 3 * cntL (l.getD j default).kids = k + 3 * cntL (l.take (j + 1)) := by omega
    rw [hnext] at HR
    obtain ⟨q, hq⟩ : ∃ q, q = k + 3 * cntL (l.take j) := ⟨_, rfl⟩
    obtain ⟨nx, hnx⟩ : ∃ nx, nx = k + 3 * cntL (l.take (j + 1)) := ⟨_, rfl⟩
    rw [← hnx] at HR
    rw [← hq] at s0 s1 s2 HR ⊢
    have hq0 : 0 < q := by omega
    have hq1 : q + 3 ≤ 8388608 := by omega
    have HNX := Hd hnx
    have c0 := (hb00.cell (p := ⟨b, off + j * 4, none⟩) hbl).trans s0
    have c1 := (hb00.cell (p := ⟨b, off + j * 4 + 1, none⟩) hbl).trans s1
    have c2 := (hb00.cell (p := ⟨b, off + j * 4 + 2, none⟩) hbl).trans s2
    have c3 := (hb00.cell (p := ⟨b, off + j * 4 + 3, none⟩) hbl).trans s3
    have hk0' : (0 : Int) ≤ (j : Int) := by omega
    have hk1' : (j : Int) < (l.length : Int) := by omega
    have hz1 : b < wr.heap.size := Nat.lt_of_lt_of_le hbl hb00.size
    have HB := Hd hb
    have HB00 := Hd hb00
    have w1a : IntKind.i64.wrap ((q : Int) + 1) = ((q + 1 : Nat) : Int) := by simp only [IntKind.wrap, IntKind.bits, IntKind.signed]; simp; omega
    have w2a : IntKind.i64.wrap (((q + 1 : Nat) : Int) + 1) = ((q + 2 : Nat) : Int) := by simp only [IntKind.wrap, IntKind.bits, IntKind.signed]; simp; omega
    have w3a : IntKind.i64.wrap (((q + 2 : Nat) : Int) + 1) = ((q + 3 : Nat) : Int) := by simp only [IntKind.wrap, IntKind.bits, IntKind.signed]; simp; omega
    clear hb00 s0 s1 s2 s3 hb hkv hbl hmb hct hcl hce hnext hnx hq hk1
    generalize hq1n : q + 1 = qa at *
    generalize hq2n : q + 2 = qb at *
    generalize hq3n : q + 3 = qc at *
    have HQN := Hd (And.intro hq1n (And.intro hq2n hq3n))
    clear hq1n hq2n hq3n
    generalize (l.getD j default).kids.length = fn at *
    obtain ⟨m0, hm0⟩ : ∃ m0, m0 = mtx q := ⟨_, rfl⟩
    obtain ⟨m1, hm1⟩ : ∃ m1, m1 = mtx qa := ⟨_, rfl⟩
    have MT0 := Hd (fun wx => markText_int (q : Int) q rfl wx (by omega) (by have := (uh HQN).2.2; omega))
    have MT1 := Hd (fun wx => markText_int (qa : Int) qa rfl wx (by have := (uh HQN).1; omega) (by have := (uh HQN).1; have := (uh HQN).2.2; omega))
    rw [← hm0] at MT0 c0
    rw [← hm1] at MT1 c1
    clear hm0 hm1
    go_wp2_with fail
    go_region_held3 (fun wx => wx.cell? ⟨b, off + j * 4, none⟩ = some (.string m0)) (first | go_keep | exact (hb2.cell (p := ⟨b, off + j * 4, none⟩) hz1).trans c0) ((go_at_call 56; refine (uh MT0 _).mono ?_; rintro e w2 ⟨rfl, hb2⟩))
    all_goals
     have hb2' : Below wr.heap.size wr w2 := (below_drewN (Below.refl _ wr) 1).trans hb2
     have d1 := (hb2'.cell (p := ⟨b, off + j * 4 + 1, none⟩) hz1).trans c1
     have d2 := (hb2'.cell (p := ⟨b, off + j * 4 + 2, none⟩) hz1).trans c2
     have d3 := (hb2'.cell (p := ⟨b, off + j * 4 + 3, none⟩) hz1).trans c3
     have hz2 : b < w2.heap.size := Nat.lt_of_lt_of_le hz1 hb2'.size
     have HB2 := Hd ((uh HB).trans (hb2'.mono (uh HB).size))
     have HB02 := Hd ((uh HB00).trans (hb2'.mono (uh HB00).size))
     clear hb2 hb2' c0 c1 c2 c3 HB HB00
     go_wp2_with fail
     go_region_held3 (fun wx => wx.cell? ⟨b, off + j * 4 + 1, none⟩ = some (.string m1)) (first | go_keep | exact (hb3.cell (p := ⟨b, off + j * 4 + 1, none⟩) hz2).trans d1) ((go_at_call 56; refine (uh MT1 _).mono ?_; rintro e w3 ⟨rfl, hb3⟩))
     all_goals
      have hb3' : Below w2.heap.size w2 w3 := (below_drewN (Below.refl _ w2) 1).trans hb3
      have e2 := (hb3'.cell (p := ⟨b, off + j * 4 + 2, none⟩) hz2).trans d2
      have e3 := (hb3'.cell (p := ⟨b, off + j * 4 + 3, none⟩) hz2).trans d3
      have HB3 := Hd ((uh HB2).trans (hb3'.mono (uh HB2).size))
      have HB03 := Hd ((uh HB02).trans (hb3'.mono (uh HB02).size))
      clear hb3 hb3' d1 d2 d3 HB2 HB02
      go_wp2_with fail
      refine (uh HR w3 (uh HB03)).mono ?_
      rintro e w4 ⟨rfl, hb4⟩
      have HB4 := hbt HB3 hb4
      clear hb4 HB3 HB03 e2 e3
      have hnn : ¬ (nx : Int) < 0 := by omega
      go_wp2_with fail
      refine ⟨⟨j + 1, by omega, by rw [uh HNX], by go_num, uh HB4⟩, ?_⟩
      simp [intOf]; omega
   ·obtain rfl : j = l.length := by omega
    have HB := Hd hb
    clear hb
    rw [List.take_length]
    go_wp2_with fail
    go_ret
    exact ⟨rfl, uh HB⟩
end Go.Proofs.YtbchnheinnileaaGreatDoor.Sha
namespace Go.Proofs.YtbchnheinnileaaGreatDoor.Sha
set_option maxRecDepth 100000
set_option maxHeartbeats 8000000
open Go.ChangeShapes Go.WideShapes Go.ChangeAt Go.RowKit
set_option linter.unusedVariables false
def ledC3 (ls : List ByteArray) (ks : List Br) (ss : List Se) : Nat := 1 + ls.length + 3 * cntL ks + 5 * ss.length
def LedK (B M : Nat) (w : World) (lv kv sv : Value) (ls : List ByteArray) (ks : List Br) (ss : List Se) : Prop :=
 LedU B M w lv kv sv (marksS ls.length) (markL (1 + ls.length) ks) (zmks (1 + ls.length + 3 * cntL ks) ss.length)
theorem LedU.touch {T : Nat → Prop} {B M : Nat} {w w' : World} {lv kv sv : Value} {ls : List ByteArray} {ks : List Br} {ss : List Se} (h : LedU B M w lv kv sv ls ks ss) (ht : Touch T w w') (hn : ∀ k, B ≤ k → k < M → ¬ T k) : LedU B M w' lv kv sv ls ks ss := by
 obtain ⟨h1, h2, h4, h6, h7, S, h3, h5⟩ := h
 exact ⟨h1.kept ht (fun k hk => hn k (h1.lt k hk).1 (h6 k hk)), h2.kept ht (fun k hk => hn k (h2.lt k hk).1 (h7 k hk)), h4, h6, h7, S, h3.touch ht (fun k hk => hn k (h5 k hk).1 (h5 k hk).2.1), h5⟩
theorem markLedgerK_any (ls : List ByteArray) (k v : ByteArray) (a : Int) (ks : List Br) (ss : List Se) (la : Option Addr) (lc : Nat) (ka : Option Addr) (kc : Nat) (sa : Option Addr) (sc : Nat) (B M : Nat) (w : World) (h : LedU B M w (.slice la ls.length lc) (.slice ka ks.length kc) (.slice sa ss.length sc) ls ks ss) (hB : M ≤ w.heap.size)
  (h1 : ls.length ≤ 1048576) (h2 : cntL ks ≤ 1048576) (h3 : ss.length ≤ 1048576) (h9 : 1 + ls.length + 3 * cntL ks ≤ 4194304) :
  Calls Tryz.prog 11 #[.agg #[.slice la ls.length lc, .string k, .string v, .int .i64 a, .slice ka ks.length kc, .slice sa ss.length sc], .int .i64 1] w fun e w' => e = .returned (.int .i64 ((ledC3 ls ks ss : Nat) : Int)) ∧ LedK B M w' (.slice la ls.length lc) (.slice ka ks.length kc) (.slice sa ss.length sc) ls ks ss ∧ Touch (fun q => B ≤ q ∧ q < M) w w' := by
 obtain ⟨hL, hZ, hd, hLM, hZM, S, hK, hS⟩ := h
 have BA := bal w (.cells #[.slice la ls.length lc, .string k, .string v, .int .i64 a, .slice ka ks.length kc, .slice sa ss.length sc] 33)
 have X0 := Blk.new w #[.slice la ls.length lc, .string k, .string v, .int .i64 a, .slice ka ks.length kc, .slice sa ss.length sc] 33 w.heap.size rfl
 have T0 := (Touch.refl (fun q => B ≤ q ∧ q < M) w).alloc (.cells #[.slice la ls.length lc, .string k, .string v, .int .i64 a, .slice ka ks.length kc, .slice sa ss.length sc] 33)
 have hLlt : ∀ q, (Value.slice la ls.length lc).ownBlock = some q → B ≤ q ∧ q < M := fun q hq => ⟨(hL.lt q hq).1, hLM q hq⟩
 have hZlt : ∀ q, (Value.slice sa ss.length sc).ownBlock = some q → B ≤ q ∧ q < M := fun q hq => ⟨(hZ.lt q hq).1, hZM q hq⟩
 have HM1 := Hd (markStringS_any B _ ls _ (hL.below BA) h1)
 have H1 := Hd (show ∀ w1, Touch (fun q => (Value.slice la ls.length lc).ownBlock = some q) (w.alloc (.cells #[.slice la ls.length lc, .string k, .string v, .int .i64 a, .slice ka ks.length kc, .slice sa ss.length sc] 33)) w1 → Blk w1 w.heap.size [.slice la ls.length lc, .string k, .string v, .int .i64 a, .slice ka ks.length kc, .slice sa ss.length sc] ∧ BrO w1 S (.slice ka ks.length kc) ks ∧ OwnSe B w1 (.slice sa ss.length sc) ss ∧ Touch (fun q => B ≤ q ∧ q < M) w w1 from fun w1 hT =>
  ⟨X0.kept hT (fun e => by have := (hLlt _ e).2; omega), (hK.blw BA).touch hT (fun q hq e => (hS q hq).2.2.1 e), (hZ.below BA).kept hT (fun q hq e => hd q e hq), T0.trans hT (fun q _ e => hLlt q e)⟩)
 have HM2 := Hd (fun w1 (hK1 : BrO w1 S (.slice ka ks.length kc) ks) => markBranchK_any (1 + ls.length) (by omega) k v a ka ks.length kc hK1 (by omega))
 have H2 := Hd (show ∀ w1 w2, Blk w1 w.heap.size [.slice la ls.length lc, .string k, .string v, .int .i64 a, .slice ka ks.length kc, .slice sa ss.length sc] → OwnS B w1 (.slice la ls.length lc) (marksS ls.length) → OwnSe B w1 (.slice sa ss.length sc) ss → Touch (fun q => B ≤ q ∧ q < M) w w1 → Touch S w1 w2 → Blk w2 w.heap.size [.slice la ls.length lc, .string k, .string v, .int .i64 a, .slice ka ks.length kc, .slice sa ss.length sc] ∧ OwnS B w2 (.slice la ls.length lc) (marksS ls.length) ∧ OwnSe B w2 (.slice sa ss.length sc) ss ∧ Touch (fun q => B ≤ q ∧ q < M) w w2 from fun w1 w2 hX hL1 hZ1 hT1 hT =>
  ⟨hX.kept hT (fun e => by have := (hS _ e).2.1; omega), hL1.kept hT (fun q hq e => (hS q e).2.2.1 hq), hZ1.kept hT (fun q hq e => (hS q e).2.2.2 hq), hT1.trans hT (fun q _ e => ⟨(hS q e).1, (hS q e).2.1⟩)⟩)
 have HM3 := Hd (fun w2 (hZ2 : OwnSe B w2 (.slice sa ss.length sc) ss) => markSessionS_any (1 + ls.length + 3 * cntL ks) (by omega) (by omega) B _ ss w2 hZ2 h3)
 have H3 := Hd (show ∀ w2 w3, OwnS B w2 (.slice la ls.length lc) (marksS ls.length) → BrO w2 S (.slice ka ks.length kc) (markL (1 + ls.length) ks) → OwnSe B w3 (.slice sa ss.length sc) (zmks (1 + ls.length + 3 * cntL ks) ss.length) → Touch (fun q => B ≤ q ∧ q < M) w w2 → Touch (fun q => (Value.slice sa ss.length sc).ownBlock = some q) w2 w3 → LedK B M w3 (.slice la ls.length lc) (.slice ka ks.length kc) (.slice sa ss.length sc) ls ks ss ∧ Touch (fun q => B ≤ q ∧ q < M) w w3 from fun w2 w3 hL2 hK2 hZ3 hT2 hT =>
  ⟨⟨hL2.kept hT (fun q hq e => hd q hq e), hZ3, hd, hLM, hZM, S, hK2.touch hT (fun q hq e => (hS q hq).2.2.2 e), hS⟩, hT2.trans hT (fun q _ e => hZlt q e)⟩)
 have HCC : Hid (((1 + ls.length + 3 * cntL ks : Nat) : Int) + 5 * (ss.length : Int) = ((ledC3 ls ks ss : Nat) : Int)) := Hd (by unfold ledC3; omega)
 clear hL hZ hd hLM hZM hK hS BA X0 T0 hLlt hZlt
 generalize ledC3 ls ks ss = c3 at *
 go_enter Tryz.func11, Tryz.ntmps11
 go_wp2_with fail
 refine (uh HM1).mono ?_
 rintro e w1 ⟨rfl, hL1, hT1⟩
 obtain ⟨hX1, hK1, hZ1, hTT1⟩ := uh H1 w1 hT1
 have hc1 : (1 : Int) + (ls.length : Int) = ((1 + ls.length : Nat) : Int) := by omega
 rw [hc1]
 have y1 := hX1.cell 1 rfl
 have y2 := hX1.cell 2 rfl
 have y3 := hX1.cell 3 rfl
 have y4 := hX1.cell 4 rfl
 have C1 := Hd (uh HM2 w1 hK1)
 have G1 := Hd (And.intro hX1 (And.intro hL1 (And.intro hZ1 hTT1)))
 clear hT1 hX1 hL1 hK1 hZ1 hTT1 hc1 HM1 H1 HM2
 generalize 1 + ls.length = c1 at *
 go_wp2_with fail
 refine (uh C1).mono ?_
 rintro e w2 ⟨rfl, hK2, hT2⟩
 obtain ⟨hX2, hL2, hZ2, hTT2⟩ := uh H2 w1 w2 (uh G1).1 (uh G1).2.1 (uh G1).2.2.1 (uh G1).2.2.2 hT2
 have y5 := hX2.cell 5 rfl
 have C2 := Hd (uh HM3 w2 hZ2)
 have G2 := Hd (And.intro hL2 (And.intro hK2 hTT2))
 clear hT2 hX2 hL2 hK2 hZ2 hTT2 C1 G1 H2 HM3 y1 y2 y3 y4
 generalize c1 + 3 * cntL ks = c2 at *
 go_wp2_with fail
 refine (uh C2).mono ?_
 rintro e w3 ⟨rfl, hZ3, hT3⟩
 have G3 := Hd (uh H3 w2 w3 (uh G2).1 (uh G2).2.1 hZ3 (uh G2).2.2 hT3)
 clear hT3 C2 hZ3
 rw [uh HCC]
 go_wp2_with fail
 go_ret
 exact ⟨rfl, (uh G3).1, (uh G3).2⟩
theorem heldBranchK_any (c : Nat) (hc0 : 0 < c) (k v : ByteArray) (at_ : Int) (a : Option Addr) (n cap : Nat) {S : Nat → Prop} {w : World} {l : List Br} (h : Brs S w (.slice a n cap) (markL c l)) (hc : c + 3 * cntL l ≤ 8388608) :
  Calls Tryz.prog 34 #[.agg #[.string k, .string v, .int .i64 at_, .slice a n cap], .int .i64 (c : Int)] w fun e w' => e = .returned (.int .i64 ((c + 3 * cntL l : Nat) : Int)) ∧ Below w.heap.size w w' := by
 have B1 := Hd (bal w (.cells #[.string k, .string v, .int .i64 at_, .slice a n cap] 30))
 have HE := Hd (heldBranchS_any h c l _ rfl (uh B1) hc0 hc)
 clear h
 generalize c + 3 * cntL l = m at *
 go_enter Tryz.func34, Tryz.ntmps34
 go_wp2_with fail
 refine (uh HE).mono ?_
 rintro e w2 ⟨rfl, hb2⟩
 have B2 := hbt B1 hb2
 clear hb2 HE
 have hn : ¬ (m : Int) < 0 := by omega
 go_wp2_with fail
 go_ret
 exact ⟨rfl, uh B2⟩
theorem heldLedger_any (ls : List ByteArray) (k v : ByteArray) (a : Int) (ks : List Br) (ss : List Se) (la : Option Addr) (lc : Nat) (ka : Option Addr) (kc : Nat) (sa : Option Addr) (sc : Nat) (B M : Nat) (w : World) (h : LedK B M w (.slice la ls.length lc) (.slice ka ks.length kc) (.slice sa ss.length sc) ls ks ss)
  (h1 : ls.length ≤ 1048576) (h2 : cntL ks ≤ 1048576) (h3 : ss.length ≤ 1048576) (h9 : 1 + ls.length + 3 * cntL ks ≤ 4194304) :
  Calls Tryz.prog 12 #[.agg #[.slice la ls.length lc, .string k, .string v, .int .i64 a, .slice ka ks.length kc, .slice sa ss.length sc], .int .i64 1] w fun e w' => e = .returned (.int .i64 ((ledC3 ls ks ss : Nat) : Int)) ∧ Below w.heap.size w w' := by
 obtain ⟨hL, hZ, hd, hLM, hZM, S, hK, hS⟩ := h
 have B0 := Hd (bal w (.cells #[.slice la ls.length lc, .string k, .string v, .int .i64 a, .slice ka ks.length kc, .slice sa ss.length sc] 33))
 have X0 := Hd (Blk.new w #[.slice la ls.length lc, .string k, .string v, .int .i64 a, .slice ka ks.length kc, .slice sa ss.length sc] 33 w.heap.size rfl)
 have HM1 := Hd (fun wx (hx : Below w.heap.size w wx) => heldStringS_any B _ ls.length wx (hL.below hx) h1)
 have HM2 := Hd (fun wx (hx : Below w.heap.size w wx) => heldBranchK_any (1 + ls.length) (by omega) k v a ka ks.length kc (hK.blw hx).brs (by omega))
 have HM3 := Hd (fun wx (hx : Below w.heap.size w wx) => heldSessionS_any (1 + ls.length + 3 * cntL ks) (by omega) (by omega) B _ ss.length wx (hZ.below hx) h3)
 have HCC : Hid (((1 + ls.length + 3 * cntL ks : Nat) : Int) + 5 * (ss.length : Int) = ((ledC3 ls ks ss : Nat) : Int)) := Hd (by unfold ledC3; omega)
 clear hL hZ hd hLM hZM hK hS
 generalize ledC3 ls ks ss = c3 at *
 go_enter Tryz.func12, Tryz.ntmps12
 go_wp2_with fail
 generalize w.alloc (.cells #[.slice la ls.length lc, .string k, .string v, .int .i64 a, .slice ka ks.length kc, .slice sa ss.length sc] 33) = w0 at *
 refine (uh HM1 w0 (uh B0)).mono ?_
 rintro e w1 ⟨rfl, hb1⟩
 have hX1 := (uh X0).below hb1
 have K1 := hbt B0 hb1
 have hc1 : (1 : Int) + (ls.length : Int) = ((1 + ls.length : Nat) : Int) := by omega
 rw [hc1]
 have y1 := hX1.cell 1 rfl
 have y2 := hX1.cell 2 rfl
 have y3 := hX1.cell 3 rfl
 have y4 := hX1.cell 4 rfl
 have C1 := Hd (uh HM2 w1 (uh K1))
 have X1 := Hd hX1
 clear hb1 hX1 hc1 HM1 HM2 B0 X0
 generalize 1 + ls.length = c1 at *
 have hn1 : ¬ (c1 : Int) < 0 := by omega
 go_wp2_with fail
 refine (uh C1).mono ?_
 rintro e w2 ⟨rfl, hb2⟩
 have hX2 := (uh X1).below hb2
 have K2 := hbt K1 hb2
 have y5 := hX2.cell 5 rfl
 have C2 := Hd (uh HM3 w2 (uh K2))
 clear hb2 hX2 C1 X1 HM3 y1 y2 y3 y4 K1 hn1
 generalize c1 + 3 * cntL ks = c2 at *
 have hn2 : ¬ (c2 : Int) < 0 := by omega
 go_wp2_with fail
 refine (uh C2).mono ?_
 rintro e w3 ⟨rfl, hb3⟩
 have K3 := hbt K2 hb3
 clear hb3 C2
 rw [uh HCC]
 have hn3 : ¬ (c3 : Int) < 0 := by omega
 go_wp2_with fail
 go_ret
 exact ⟨rfl, uh K3⟩
theorem LedO.kn {B : Nat} {w : World} {lv sv : Value} {ka : Option Addr} {kn kc : Nat} {ls : List ByteArray} {ks : List Br} {ss : List Se} (h : LedO B w lv (.slice ka kn kc) sv ls ks ss) : kn = ks.length := by
 obtain ⟨_, _, _, S, hb, _⟩ := h
 obtain ⟨a, cap, e, _⟩ := hb.shape
 cases e
 rfl
abbrev V6 (la : Option Addr) (lc : Nat) (ka : Option Addr) (kc : Nat) (sa : Option Addr) (sc : Nat) (ls : List ByteArray) (ks : List Br) (ss : List Se) (k v : ByteArray) (a : Int) : Value := .agg #[.slice la ls.length lc, .string k, .string v, .int .i64 a, .slice ka ks.length kc, .slice sa ss.length sc]
end Go.Proofs.YtbchnheinnileaaGreatDoor.Sha
namespace Go.Proofs.YtbchnheinnileaaGreatDoor
set_option maxRecDepth 100000
set_option maxHeartbeats 8000000
open Go.ChangeShapes Go.WideShapes Go.ChangeAt Go.RowKit Go.Deep
set_option linter.unusedVariables false
theorem szNode_any (id tm vo ro cm el wt : Int) (up : Bool) (lg : List En) (st vs nx mt : List Int) (la : Option Addr) (lc : Nat) (sa : Option Addr) (sc : Nat) (va : Option Addr) (vc : Nat) (na : Option Addr) (nc : Nat) (ma : Option Addr) (mc : Nat) (L : Int) (w : World) (h : NoR w (.slice la lg.length lc) (.slice sa st.length sc) (.slice va vs.length vc) (.slice na nx.length nc) (.slice ma mt.length mc) lg st vs nx mt) (hL0 : 0 ≤ L) (hL1 : L ≤ 1048576) (hz : ∀ i, i < lg.length → (lg.getD i default).d.size ≤ maxLen) :
  Calls Tryz.prog 4 #[.agg #[.int .i64 id, .int .i64 tm, .int .i64 vo, .slice la lg.length lc, .slice sa st.length sc, .int .i64 ro, .slice va vs.length vc, .slice na nx.length nc, .slice ma mt.length mc, .int .i64 cm, .int .i64 el, .int .i64 wt, .bool up], .int .i64 L] w fun e w' => e = .returned (.int .i64 (noszR L lg st.length vs.length nx.length mt.length)) ∧ Below w.heap.size w w' := by
 have B0 := Hd (bal w (.cells #[.int .i64 id, .int .i64 tm, .int .i64 vo, .slice la lg.length lc, .slice sa st.length sc, .int .i64 ro, .slice va vs.length vc, .slice na nx.length nc, .slice ma mt.length mc, .int .i64 cm, .int .i64 el, .int .i64 wt, .bool up] 25))
 have X0 := Hd (Blk.new w #[.int .i64 id, .int .i64 tm, .int .i64 vo, .slice la lg.length lc, .slice sa st.length sc, .int .i64 ro, .slice va vs.length vc, .slice na nx.length nc, .slice ma mt.length mc, .int .i64 cm, .int .i64 el, .int .i64 wt, .bool up] 25 w.heap.size rfl)
 have HE := Hd (fun wx (hx : Below w.heap.size w wx) => szEntryS_any L hL0 hL1 _ lg wx (h.lg.below hx) hz)
 have Mst : st.length ≤ maxLen := by obtain ⟨a, c, h1, h2, _⟩ := h.st; exact h2
 have Hst := Hd (fun (x : Int) (hx0 : 0 ≤ x) (hx1 : x ≤ 1048576) wx => szIntS_any x hx0 hx1 sa st.length sc wx Mst)
 have Mvs : vs.length ≤ maxLen := by obtain ⟨a, c, h1, h2, _⟩ := h.vs; exact h2
 have Hvs := Hd (fun (x : Int) (hx0 : 0 ≤ x) (hx1 : x ≤ 1048576) wx => szIntS_any x hx0 hx1 va vs.length vc wx Mvs)
 have Mnx : nx.length ≤ maxLen := by obtain ⟨a, c, h1, h2, _⟩ := h.nx; exact h2
 have Hnx := Hd (fun (x : Int) (hx0 : 0 ≤ x) (hx1 : x ≤ 1048576) wx => szIntS_any x hx0 hx1 na nx.length nc wx Mnx)
 have Mmt : mt.length ≤ maxLen := by obtain ⟨a, c, h1, h2, _⟩ := h.mt; exact h2
 have Hmt := Hd (fun (x : Int) (hx0 : 0 ≤ x) (hx1 : x ≤ 1048576) wx => szIntS_any x hx0 hx1 ma mt.length mc wx Mmt)
 have HC0 := Hd (eszR_cases L lg)
 have HR : Hid (noszR L lg st.length vs.length nx.length mt.length = if eszR L lg < 0 then -1 else if iszR (eszR L lg) st.length < 0 then -1 else if iszR (iszR (eszR L lg) st.length) vs.length < 0 then -1 else if iszR (iszR (iszR (eszR L lg) st.length) vs.length) nx.length < 0 then -1 else iszR (iszR (iszR (iszR (eszR L lg) st.length) vs.length) nx.length) mt.length) := rfl
 generalize noszR L lg st.length vs.length nx.length mt.length = R at *
 generalize eszR L lg = r0 at *
 clear h hz Mst Mvs Mnx Mmt
 go_enter Tryz.func4, Tryz.ntmps4
 go_wp2_with fail
 generalize w.alloc (.cells #[.int .i64 id, .int .i64 tm, .int .i64 vo, .slice la lg.length lc, .slice sa st.length sc, .int .i64 ro, .slice va vs.length vc, .slice na nx.length nc, .slice ma mt.length mc, .int .i64 cm, .int .i64 el, .int .i64 wt, .bool up] 25) = w0 at *
 refine (uh HE w0 (uh B0)).mono ?_
 rintro e w1 ⟨rfl, hb1⟩
 have K1 := hbt B0 hb1
 have X1 := (uh X0).below hb1
 have x4 := X1.cell 4 rfl
 have x6 := X1.cell 6 rfl
 have x7 := X1.cell 7 rfl
 have x8 := X1.cell 8 rfl
 clear hb1 B0 X0 X1 HE
 rcases uh HC0 with hr | ⟨hr, hrl⟩
 ·subst hr
  have E : Hid (R = -1) := Hd (by rw [uh HR]; rfl)
  go_wp2_with fail
  go_ret
  exact ⟨ret_int (uh E).symm, uh K1⟩
 have hn0 : ¬ r0 < 0 := by omega
 replace HR := Hd ((uh HR).trans (if_neg hn0))
 have C0 := Hd (Hst r0 (by omega) (by omega))
 clear Hst
 have D0 := Hd (iszR_cases r0 st.length)
 generalize iszR r0 st.length = r1 at *
 go_wp2_with fail
 refine (uh C0 w1).mono ?_
 rintro e w' ⟨rfl, hw'⟩
 have hw2 := hw'.symm
 clear hw' C0
 subst hw2
 rcases uh D0 with hr | ⟨hr0, hre0⟩
 ·subst hr
  have E : Hid (R = -1) := Hd ((uh HR).trans (if_pos (by decide)))
  go_wp2_with fail
  go_ret
  exact ⟨ret_int (uh E).symm, uh K1⟩
 have hn1 : ¬ r1 < 0 := by omega
 have hle0 : r1 ≤ r0 := by omega
 clear hre0
 replace HR := Hd ((uh HR).trans (if_neg hn1))
 clear D0
 have C1 := Hd (Hvs r1 (by omega) (by omega))
 clear Hvs
 have D1 := Hd (iszR_cases r1 vs.length)
 generalize iszR r1 vs.length = r2 at *
 go_wp2_with fail
 refine (uh C1 w1).mono ?_
 rintro e w' ⟨rfl, hw'⟩
 have hw2 := hw'.symm
 clear hw' C1
 subst hw2
 rcases uh D1 with hr | ⟨hr1, hre1⟩
 ·subst hr
  have E : Hid (R = -1) := Hd ((uh HR).trans (if_pos (by decide)))
  go_wp2_with fail
  go_ret
  exact ⟨ret_int (uh E).symm, uh K1⟩
 have hn2 : ¬ r2 < 0 := by omega
 have hle1 : r2 ≤ r1 := by omega
 clear hre1
 replace HR := Hd ((uh HR).trans (if_neg hn2))
 clear D1
 have C2 := Hd (Hnx r2 (by omega) (by omega))
 clear Hnx
 have D2 := Hd (iszR_cases r2 nx.length)
 generalize iszR r2 nx.length = r3 at *
 go_wp2_with fail
 refine (uh C2 w1).mono ?_
 rintro e w' ⟨rfl, hw'⟩
 have hw2 := hw'.symm
 clear hw' C2
 subst hw2
 rcases uh D2 with hr | ⟨hr2, hre2⟩
 ·subst hr
  have E : Hid (R = -1) := Hd ((uh HR).trans (if_pos (by decide)))
  go_wp2_with fail
  go_ret
  exact ⟨ret_int (uh E).symm, uh K1⟩
 have hn3 : ¬ r3 < 0 := by omega
 have hle2 : r3 ≤ r2 := by omega
 clear hre2
 replace HR := Hd ((uh HR).trans (if_neg hn3))
 clear D2
 have C3 := Hd (Hmt r3 (by omega) (by omega))
 clear Hmt
 have D3 := Hd (iszR_cases r3 mt.length)
 generalize iszR r3 mt.length = r4 at *
 go_wp2_with fail
 refine (uh C3 w1).mono ?_
 rintro e w' ⟨rfl, hw'⟩
 have hw2 := hw'.symm
 clear hw' C3
 subst hw2
 rcases uh D3 with hr | ⟨hr3, hre3⟩
 ·subst hr
  have E : Hid (R = -1) := HR
  go_wp2_with fail
  go_ret
  exact ⟨ret_int (uh E).symm, uh K1⟩
 have hn4 : ¬ r4 < 0 := by omega
 have hle3 : r4 ≤ r3 := by omega
 clear hre3
 go_wp2_with fail
 go_ret
 exact ⟨ret_int (uh HR).symm, uh K1⟩
end Go.Proofs.YtbchnheinnileaaGreatDoor
