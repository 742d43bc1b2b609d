/- A collision told: pure; spec.Collision. -/
import Derived.Test.YtiiaehajcomfaaaDoorIul
import Derived.Test.YtiiaehajcomfaaaDoorWsl
namespace Go.Proofs.YtiiaehajcomfaaaDoor.Sha
open Go.ChangeShapes Go.WideShapes Go.ChangeAt Go.RowKit
set_option linter.unusedVariables false
set_option linter.unusedSimpArgs false

/-- The first two of the first k that differ, from the last one on. -/
def fdA (a b : List ByteArray) : Nat → ByteArray × ByteArray × Int
  | 0 => (⟨#[]⟩, ⟨#[]⟩, 5)
  | k + 1 => if a.getD k ByteArray.empty = b.getD k ByteArray.empty then fdA a b k else (a.getD k ByteArray.empty, b.getD k ByteArray.empty, 0)
theorem fdA_eq {a b : List ByteArray} {k : Nat} (h : a.getD k ByteArray.empty = b.getD k ByteArray.empty) : fdA a b (k + 1) = fdA a b k := by
  show (if _ then _ else _) = _; rw [if_pos h]
theorem fdA_ne {a b : List ByteArray} {k : Nat} (h : a.getD k ByteArray.empty ≠ b.getD k ByteArray.empty) : fdA a b (k + 1) = (a.getD k ByteArray.empty, b.getD k ByteArray.empty, 0) := by
  show (if _ then _ else _) = _; rw [if_neg h]
/-- What Collision answers. -/
def colOut (p n : Int) (la : ByteArray) (pa : List ByteArray) (lb : ByteArray) (pb : List ByteArray) : ByteArray × ByteArray × Int :=
  if mx4 (hfC la) (codeL pa) (hfC lb) (codeL pb) = 0 then
    (if inB n 1 64 = true ∧ inB p 0 (n - 1) = true then
      (if pa.length = (wayV p.toNat n.toNat).length ∧ pb.length = (wayV p.toNat n.toNat).length then
        (if ((wayV p.toNat n.toNat).zip pa).foldl climbV la = ((wayV p.toNat n.toNat).zip pb).foldl climbV lb then
          fdA (inpL ((wayV p.toNat n.toNat).zip pa) la) (inpL ((wayV p.toNat n.toNat).zip pb) lb) (wayV p.toNat n.toNat).length
        else (⟨#[]⟩, ⟨#[]⟩, 11))
      else (⟨#[]⟩, ⟨#[]⟩, 10))
    else (⟨#[]⟩, ⟨#[]⟩, 4))
  else (⟨#[]⟩, ⟨#[]⟩, mx4 (hfC la) (codeL pa) (hfC lb) (codeL pb))
def colV (t : ByteArray × ByteArray × Int) : Value := .tuple #[.string t.1, .string t.2.1, .int .i64 t.2.2]

theorem ownS_shp {B : Nat} {w : World} {v : Value} {l : List ByteArray} (h : OwnS B w v l) : ∃ a c, v = .slice a l.length c := by
  rcases _root_.Go.Proofs.YtiiaehajcomfaaaDoor.own_shape h with ⟨rfl, h0⟩ | ⟨g, c, rfl, _⟩
  · exact ⟨none, 0, by rw [h0]⟩
  · exact ⟨_, _, rfl⟩
theorem ownS_at {B : Nat} {w : World} {a : Option Addr} {c : Nat} {l : List ByteArray} (h : OwnS B w (.slice a l.length c) l) (i : Nat) (hi : i < l.length) : ∃ g, a = some ⟨g, 0, none⟩ ∧ g < w.heap.size ∧ w.cell? ⟨g, i, none⟩ = some (.string (l.getD i ByteArray.empty)) := by
  rcases _root_.Go.Proofs.YtiiaehajcomfaaaDoor.own_shape h with ⟨_, h0⟩ | ⟨g, c', hv, _, hg, hn, hm⟩
  · omega
  · simp only [Value.slice.injEq] at hv
    obtain ⟨rfl, _, rfl⟩ := hv
    exact ⟨g, rfl, hg, OwnS.cell h i hi⟩
set_option maxRecDepth 100000 in
set_option maxHeartbeats 4000000 in
theorem specCol_any (p n : Int) (la : ByteArray) (pa : List ByteArray) (lb : ByteArray) (pb : List ByteArray) (ba oa ca bb ob cb : Nat) (w : World) (hza : la.size ≤ 1048576) (hzb : lb.size ≤ 1048576) (hn : (Lit.int .i64 n).wf = true)
    (hsa : SA w ba oa ca pa) (hpa : ∀ i, (pa.getD i ByteArray.empty).size ≤ 1048576) (hsb : SA w bb ob cb pb) (hpb : ∀ i, (pb.getD i ByteArray.empty).size ≤ 1048576) :
    Calls Tryd.prog 21 #[.int .i64 p, .int .i64 n, .string la, .slice (some ⟨ba, oa, none⟩) pa.length ca, .string lb, .slice (some ⟨bb, ob, none⟩) pb.length cb] w fun e w' => e = .returned (colV (colOut p n la pa lb pb)) ∧ Below w.heap.size w w' := by
  have hle : pa.length ≤ 9223372036854775807 := by have := hsa.le; have := hsa.mx; unfold maxLen at this; omega
  have hleb : pb.length ≤ 9223372036854775807 := by have := hsb.le; have := hsb.mx; unfold maxLen at this; omega
  have HO : Hid (colOut p n la pa lb pb = if mx4 (hfC la) (codeL pa) (hfC lb) (codeL pb) = 0 then
    (if inB n 1 64 = true ∧ inB p 0 (n - 1) = true then
      (if pa.length = (wayV p.toNat n.toNat).length ∧ pb.length = (wayV p.toNat n.toNat).length then
        (if ((wayV p.toNat n.toNat).zip pa).foldl climbV la = ((wayV p.toNat n.toNat).zip pb).foldl climbV lb then
          fdA (inpL ((wayV p.toNat n.toNat).zip pa) la) (inpL ((wayV p.toNat n.toNat).zip pb) lb) (wayV p.toNat n.toNat).length
        else (⟨#[]⟩, ⟨#[]⟩, 11))
      else (⟨#[]⟩, ⟨#[]⟩, 10))
    else (⟨#[]⟩, ⟨#[]⟩, 4))
  else (⟨#[]⟩, ⟨#[]⟩, mx4 (hfC la) (codeL pa) (hfC lb) (codeL pb))) := rfl
  obtain ⟨m1, m2, m3, m4⟩ := mx4_ge (hfC la) (codeL pa) (hfC lb) (codeL pb)
  have mi := mx4_in (hfC la) (codeL pa) (hfC lb) (codeL pb)
  have q1 := hfC_cases la
  have q2 := codeL_cases pa
  have q3 := hfC_cases lb
  have q4 := codeL_cases pb
  generalize colOut p n la pa lb pb = out at *
  by_cases g1 : 65536 < la.size
  · have e := hf2 g1
    have hw : mx4 (hfC la) (codeL pa) (hfC lb) (codeL pb) = 2 := by omega
    rw [hw, if_neg (by omega)] at HO
    clear hsa hsb hpa hpb m1 m2 m3 m4 mi q1 q2 q3 q4 e hw
    go_enter Tryd.func21, Tryd.ntmps21
    go_wp2_with fail
    go_ret3
    exact ⟨by rw [unhide HO]; rfl, Below.refl _ _⟩
  by_cases g2 : 65536 < lb.size
  · have e := hf2 g2
    have hw : mx4 (hfC la) (codeL pa) (hfC lb) (codeL pb) = 2 := by omega
    rw [hw, if_neg (by omega)] at HO
    clear hsa hsb hpa hpb m1 m2 m3 m4 mi q1 q2 q3 q4 e hw
    go_enter Tryd.func21, Tryd.ntmps21
    go_wp2_with fail
    go_ret3
    exact ⟨by rw [unhide HO]; rfl, Below.refl _ _⟩
  by_cases g3 : 4096 < pa.length
  · have e := cL2 g3
    have hw : mx4 (hfC la) (codeL pa) (hfC lb) (codeL pb) = 2 := by omega
    rw [hw, if_neg (by omega)] at HO
    clear hsa hsb hpa hpb m1 m2 m3 m4 mi q1 q2 q3 q4 e hw
    go_enter Tryd.func21, Tryd.ntmps21
    go_wp2_with fail
    go_ret3
    exact ⟨by rw [unhide HO]; rfl, Below.refl _ _⟩
  by_cases g4 : 4096 < pb.length
  · have e := cL2 g4
    have hw : mx4 (hfC la) (codeL pa) (hfC lb) (codeL pb) = 2 := by omega
    rw [hw, if_neg (by omega)] at HO
    clear hsa hsb hpa hpb m1 m2 m3 m4 mi q1 q2 q3 q4 e hw
    go_enter Tryd.func21, Tryd.ntmps21
    go_wp2_with fail
    go_ret3
    exact ⟨by rw [unhide HO]; rfl, Below.refl _ _⟩
  have b1 : hfC la = if la.size = 32 then 0 else 1 := by split; exact hf0 (by assumption); exact hf1 g1 (by assumption)
  have b3 : hfC lb = if lb.size = 32 then 0 else 1 := by split; exact hf0 (by assumption); exact hf1 g2 (by assumption)
  have b2 : codeL pa = if (decide (pa.length ≤ 64) && allH pa) = true then 0 else 1 := by
    split
    · exact cL0 (by assumption)
    · rename_i hh; exact cL1 g3 (Bool.eq_false_iff.2 hh)
  have b4 : codeL pb = if (decide (pb.length ≤ 64) && allH pb) = true then 0 else 1 := by
    split
    · exact cL0 (by assumption)
    · rename_i hh; exact cL1 g4 (Bool.eq_false_iff.2 hh)
  have H2 := hide (fun wx hx => l06Hashes_any pa ba oa ca wx hx hpa)
  have H4 := hide (fun wx hx => l06Hashes_any pb bb ob cb wx hx hpb)
  have HSA := hide hsa
  have HSB := hide hsb
  have HKA := hide (fun h : codeL pa = 0 => codeL_ok h)
  have HKB := hide (fun h : codeL pb = 0 => codeL_ok h)
  clear hsa hsb hpa hpb
  have HB : Hid (mx4 (hfC la) (codeL pa) (hfC lb) (codeL pb) = if (decide (pa.length ≤ 64) && allH pa) = true ∧ (decide (pb.length ≤ 64) && allH pb) = true ∧ la.size = 32 ∧ lb.size = 32 then 0 else 1) := hide (by
    by_cases a1 : la.size = 32 <;> by_cases a2 : (decide (pa.length ≤ 64) && allH pa) = true <;> by_cases a3 : lb.size = 32 <;> by_cases a4 : (decide (pb.length ≤ 64) && allH pb) = true
    all_goals simp only [a1, a2, a3, a4, if_true, if_false] at b1 b2 b3 b4
    all_goals (rw [b1, b2, b3, b4]; simp [a1, a2, a3, a4, mx4, mxI]))
  have HCA : Hid ((decide (pa.length ≤ 64) && allH pa) = true → codeL pa = 0) := hide (fun h => by rw [b2, if_pos h])
  have HCB : Hid ((decide (pb.length ≤ 64) && allH pb) = true → codeL pb = 0) := hide (fun h => by rw [b4, if_pos h])
  clear m1 m2 m3 m4 mi q1 q2 q3 q4 b1 b2 b3 b4
  generalize mx4 (hfC la) (codeL pa) (hfC lb) (codeL pb) = c at *
  generalize (decide (pa.length ≤ 64) && allH pa) = x1 at *
  generalize (decide (pb.length ≤ 64) && allH pb) = x2 at *
  go_enter Tryd.func21, Tryd.ntmps21
  go_wp2_with fail
  refine (unhide H2 w (unhide HSA)).mono ?_
  rintro e w9 ⟨rfl, hw⟩
  subst w9
  cases x1
  · have hc := unhide HB
    rw [if_neg (by simp)] at hc
    subst hc
    rw [if_neg (by omega)] at HO
    go_wp2_with fail
    go_ret3
    exact ⟨by rw [unhide HO]; rfl, Below.refl _ _⟩
  go_wp2_with fail
  refine (unhide H4 w (unhide HSB)).mono ?_
  rintro e w9 ⟨rfl, hw⟩
  subst w9
  cases x2
  · have hc := unhide HB
    rw [if_neg (by simp)] at hc
    subst hc
    rw [if_neg (by omega)] at HO
    go_wp2_with fail
    go_ret3
    exact ⟨by rw [unhide HO]; rfl, Below.refl _ _⟩
  rcases (show ¬ la.size = 32 ∨ la.size = 32 by omega) with h32 | h32
  · have hc := unhide HB
    rw [if_neg (by rintro ⟨_, _, h, _⟩; exact h32 h)] at hc
    subst hc
    rw [if_neg (by omega)] at HO
    have h4 : (la.size : Int) ≠ 32 := by omega
    go_wp2_with fail
    go_ret3
    exact ⟨by rw [unhide HO]; rfl, Below.refl _ _⟩
  rcases (show ¬ lb.size = 32 ∨ lb.size = 32 by omega) with h32b | h32b
  · have hc := unhide HB
    rw [if_neg (by rintro ⟨_, _, _, h⟩; exact h32b h)] at hc
    subst hc
    rw [if_neg (by omega)] at HO
    have h4 : (lb.size : Int) ≠ 32 := by omega
    have h4a : ((la.size : Int) != 32) = false := by rw [bne_eq_false_iff_eq]; omega
    go_wp2_with fail
    go_ret3
    exact ⟨by rw [unhide HO]; rfl, Below.refl _ _⟩
  have hc := unhide HB
  rw [if_pos (by simp [h32, h32b])] at hc
  subst hc
  rw [if_pos rfl] at HO
  have hA := unhide HKA (unhide HCA (by simp))
  have hB := unhide HKB (unhide HCB (by simp))
  have HAA := hide hA.2
  have HBB := hide hB.2
  have hpl := hA.1
  have hplb := hB.1
  have h4a : ((la.size : Int) != 32) = false := by rw [bne_eq_false_iff_eq]; omega
  have h4b : ((lb.size : Int) != 32) = false := by rw [bne_eq_false_iff_eq]; omega
  clear HB HKA HKB HCA HCB H2 H4 hA hB
  have I1 := hide (l01In_any n 1 64 w)
  have I2 := hide (inB_iff (n := n) (lo := 1) (hi := 64))
  generalize inB n 1 64 = b1 at *
  go_wp2_with fail
  refine (unhide I1).mono ?_
  rintro e w9 ⟨rfl, hw⟩
  subst w9
  cases b1
  · rw [if_neg (by simp)] at HO
    go_wp2_with fail
    go_ret3
    exact ⟨by rw [unhide HO]; rfl, Below.refl _ _⟩
  obtain ⟨n0, n1⟩ := (unhide I2).1 rfl
  have I3 := hide (l01In_any p 0 (n - 1) w)
  have I4 := hide (inB_iff (n := p) (lo := 0) (hi := n - 1))
  generalize inB p 0 (n - 1) = b2 at *
  go_wp2_with fail
  refine (unhide I3).mono ?_
  rintro e w9 ⟨rfl, hw⟩
  subst w9
  cases b2
  · rw [if_neg (by simp)] at HO
    go_wp2_with fail
    go_ret3
    exact ⟨by rw [unhide HO]; rfl, Below.refl _ _⟩
  obtain ⟨p0, p1⟩ := (unhide I4).1 rfl
  rw [if_pos (by simp)] at HO
  obtain ⟨pn, rfl⟩ : ∃ q : Nat, p = (q : Int) := ⟨p.toNat, by omega⟩
  obtain ⟨nn, rfl⟩ : ∃ q : Nat, n = (q : Int) := ⟨n.toNat, by omega⟩
  rw [Int.toNat_natCast, Int.toNat_natCast] at HO
  have HU := hide (fun wx hx => l15Inputs_any nn la pn pa pa.length ba oa ca wx (by omega) (by omega) (by omega) rfl hpl h32 (unhide HAA) hx)
  have HUB := hide (fun wx hx => l15Inputs_any nn lb pn pb pb.length bb ob cb wx (by omega) (by omega) (by omega) rfl hplb h32b (unhide HBB) hx)
  obtain ⟨u1, u2⟩ := up_way nn la pn pa (by omega) (by omega)
  obtain ⟨v1, v2⟩ := up_way nn lb pn pb (by omega) (by omega)
  have HU1 := hide (And.intro u1 (And.intro u2 (iu_way nn la pn pa (by omega) (by omega))))
  have HU2 := hide (And.intro v1 (And.intro v2 (iu_way nn lb pn pb (by omega) (by omega))))
  have hwl := way_len nn pn (by omega)
  have HZA : Hid (((wayV pn nn).zip pa).length = min (wayV pn nn).length pa.length) := hide (by simp)
  have HZB : Hid (((wayV pn nn).zip pb).length = min (wayV pn nn).length pb.length) := hide (by simp)
  have HNN : Hid ((wayV pn nn).length ≤ 64) := hide (by omega)
  clear I1 I2 I3 I4 u1 u2 v1 v2 hwl
  generalize (upV la pn nn pa).1 = xa at *
  generalize (upV la pn nn pa).2 = oka at *
  generalize iuV la pn nn pa = ja at *
  generalize (upV lb pn nn pb).1 = xb at *
  generalize (upV lb pn nn pb).2 = okb at *
  generalize iuV lb pn nn pb = jb at *
  go_wp2_with fail
  refine (unhide HU w (unhide HSA)).mono ?_
  rintro e w2 ⟨ua, rfl, hO2, hb2⟩
  have B2 := hide hb2
  have O2 := hide hO2
  clear hb2 HU hO2
  go_wp2_with fail
  refine (unhide HUB w2 ((unhide HSB).below (unhide B2))).mono ?_
  rintro e w3 ⟨ub, rfl, hO3, hb3⟩
  have B3 := hide ((unhide B2).trans (hb3.mono (unhide B2).size))
  have O3 := hide ((unhide O2).below hb3)
  have P3 := hide hO3
  clear hb3 HUB hO3 O2 B2
  generalize (wayV pn nn).zip pa = za at *
  generalize (wayV pn nn).zip pb = zb at *
  by_cases hpa : pa.length = (wayV pn nn).length
  case neg =>
    rw [if_neg (by rintro ⟨h, _⟩; exact hpa h)] at HO
    have hok := (unhide HU1).1
    rw [decide_eq_false hpa] at hok
    subst hok
    go_wp2_with fail
    go_ret3
    exact ⟨by rw [unhide HO]; rfl, unhide B3⟩
  have hok := (unhide HU1).1
  rw [decide_eq_true hpa] at hok
  subst hok
  by_cases hpb : pb.length = (wayV pn nn).length
  case neg =>
    rw [if_neg (by rintro ⟨_, h⟩; exact hpb h)] at HO
    have hok := (unhide HU2).1
    rw [decide_eq_false hpb] at hok
    subst hok
    go_wp2_with fail
    go_ret3
    exact ⟨by rw [unhide HO]; rfl, unhide B3⟩
  have hok := (unhide HU2).1
  rw [decide_eq_true hpb] at hok
  subst hok
  rw [if_pos ⟨hpa, hpb⟩] at HO
  have e1 := (unhide HU1).2.1 hpa
  have e2 := (unhide HU1).2.2 hpa
  have e3 := (unhide HU2).2.1 hpb
  have e4 := (unhide HU2).2.2 hpb
  rw [← e1, ← e2, ← e3, ← e4] at HO
  have HLA : Hid (ja.length = (wayV pn nn).length) := hide (by rw [e2, inpL_len, unhide HZA]; omega)
  have HLB : Hid (jb.length = (wayV pn nn).length) := hide (by rw [e4, inpL_len, unhide HZB]; omega)
  clear e1 e2 e3 e4 hpa hpb HU1 HU2
  by_cases hx : xa = xb
  case neg =>
    rw [if_neg hx] at HO
    have hxb := textNe hx
    go_wp2_with fail
    go_ret3
    exact ⟨by rw [unhide HO]; rfl, unhide B3⟩
  rw [if_pos hx] at HO
  have hxb := textEq hx
  generalize (wayV pn nn).length = N at *
  have hN := unhide HLA
  subst hN
  have hjn : ja.length ≤ 64 := unhide HNN
  have wsub : IntKind.i64.wrap ((ja.length : Int) - 1) = (ja.length : Int) - 1 := by
    simp only [IntKind.wrap, IntKind.bits, IntKind.signed]
    simp
    omega
  have shA := ownS_shp (unhide O3)
  have shB := ownS_shp (unhide P3)
  obtain ⟨ga, cpa, rfl⟩ := shA
  obtain ⟨gb, cpb, rfl⟩ := shB
  clear hx
  have hjl := unhide HLB
  rw [hjl] at P3 ⊢
  have HJL := hide hjl
  clear hjl HLA HLB
  go_wp2_with fail
  go_loopw [21] (fun i wr => ∃ (k : Nat) (z : Int), k ≤ ja.length ∧ z = (k : Int) - 1 ∧ i = .int .i64 z ∧ fdA ja jb ja.length = fdA ja jb k ∧ Below w3.heap.size w3 wr) (fun i _ => (intOf i + 1).toNat)
  case atStart => exact ⟨ja.length, _, Nat.le_refl _, rfl, by simp, rfl, Below.refl _ _⟩
  case round =>
    obtain ⟨k, z, hk, hz, rfl, hfd, hwr⟩ := hrel
    by_cases h0 : k = 0
    · subst h0
      obtain rfl : z = -1 := by omega
      have HF := hide ((unhide HO).trans hfd)
      have HBW : Hid (Below w.heap.size w wr) := hide ((unhide B3).trans (hwr.mono (unhide B3).size))
      clear hfd hwr hz
      go_wp2_with fail
      go_ret3
      exact ⟨by rw [unhide HF]; rfl, unhide HBW⟩
    · obtain ⟨q, rfl⟩ : ∃ q, k = q + 1 := ⟨k - 1, by omega⟩
      obtain rfl : z = (q : Int) := by omega
      obtain ⟨g1, rfl, cn1, d1⟩ := ownS_at (unhide O3) q (by omega)
      obtain ⟨g2, rfl, cn2, d2⟩ := ownS_at (l := jb) (by rw [unhide HJL]; exact unhide P3) q (by rw [unhide HJL]; omega)
      have c1 : wr.cell? ⟨g1, q, none⟩ = some (.string (ja.getD q ByteArray.empty)) := (hwr.cell (p := ⟨g1, q, none⟩) cn1).trans d1
      have c2 : wr.cell? ⟨g2, q, none⟩ = some (.string (jb.getD q ByteArray.empty)) := (hwr.cell (p := ⟨g2, q, none⟩) cn2).trans d2
      have hq0 : (0 : Int) ≤ (q : Int) := by omega
      have hq1 : (q : Int) < (ja.length : Int) := by omega
      have wq : IntKind.i64.wrap ((q : Int) - 1) = (q : Int) - 1 := by
        simp only [IntKind.wrap, IntKind.bits, IntKind.signed]
        simp
        omega
      have HEQ := hide (fun h => fdA_eq (a := ja) (b := jb) (k := q) h)
      have HNE := hide (fun h => fdA_ne (a := ja) (b := jb) (k := q) h)
      have HF := hide ((unhide HO).trans hfd)
      have HFD := hide hfd
      have HBW : Hid (∀ x, Below w.heap.size w (wr.drewN x)) := hide (fun x => below_drewN ((unhide B3).trans (hwr.mono (unhide B3).size)) x)
      have HWR := hide hwr
      clear hfd hz d1 d2 hwr cn1 cn2
      generalize ja.getD q ByteArray.empty = s1 at *
      generalize jb.getD q ByteArray.empty = s2 at *
      by_cases hs : s1 = s2
      · have hsb := textEq hs
        have HE := hide (unhide HEQ hs)
        clear hs
        go_wp2_with fail
        go_quiet (fail)
        go_wp2_with fail
        refine ⟨⟨q, _, by omega, rfl, by simp, (unhide HFD).trans (unhide HE), below_drewN (unhide HWR) _⟩, ?_⟩
        simp [intOf]
      · have hsb := textNe hs
        have HE := hide (unhide HNE hs)
        clear hs
        go_wp2_with fail
        go_quiet (fail)
        go_wp2_with fail
        go_quiet (fail)
        go_wp2_with fail
        go_ret3
        exact ⟨by rw [unhide HF, unhide HE]; rfl, below_drewN (unhide HBW _) _⟩
end Go.Proofs.YtiiaehajcomfaaaDoor.Sha
