/- For every two lists of bytes that can be read, laws.FnCollision returns true, both read as they did, and so do the two tables of words, which the card ties to the program's text. Condition: the listed tables start as the program's text lays them. -/
import Derived.Test.YtcaadcdjipdjeaaDoorColI
import Derived.Test.YtcaadcdjipdjeaaDoorColP
import Derived.Test.YtcaadcdjipdjeaaDoorIncP
import Derived.Test.YtcaadcdjipdjeaaDoorMkM
import Derived.Test.YtcaadcdjipdjeaaDoorDig
import Derived.Test.YtcaadcdjipdjeaaDoorSameT
import Derived.Test.YtcaadcdjipdjeaaDoorLawG
import Derived.Deep.RegionHeldLaw
import Derived.Deep.DeepCutAuto
import Derived.Deep.RegionHeld3
import Derived.Test.YtcaadcdjipdjeaaDoorCards
import Derived.Test.YtcaadcdjipdjeaaDoorTie
namespace Go.Proofs.YtcaadcdjipdjeaaDoor.fnCollision
open Go.ChangeShapes Go.WideShapes Go.ChangeAt Go.RowKit Sha
open Go.ChangeMaps (open_string shut_string)
set_option linter.unusedVariables false
set_option linter.unusedSimpArgs false

theorem wf_n {n : Nat} (h : n ≤ 64) : (Lit.int .i64 (n : Int)).wf = true := by
  have : ∀ m : Fin 65, (Lit.int .i64 (m.val : Int)).wf = true := by decide +kernel
  exact this ⟨n, by omega⟩
theorem small_of {L : List ByteArray} (hA : AllH L) (i : Nat) : (L.getD i ByteArray.empty).size ≤ 1048576 := by
  rcases Nat.lt_or_ge i L.length with h | h
  · rw [hA i h]; omega
  · rw [List.getD_eq_getElem?_getD, List.getElem?_eq_none h]; simp
theorem set_hash {L : List ByteArray} {t : ByteArray} (hA : AllH L) (ht : t.size = 32) (j : Nat) : AllH (L.set j t) := fun i hi => by
  rw [List.length_set] at hi
  have h := hA i hi
  rw [List.getD_eq_getElem?_getD, List.getElem?_set]
  by_cases e : j = i
  · rw [if_pos e]; simp [hi, e, ht]
  · rw [if_neg e, ← List.getD_eq_getElem?_getD]; exact h
theorem own_noneT (w : World) (B X : Nat) (hX : w.heap.size = X) (hB : B ≤ X) : w.alloc (.cells #[] 9) |>.ownsRow B 9 1 (.slice (some ⟨X, 0, none⟩) 0 0) 0 [] :=
  ⟨rfl, .inr ⟨X, 0, #[], rfl, hB, by subst hX; exact heap_alloc_new w _, Nat.le_refl _, by unfold maxLen; omega, rfl, rfl⟩⟩
theorem own_stored {B g c : Nat} {w : World} {l : List ByteArray} (h : OwnS B w (.slice (some ⟨g, 0, none⟩) l.length c) l) (j : Nat) (t : ByteArray) : OwnS B (w.setCell ⟨g, j, none⟩ (.string t)) (.slice (some ⟨g, 0, none⟩) l.length c) (l.set j t) := by
  have := (World.ownsRow.stored h j (.string t)).1
  unfold OwnS
  rw [List.length_set, List.map_set]
  exact this
set_option maxRecDepth 100000 in
set_option maxHeartbeats 8000000 in
theorem walk0 (a : Option Addr) (cap : Nat) (l : List Int) (a2 : Option Addr) (cap2 : Nat) (m : List Int) (w : World) (h1 : Bytes w (.slice a l.length cap) l) (h2 : Bytes w (.slice a2 m.length cap2) m) (hf : First w) (ht : Table w) :
    Calls Tryd.prog 3 #[.slice a l.length cap, .slice a2 m.length cap2] w fun e w' => e = .returned (.bool true) ∧ Below w.heap.size w w' := by
  have HT := hide (show Tab w from ⟨hf, ht⟩)
  obtain ⟨i0, hi, hz0', hz1', hz2'⟩ := info_parts9
  have H1 := hide h1
  have H2 := hide h2
  have g1 : l.length ≤ 9223372036854775807 := by obtain ⟨_, _, _, hm1, _⟩ := h1; unfold maxLen at hm1; omega
  have g2 : m.length ≤ 9223372036854775807 := by obtain ⟨_, _, _, hm1, _⟩ := h2; unfold maxLen at hm1; omega
  clear hf ht h1 h2
  go_enter Tryd.func3, Tryd.ntmps3
  by_cases hl : 1048576 < l.length
  · go_wp2_with fail
    go_ret
    exact ⟨rfl, Below.refl _ _⟩
  by_cases hmm : 1048576 < m.length
  · go_wp2_with fail
    go_ret
    exact ⟨rfl, Below.refl _ _⟩
  have HL := hide (leavesOf_any a cap l w (unhide H1) (by omega))
  go_wp2_with fail
  refine (unhide HL).mono ?_
  rintro e w1 ⟨g, c, L, rfl, hLn, hA, hO1, hb1⟩
  have B1 := hide hb1
  have O1 := hide hO1
  have HA := hide hA
  clear hO1 hb1 hA HL
  by_cases h0 : L.length = 0
  · go_wp2_with fail
    go_ret
    exact ⟨rfl, unhide B1⟩
  have hAt := hide (at_all (.slice a2 m.length cap2) m 0 (L.length : Int) w1 ((unhide H2).below (unhide B1)) (by omega) (by omega) (by omega) (by omega))
  go_wp2_with fail
  refine (unhide hAt).mono ?_
  rintro e w4 ⟨ki, rfl, hk0, hk1, d, hd⟩
  obtain ⟨k, rfl⟩ : ∃ n : Nat, ki = (n : Int) := ⟨ki.toNat, by omega⟩
  have B4 : Hid (Below w.heap.size w w4) := hide (by rw [hd]; exact below_drewN (unhide B1) d)
  have O4 : Hid (OwnS w.heap.size w4 (.slice (some ⟨g, 0, none⟩) L.length c) L) := hide (by rw [hd]; exact (unhide O1).drewN d)
  clear hd hAt B1 O1
  have HIS := hide (specInc_own L k g 0 c w4 (by omega) (by omega) (by omega) (unhide HA) (SA.own (unhide O4)) (small_of (unhide HA)))
  have HPW := hide (path_way L.length L k rfl (by omega) (by omega) (by omega))
  have HPH := hide (path_hash L.length L k rfl (by omega) (unhide HA))
  have hpl : (pathV L k).length ≤ 64 := by have := path_len L.length L k rfl; omega
  have HW64 : Hid ((wayV k L.length).length ≤ 64) := hide (by rw [← unhide HPW]; exact hpl)
  have hlk := (unhide HA) k (by omega)
  have hL64 : L.length ≤ 64 := by omega
  generalize hlv : L.getD k ByteArray.empty = lk at *
  generalize pathV L k = pth at *
  go_wp2_with fail
  refine (unhide HIS).mono ?_
  rintro e w5 ⟨pg, pc, rfl, hO5, hb5⟩
  have B5 := hide ((unhide B4).trans (hb5.mono (unhide B4).size))
  have O5 := hide ((unhide O4).below hb5)
  have P5 := hide hO5
  clear hO5 hb5 O4 B4 HIS
  have k1 : (0 : Int) ≤ (k : Int) := by omega
  have k2 : (k : Int) < (L.length : Int) := by omega
  have c0 := (unhide O5).cell k (by omega)
  rw [hlv] at c0
  have hg5 : g < w5.heap.size := ((unhide O5).lt g rfl).2
  have HCI := hide (fun wx hx hz => implCol_any (k : Int) (L.length : Int) lk pth lk pth pg 0 pc pg 0 pc wx (by have := hlk; omega) (by have := hlk; omega) (wf_n hL64) hx (small_of (unhide HPH)) hx (small_of (unhide HPH)) hz)
  rw [col_none hL64 (by omega) (unhide HPW) (unhide HPH) (unhide HW64) hlk] at HCI
  dsimp only [colV] at HCI
  have HC8 := hide (fun (wx : World) (hb : Below w5.heap.size w5 wx) => unhide HCI wx (SA.own ((unhide P5).below hb)) ((unhide HT).below ((unhide B5).trans (hb.mono (unhide B5).size))))
  clear HCI
  go_upto_region 8 with fail
  go_cut [9, 10, 11] (fun s9 s10 s11 wx => s9 = .string ⟨#[]⟩ ∧ s10 = .string ⟨#[]⟩ ∧ s11 = .int .i64 5 ∧ Below w5.heap.size w5 wx)
  case first =>
    go_region_held_law (fun wx => wx.cell? ⟨g, k, none⟩ = some (.string lk)) (first | exact cc8 | go_keep | (trace_state; fail)) ((go_at_call 7; refine (unhide HC8 _ ((Below.refl _ w5).drew)).mono ?_; rintro e w7 ⟨rfl, hb7⟩; (have HB7 := hide (((Below.refl _ w5).drew).trans hb7)); (have cc8 := ((unhide HB7).cell (p := ⟨g, k, none⟩) hg5).trans c0); clear hb7))
    all_goals
      go_wp2_with fail
      go_meet
      exact ⟨rfl, rfl, rfl, unhide HB7⟩
  case rest =>
    obtain ⟨rfl, rfl, rfl, hbc⟩ := hcut
    obtain ⟨w7, hw7⟩ : ∃ w2, w2 = wc := ⟨_, rfl⟩
    subst hw7
    have B7 := hide ((unhide B5).trans (hbc.mono (unhide B5).size))
    have O7 := hide ((unhide O5).below hbc)
    have P7 := hide ((unhide P5).below hbc)
    clear hbc B5 O5 P5 c0 HC8 hg5
    have HHO := hide (hashOf_any a2 cap2 m w7 ((unhide H2).below (unhide B7)) (by omega))
    go_wp2_with fail
    refine (unhide HHO).mono ?_
    rintro e w8 ⟨lf, rfl, hlf, hb8⟩
    have B8 := hide ((unhide B7).trans (hb8.mono (unhide B7).size))
    have O8 := hide ((unhide O7).below hb8)
    have P8 := hide ((unhide P7).below hb8)
    clear hb8 B7 O7 P7 HHO
    have HG8 := hide (((unhide O8).lt g rfl).2)
    have HP8 := hide (((unhide P8).lt pg rfl).2)
    have HB88 := hide ((unhide B8).size)
    have B0 := hide ((Below.refl w8.heap.size w8).alloc (Nat.le_refl _) (.cells #[] 9))
    have O0 := hide (own_noneT w8 w8.heap.size w8.heap.size rfl (Nat.le_refl _))
    have HR := hide (((unhide P8).below (unhide B0)).strs.rw)
    go_upto_region 11 with (at_builtin; refine wpList_append_row _ rfl _ _ _ rfl w8.heap.size 9 i0 _ 1 16 Tryd.underlying23 hi hz0' hz1' hz2' rfl (by omega) _ 0 [] rfl (unhide O0) _ pth.length (pth.map Value.string) rfl (unhide HR) (by simp) (by intro u hu; simp only [List.mem_map] at hu; obtain ⟨s, _, rfl⟩ := hu; rfl) (by unfold maxLen; omega) (by omega) (by simp) ?_; intro aq cq w9 hown1 hgrow1 hat1; have Q9a := hide hown1; have A9 := hide hat1; have B9a := hide ((unhide B0).grown hgrow1 (by simp) (fun r hr => ((unhide O0).lt r hr).1)); clear hown1 hgrow1 hat1)
    have hne : aq ≠ none := fun e => by
      have := unhide A9
      rw [e] at this
      rcases this with h | h <;> cases h
    have h9 := unhide Q9a
    rw [Nat.zero_add, List.nil_append] at h9
    have hsp := _root_.Go.Proofs.YtcaadcdjipdjeaaDoor.own_shape h9
    obtain ⟨qg, rfl⟩ : ∃ qg, aq = some ⟨qg, 0, none⟩ := by
      rcases hsp with ⟨hv, h0⟩ | ⟨g, c, hv, _⟩
      · simp only [Value.slice.injEq] at hv
        exact absurd hv.1 hne
      · simp only [Value.slice.injEq] at hv
        exact ⟨g, hv.1⟩
    have Q9 : Hid (OwnS w8.heap.size w9 (.slice (some ⟨qg, 0, none⟩) pth.length cq) pth) := hide (by unfold OwnS; exact h9)
    have B9 := hide ((unhide B8).trans ((unhide B9a).mono (unhide B8).size))
    have O9 := hide ((unhide O8).below (unhide B9a))
    have P9 := hide ((unhide P8).below (unhide B9a))
    clear hsp h9 hne A9 Q9a B9a O0 B0 HR B8 O8 P8
    by_cases hp0 : pth.length = 0
    · have hp1 : ¬ (0 : Int) < (pth.length : Int) := by omega
      have BW := B9
      have OW := O9
      have PW := P9
      have QW := Q9
      have HLF := hide hlf
      have HQA := HPH
      clear B9 O9 P9 Q9 hp0
      go_upto_region 14 with fail
      clear hp1
      have hqA := unhide HQA
      have HCC := hide (col_cases (p := k) (n := L.length) (la := lk) (lb := lf) (pa := pth) (pb := pth) hL64 (by omega) (unhide HPW) (unhide HPW) (unhide HPH) hqA (unhide HW64) hlk (unhide HLF))
      have HCI := hide (fun ba ca bb cb wx hx hy hz => implCol_any (k : Int) (L.length : Int) lk pth lf pth ba 0 ca bb 0 cb wx (by have := hlk; omega) (by have := unhide HLF; omega) (wf_n hL64) hx (small_of (unhide HPH)) hy (small_of hqA) hz)
      have HCS := hide (fun ba ca bb cb wx hx hy => specCol_any (k : Int) (L.length : Int) lk pth lf pth ba 0 ca bb 0 cb wx (by have := hlk; omega) (by have := unhide HLF; omega) (wf_n hL64) hx (small_of (unhide HPH)) hy (small_of hqA))
      clear hqA
      generalize colOut (k : Int) (L.length : Int) lk pth lf pth = out at *
      obtain ⟨o1, o2, o3⟩ := out
      dsimp only [colV] at HCI HCS
      have c0 := (unhide OW).cell k (by omega)
      rw [hlv] at c0
      go_wp2_with fail
      refine (unhide HCI _ _ _ _ w9 (SA.own (unhide PW)) (SA.own (unhide QW)) ((unhide HT).below (unhide BW))).mono ?_
      rintro e wy ⟨rfl, hby⟩
      have BY := hide ((unhide BW).trans (hby.mono (unhide BW).size))
      have OY := hide ((unhide OW).below hby)
      have PY := hide ((unhide PW).below hby)
      have QY := hide ((unhide QW).below hby)
      clear hby BW OW PW QW HCI c0
      have c0 := (unhide OY).cell k (by omega)
      rw [hlv] at c0
      go_wp2_with fail
      refine (unhide HCS _ _ _ _ wy (SA.own (unhide PY)) (SA.own (unhide QY))).mono ?_
      rintro e wz ⟨rfl, hbz⟩
      have BZ := hide ((unhide BY).trans (hbz.mono (unhide BY).size))
      have OZ := hide ((unhide OY).below hbz)
      have PZ := hide ((unhide PY).below hbz)
      have QZ := hide ((unhide QY).below hbz)
      clear hbz BY OY PY QY HCS c0
      rcases unhide HCC with h | ⟨h, h1, h2⟩ | ⟨a, b, h, h1, h2, h3, h4⟩
      · simp only [Prod.mk.injEq] at h
        obtain ⟨rfl, rfl, rfl⟩ := h
        clear HCC
        go_wp2_with fail
        go_ret
        exact ⟨rfl, unhide BZ⟩
      · simp only [Prod.mk.injEq] at h
        obtain ⟨rfl, rfl, rfl⟩ := h
        clear HCC
        have c0 := (unhide OZ).cell k (by omega)
        rw [hlv] at c0
        have HQ2 := QZ
        have hte := textEq h1.symm
        clear h1 h2
        go_wp2_with fail
        refine (sameTexts_any _ _ pth wz (unhide PZ).strs (unhide HQ2).strs (by omega)).mono ?_
        rintro e wu ⟨rfl, du, hdu⟩
        have BU : Hid (Below w.heap.size w wu) := hide (by rw [hdu]; exact below_drewN (unhide BZ) du)
        clear hdu
        go_wp2_with fail
        go_ret
        exact ⟨rfl, unhide BU⟩
      · simp only [Prod.mk.injEq] at h
        obtain ⟨rfl, rfl, rfl⟩ := h
        clear HCC OZ PZ QZ
        have hte := textNe h1
        obtain ⟨ca1, wa, hcv, hBa, hba⟩ := str_bytesB o1 wz (by unfold maxLen; omega)
        rw [h3] at hcv hBa
        have BA := hide ((unhide BZ).trans (hba.mono (unhide BZ).size))
        have HBA := hide hBa
        clear hba hBa BZ h1
        have HHH := hide h2
        clear h2
        go_wp2_with fail
        refine (implHash_any _ _ wa (unhide HBA) ((unhide HT).below (unhide BA)).2 ((unhide HT).below (unhide BA)).1).mono ?_
        rintro e wb ⟨rfl, hbb⟩
        have BB := hide ((unhide BA).trans (hbb.mono (unhide BA).size))
        clear hbb BA HBA hcv
        rw [unhide HHH]
        obtain ⟨ca2, wd, hcv, hBd, hbd⟩ := str_bytesB o2 wb (by unfold maxLen; omega)
        rw [h4] at hcv hBd
        have BD := hide ((unhide BB).trans (hbd.mono (unhide BB).size))
        have HBD := hide hBd
        clear hbd hBd BB
        go_wp2_with fail
        refine (implHash_any _ _ wd (unhide HBD) ((unhide HT).below (unhide BD)).2 ((unhide HT).below (unhide BD)).1).mono ?_
        rintro e we ⟨rfl, hbe⟩
        have BE := hide ((unhide BD).trans (hbe.mono (unhide BD).size))
        clear hbe BD HBD hcv
        go_wp2_with fail
        go_ret
        exact ⟨rfl, unhide BE⟩
    have hp1 : 0 < (pth.length : Int) := by omega
    have hAt := hide (at_all (.slice a2 m.length cap2) m 1 2 w9 ((unhide H2).below (unhide B9)) (by omega) (by omega) (by omega) (by omega))
    go_wp2_with fail
    refine (unhide hAt).mono ?_
    rintro e w10 ⟨vi, rfl, hv0, hv1, d, hd⟩
    have B10 : Hid (Below w.heap.size w w10) := hide (by rw [hd]; exact below_drewN (unhide B9) d)
    have O10 : Hid (OwnS w.heap.size w10 (.slice (some ⟨g, 0, none⟩) L.length c) L) := hide (by rw [hd]; exact (unhide O9).drewN d)
    have P10 : Hid (OwnS w4.heap.size w10 (.slice (some ⟨pg, 0, none⟩) pth.length pc) pth) := hide (by rw [hd]; exact (unhide P9).drewN d)
    have Q10 : Hid (OwnS w8.heap.size w10 (.slice (some ⟨qg, 0, none⟩) pth.length cq) pth) := hide (by rw [hd]; exact (unhide Q9).drewN d)
    have HGL : Hid (w8.heap.size ≤ qg ∧ g < w8.heap.size ∧ pg < w8.heap.size) := hide ⟨((unhide Q9).lt qg rfl).1, unhide HG8, unhide HP8⟩
    clear hd hAt B9 O9 P9 Q9
    by_cases hv : vi = 0
    case neg =>
      have BW := B10
      have OW := O10
      have PW := P10
      have QW := Q10
      have HLF := hide hlf
      have HQA := HPH
      clear B10 O10 P10 Q10
      go_upto_region 14 with fail
      have hqA := unhide HQA
      have HCC := hide (col_cases (p := k) (n := L.length) (la := lk) (lb := lf) (pa := pth) (pb := pth) hL64 (by omega) (unhide HPW) (unhide HPW) (unhide HPH) hqA (unhide HW64) hlk (unhide HLF))
      have HCI := hide (fun ba ca bb cb wx hx hy hz => implCol_any (k : Int) (L.length : Int) lk pth lf pth ba 0 ca bb 0 cb wx (by have := hlk; omega) (by have := unhide HLF; omega) (wf_n hL64) hx (small_of (unhide HPH)) hy (small_of hqA) hz)
      have HCS := hide (fun ba ca bb cb wx hx hy => specCol_any (k : Int) (L.length : Int) lk pth lf pth ba 0 ca bb 0 cb wx (by have := hlk; omega) (by have := unhide HLF; omega) (wf_n hL64) hx (small_of (unhide HPH)) hy (small_of hqA))
      clear hqA
      generalize colOut (k : Int) (L.length : Int) lk pth lf pth = out at *
      obtain ⟨o1, o2, o3⟩ := out
      dsimp only [colV] at HCI HCS
      have c0 := (unhide OW).cell k (by omega)
      rw [hlv] at c0
      go_wp2_with fail
      refine (unhide HCI _ _ _ _ w10 (SA.own (unhide PW)) (SA.own (unhide QW)) ((unhide HT).below (unhide BW))).mono ?_
      rintro e wy ⟨rfl, hby⟩
      have BY := hide ((unhide BW).trans (hby.mono (unhide BW).size))
      have OY := hide ((unhide OW).below hby)
      have PY := hide ((unhide PW).below hby)
      have QY := hide ((unhide QW).below hby)
      clear hby BW OW PW QW HCI c0
      have c0 := (unhide OY).cell k (by omega)
      rw [hlv] at c0
      go_wp2_with fail
      refine (unhide HCS _ _ _ _ wy (SA.own (unhide PY)) (SA.own (unhide QY))).mono ?_
      rintro e wz ⟨rfl, hbz⟩
      have BZ := hide ((unhide BY).trans (hbz.mono (unhide BY).size))
      have OZ := hide ((unhide OY).below hbz)
      have PZ := hide ((unhide PY).below hbz)
      have QZ := hide ((unhide QY).below hbz)
      clear hbz BY OY PY QY HCS c0
      rcases unhide HCC with h | ⟨h, h1, h2⟩ | ⟨a, b, h, h1, h2, h3, h4⟩
      · simp only [Prod.mk.injEq] at h
        obtain ⟨rfl, rfl, rfl⟩ := h
        clear HCC
        go_wp2_with fail
        go_ret
        exact ⟨rfl, unhide BZ⟩
      · simp only [Prod.mk.injEq] at h
        obtain ⟨rfl, rfl, rfl⟩ := h
        clear HCC
        have c0 := (unhide OZ).cell k (by omega)
        rw [hlv] at c0
        have HQ2 := QZ
        have hte := textEq h1.symm
        clear h1 h2
        go_wp2_with fail
        refine (sameTexts_any _ _ pth wz (unhide PZ).strs (unhide HQ2).strs (by omega)).mono ?_
        rintro e wu ⟨rfl, du, hdu⟩
        have BU : Hid (Below w.heap.size w wu) := hide (by rw [hdu]; exact below_drewN (unhide BZ) du)
        clear hdu
        go_wp2_with fail
        go_ret
        exact ⟨rfl, unhide BU⟩
      · simp only [Prod.mk.injEq] at h
        obtain ⟨rfl, rfl, rfl⟩ := h
        clear HCC OZ PZ QZ
        have hte := textNe h1
        obtain ⟨ca1, wa, hcv, hBa, hba⟩ := str_bytesB o1 wz (by unfold maxLen; omega)
        rw [h3] at hcv hBa
        have BA := hide ((unhide BZ).trans (hba.mono (unhide BZ).size))
        have HBA := hide hBa
        clear hba hBa BZ h1
        have HHH := hide h2
        clear h2
        go_wp2_with fail
        refine (implHash_any _ _ wa (unhide HBA) ((unhide HT).below (unhide BA)).2 ((unhide HT).below (unhide BA)).1).mono ?_
        rintro e wb ⟨rfl, hbb⟩
        have BB := hide ((unhide BA).trans (hbb.mono (unhide BA).size))
        clear hbb BA HBA hcv
        rw [unhide HHH]
        obtain ⟨ca2, wd, hcv, hBd, hbd⟩ := str_bytesB o2 wb (by unfold maxLen; omega)
        rw [h4] at hcv hBd
        have BD := hide ((unhide BB).trans (hbd.mono (unhide BB).size))
        have HBD := hide hBd
        clear hbd hBd BB
        go_wp2_with fail
        refine (implHash_any _ _ wd (unhide HBD) ((unhide HT).below (unhide BD)).2 ((unhide HT).below (unhide BD)).1).mono ?_
        rintro e we ⟨rfl, hbe⟩
        have BE := hide ((unhide BD).trans (hbe.mono (unhide BD).size))
        clear hbe BD HBD hcv
        go_wp2_with fail
        go_ret
        exact ⟨rfl, unhide BE⟩
    subst hv
    have hAt := hide (at_all (.slice a2 m.length cap2) m 2 (pth.length : Int) w10 ((unhide H2).below (unhide B10)) (by omega) (by omega) (by omega) (by omega))
    go_wp2_with fail
    refine (unhide hAt).mono ?_
    rintro e w11 ⟨ji, rfl, hj0, hj1, d, hd⟩
    obtain ⟨j, rfl⟩ : ∃ n : Nat, ji = (n : Int) := ⟨ji.toNat, by omega⟩
    have B11 : Hid (Below w.heap.size w w11) := hide (by rw [hd]; exact below_drewN (unhide B10) d)
    have O11 : Hid (OwnS w.heap.size w11 (.slice (some ⟨g, 0, none⟩) L.length c) L) := hide (by rw [hd]; exact (unhide O10).drewN d)
    have P11 : Hid (OwnS w4.heap.size w11 (.slice (some ⟨pg, 0, none⟩) pth.length pc) pth) := hide (by rw [hd]; exact (unhide P10).drewN d)
    have Q11 : Hid (OwnS w8.heap.size w11 (.slice (some ⟨qg, 0, none⟩) pth.length cq) pth) := hide (by rw [hd]; exact (unhide Q10).drewN d)
    have B88 : Hid (w.heap.size ≤ w8.heap.size) := HB88
    clear hd hAt B10 O10 P10 Q10
    have qc := (unhide Q11).cell j (by omega)
    have qf := World.ownsRow.frozenAt (unhide Q11) j
    have hqgne : ((⟨g, k, none⟩ : Addr) = ⟨qg, j, none⟩) = False := by
      have := unhide HGL
      simp only [Addr.mk.injEq, eq_iff_iff, iff_false]
      omega
    have hT : Touch (fun x => x = qg) w11 (w11.setCell ⟨qg, j, none⟩ (.string lf)) := (Touch.refl _ _).setCell _ _ (fun _ => rfl)
    have BW : Hid (Below w.heap.size w (w11.setCell ⟨qg, j, none⟩ (.string lf))) := hide ((unhide B11).setCell (p := ⟨qg, j, none⟩) (by have := unhide HGL; have := unhide B88; show w.heap.size ≤ qg; omega) _)
    have OW : Hid (OwnS w.heap.size (w11.setCell ⟨qg, j, none⟩ (.string lf)) (.slice (some ⟨g, 0, none⟩) L.length c) L) := hide (own_kept (T := fun x => x = qg) (unhide O11) hT (fun x hx hq => by have h3 := unhide HGL; cases hx; have hq2 : g = qg := hq; omega))
    have PW : Hid (OwnS w4.heap.size (w11.setCell ⟨qg, j, none⟩ (.string lf)) (.slice (some ⟨pg, 0, none⟩) pth.length pc) pth) := hide (own_kept (T := fun x => x = qg) (unhide P11) hT (fun x hx hq => by have h3 := unhide HGL; cases hx; have hq2 : pg = qg := hq; omega))
    have QW : Hid (OwnS w8.heap.size (w11.setCell ⟨qg, j, none⟩ (.string lf)) (.slice (some ⟨qg, 0, none⟩) pth.length cq) (pth.set j lf)) := hide (own_stored (unhide Q11) j lf)
    have HQA : Hid (AllH (pth.set j lf)) := hide (set_hash (unhide HPH) hlf j)
    have HQL : Hid ((pth.set j lf).length = pth.length) := hide (by simp)
    have cW : (w11.setCell ⟨qg, j, none⟩ (.string lf)).cell? ⟨g, k, none⟩ = some (.string lk) := by
      have := (unhide OW).cell k (by omega)
      rw [hlv] at this
      exact this
    clear hT Q11 O11 P11 B11
    have hj2 : (j : Int) < (pth.length : Int) := hj1
    have HLF := hide hlk
    go_upto_region 14 with fail
    generalize w11.setCell ⟨qg, j, none⟩ (.string lf) = w12 at *
    generalize pth.set j lf = ql at *
    clear qc qf cW
    have hqA := unhide HQA
    have hqL := unhide HQL
    clear HQL
    have HCC := hide (col_cases (p := k) (n := L.length) (la := lk) (lb := lk) (pa := pth) (pb := ql) hL64 (by omega) (unhide HPW) (by rw [hqL]; exact unhide HPW) (unhide HPH) hqA (unhide HW64) hlk (unhide HLF))
    have HCI := hide (fun ba ca bb cb wx hx hy hz => implCol_any (k : Int) (L.length : Int) lk pth lk ql ba 0 ca bb 0 cb wx (by have := hlk; omega) (by have := unhide HLF; omega) (wf_n hL64) hx (small_of (unhide HPH)) hy (small_of hqA) hz)
    have HCS := hide (fun ba ca bb cb wx hx hy => specCol_any (k : Int) (L.length : Int) lk pth lk ql ba 0 ca bb 0 cb wx (by have := hlk; omega) (by have := unhide HLF; omega) (wf_n hL64) hx (small_of (unhide HPH)) hy (small_of hqA))
    clear hqA
    generalize colOut (k : Int) (L.length : Int) lk pth lk ql = out at *
    obtain ⟨o1, o2, o3⟩ := out
    dsimp only [colV] at HCI HCS
    rw [hqL] at HCI HCS
    have HQL := hide hqL
    clear hqL
    have c0 := (unhide OW).cell k (by omega)
    rw [hlv] at c0
    go_wp2_with fail
    refine (unhide HCI _ _ _ _ w12 (SA.own (unhide PW)) (by have h9 := unhide QW; rw [← unhide HQL] at h9; exact SA.own h9) ((unhide HT).below (unhide BW))).mono ?_
    rintro e wy ⟨rfl, hby⟩
    have BY := hide ((unhide BW).trans (hby.mono (unhide BW).size))
    have OY := hide ((unhide OW).below hby)
    have PY := hide ((unhide PW).below hby)
    have QY := hide ((unhide QW).below hby)
    clear hby BW OW PW QW HCI c0
    have c0 := (unhide OY).cell k (by omega)
    rw [hlv] at c0
    go_wp2_with fail
    refine (unhide HCS _ _ _ _ wy (SA.own (unhide PY)) (by have h9 := unhide QY; rw [← unhide HQL] at h9; exact SA.own h9)).mono ?_
    rintro e wz ⟨rfl, hbz⟩
    have BZ := hide ((unhide BY).trans (hbz.mono (unhide BY).size))
    have OZ := hide ((unhide OY).below hbz)
    have PZ := hide ((unhide PY).below hbz)
    have QZ := hide ((unhide QY).below hbz)
    clear hbz BY OY PY QY HCS c0
    rcases unhide HCC with h | ⟨h, h1, h2⟩ | ⟨a, b, h, h1, h2, h3, h4⟩
    · simp only [Prod.mk.injEq] at h
      obtain ⟨rfl, rfl, rfl⟩ := h
      clear HCC
      go_wp2_with fail
      go_ret
      exact ⟨rfl, unhide BZ⟩
    · simp only [Prod.mk.injEq] at h
      obtain ⟨rfl, rfl, rfl⟩ := h
      clear HCC
      have c0 := (unhide OZ).cell k (by omega)
      rw [hlv] at c0
      have hq2 := unhide QZ
      rw [← h2] at hq2
      have HQ2 := hide hq2
      have hte := textEq (rfl : lk = lk)
      clear h1 h2 hq2
      go_wp2_with fail
      refine (sameTexts_any _ _ pth wz (unhide PZ).strs (unhide HQ2).strs (by omega)).mono ?_
      rintro e wu ⟨rfl, du, hdu⟩
      have BU : Hid (Below w.heap.size w wu) := hide (by rw [hdu]; exact below_drewN (unhide BZ) du)
      clear hdu
      go_wp2_with fail
      go_ret
      exact ⟨rfl, unhide BU⟩
    · simp only [Prod.mk.injEq] at h
      obtain ⟨rfl, rfl, rfl⟩ := h
      clear HCC OZ PZ QZ
      have hte := textNe h1
      obtain ⟨ca1, wa, hcv, hBa, hba⟩ := str_bytesB o1 wz (by unfold maxLen; omega)
      rw [h3] at hcv hBa
      have BA := hide ((unhide BZ).trans (hba.mono (unhide BZ).size))
      have HBA := hide hBa
      clear hba hBa BZ h1
      have HHH := hide h2
      clear h2
      go_wp2_with fail
      refine (implHash_any _ _ wa (unhide HBA) ((unhide HT).below (unhide BA)).2 ((unhide HT).below (unhide BA)).1).mono ?_
      rintro e wb ⟨rfl, hbb⟩
      have BB := hide ((unhide BA).trans (hbb.mono (unhide BA).size))
      clear hbb BA HBA hcv
      rw [unhide HHH]
      obtain ⟨ca2, wd, hcv, hBd, hbd⟩ := str_bytesB o2 wb (by unfold maxLen; omega)
      rw [h4] at hcv hBd
      have BD := hide ((unhide BB).trans (hbd.mono (unhide BB).size))
      have HBD := hide hBd
      clear hbd hBd BB
      go_wp2_with fail
      refine (implHash_any _ _ wd (unhide HBD) ((unhide HT).below (unhide BD)).2 ((unhide HT).below (unhide BD)).1).mono ?_
      rintro e we ⟨rfl, hbe⟩
      have BE := hide ((unhide BD).trans (hbe.mono (unhide BD).size))
      clear hbe BD HBD hcv
      go_wp2_with fail
      go_ret
      exact ⟨rfl, unhide BE⟩
theorem walk (a0 : Option Addr) (len0 cap0 : Nat) (z0 : List Int) (a1 : Option Addr) (len1 cap1 : Nat) (z1 : List Int) (w : World) (w0 : IsRow .u8 w a0 len0 cap0 z0) (w1 : IsRow .u8 w a1 len1 cap1 z1) (hf : First w) (ht : Table w) :
    Calls Tryd.prog 3 #[.slice a0 len0 cap0, .slice a1 len1 cap1] w fun e w' => e = .returned (.bool true) ∧ Below w.heap.size w w' := by
  have b0 := bytes_of_row w0
  have b1 := bytes_of_row w1
  have l0 : (z0.take len0).length = len0 := by
    rcases w0 with ⟨_, rfl, _, rfl⟩ | ⟨x, _, hl, hm, hz, _⟩
    · rfl
    · rw [List.length_take]; omega
  have l1 : (z1.take len1).length = len1 := by
    rcases w1 with ⟨_, rfl, _, rfl⟩ | ⟨x, _, hl, hm, hz, _⟩
    · rfl
    · rw [List.length_take]; omega
  have h := walk0 a0 cap0 (z0.take len0) a1 cap1 (z1.take len1) w (by rw [l0]; exact b0) (by rw [l1]; exact b1) hf ht
  rw [l0, l1] at h
  exact h

theorem vars_of_laid {W : World} (h : laidMetH Tryd.prog Rows.fnCollisionRow.laid W) :
    W.var? Tryd.prog "loop.example/g00220/impl.firstWords" = some firstCells ∧ W.var? Tryd.prog "loop.example/g00220/impl.roundWords" = some roundCells := by
  rw [MakeChecks.laidMetH_plain _ _ _ (by kernel_rfl)] at h
  obtain ⟨ps, ⟨g0, t0, cs0, f0, p0, q0, hg0, ht0, hv0, hd0, ⟨g1, t1, cs1, f1, p1, q1, hg1, ht1, hv1, hd1, _, _⟩, _⟩, _, _⟩ := h
  obtain rfl := Option.some.inj (gFirst.symm.trans hg0)
  obtain rfl := Option.some.inj (gRound.symm.trans hg1)
  obtain rfl := Option.some.inj (gFirstType.symm.trans ht0)
  obtain rfl := Option.some.inj (gRoundType.symm.trans ht1)
  have e0 := Lib.cells_of_tab (k := .u32) (cs := cs0.toList) (zs := iL.map fun (n : Nat) => (n : Int)) Tryd.underlying56 Tryd.underlying55 cellsE cellsA hd0
  have e1 := Lib.cells_of_tab (k := .u32) (cs := cs1.toList) (zs := kL.map fun (n : Nat) => (n : Int)) Tryd.underlying60 Tryd.underlying55 cellsE cellsB hd1
  have a0 : cs0 = firstCells := by
    have : cs0.toList = firstCells.toList := e0.trans (by kernel_rfl)
    exact Array.toList_inj.1 this
  have a1 : cs1 = roundCells := by
    have : cs1.toList = roundCells.toList := e1.trans (by kernel_rfl)
    exact Array.toList_inj.1 this
  exact ⟨by rw [hv0, a0], by rw [hv1, a1]⟩
theorem door_met (os : Os) (args : Array Value) : laidMetH Tryd.prog Rows.fnCollisionRow.laid ((World.doorLaid Tryd.prog 19 os).forCall (fun _ _ => 0) ⟨#[], args, []⟩).memory :=
  laidMetH_of_parts3 (fuel := 8) (laidMet_of_run' 8 (by kernel_rfl) (by kernel_rfl)) (by kernel_rfl) (by kernel_rfl)
set_option maxRecDepth 100000 in
theorem lifted (os : Os) (started : os.Started) (H : Type) (enc : TypeId × Value → H) :
    ReturnsInHanded {} Tryd.checked os 3 .any (fun w args => (Rows.fnCollisionSpec.pre enc Tryd.prog Tryd.f3 [] false w args ∧ laidMetH Tryd.prog Rows.fnCollisionRow.laid w) ∧ sizedMet enc Tryd.prog Tryd.f3 (OpenSpec.ofChange Rows.fnCollisionSpec) false w args)
      (Rows.fnCollisionSpec.post enc Tryd.prog Tryd.f3 false true false false) := by
  refine returnsInHanded_of_change_and (C := Tryd.checked) (X := fun w _ => laidMetH Tryd.prog Rows.fnCollisionRow.laid w) (fun _ _ _ hh h => h.of_heap hh) own started (by kernel_rfl) Tryd.func3
    (ChangeSpec.witness_shaped (enc := enc) (C := Tryd.checked) (os := os) (X := fun w _ => laidMetH Tryd.prog Rows.fnCollisionRow.laid w) false (World.doorLaid Tryd.prog 19 os) #[.slice none 0 0, .slice none 0 0] 8 rfl (World.shaped_of_RefB (by kernel_rfl) (by kernel_rfl)) (by kernel_rfl) (by kernel_rfl) (by kernel_rfl) (door_met os _)) ?_
  intro W base args ds gs before hval0 hW _ _ hL _
  have hval : ∀ (j : Nat) t v, Tryd.f3.params[j]? = some t → args[j]? = some v → Value.okWide Tryd.prog W .any base t v := hval0
  have hW' := hW
  obtain ⟨p, q, hA0, hV0, rfl, hfz, hnd⟩ := hW
  have hA : DataW.TrodAll enc Tryd.prog W 0 (fun _ => true) true Tryd.f3.params.toList args.toList ds p := hA0
  have hV : DataW.TrodVars enc Tryd.prog W (fun _ => true) ["loop.example/g00220/impl.firstWords", "loop.example/g00220/impl.roundWords"] gs q := hV0
  rw [Tryd.params3] at hA hval
  obtain ⟨v0, vs0, d0, ds0, p0, q0, hargs, rfl, rfl, h0, r0⟩ := trodAll_cons hA
  obtain ⟨v1, vs1, d1, ds1, p1, q1, rfl, rfl, rfl, h1, r1⟩ := trodAll_cons r0
  obtain ⟨rfl, rfl, rfl⟩ := trodAll_nil r1
  obtain rfl : args = #[v0, v1] := by cases args; simp_all
  have k0 := h0
  have lt0 : ∀ x ∈ p0, x.block < W.heap.size := by obtain ⟨m, hm⟩ := k0; exact DataW.trod_lt m _ _ _ hm
  obtain ⟨a0, len0, cap0, rfl⟩ := okWide_slice Tryd.underlying22 (hval 0 22 v0 rfl rfl)
  obtain ⟨z0, w0⟩ : ∃ zs, IsRow .u8 W a0 len0 cap0 zs := by
    obtain ⟨fuel, hf⟩ := h0
    rcases open_ints Tryd.underlying22 Tryd.underlying5 (by kernel_rfl) hf with ⟨hcs, _⟩ | ⟨x, l, c, zs, hcs, _, hl, hm, hz, _, hcell, hwz⟩
    · simp [Value.cells] at hcs
      obtain ⟨rfl, rfl, rfl⟩ := hcs
      exact ⟨[], .inl ⟨rfl, rfl, rfl, rfl⟩⟩
    · simp [Value.cells] at hcs
      obtain ⟨rfl, rfl, rfl⟩ := hcs
      exact ⟨zs, .inr ⟨_, rfl, hl, hm, by simpa using hz, hcell, hwz⟩⟩
  have k1 := h1
  have lt1 : ∀ x ∈ p1, x.block < W.heap.size := by obtain ⟨m, hm⟩ := k1; exact DataW.trod_lt m _ _ _ hm
  obtain ⟨a1, len1, cap1, rfl⟩ := okWide_slice Tryd.underlying22 (hval 1 22 v1 rfl rfl)
  obtain ⟨z1, w1⟩ : ∃ zs, IsRow .u8 W a1 len1 cap1 zs := by
    obtain ⟨fuel, hf⟩ := h1
    rcases open_ints Tryd.underlying22 Tryd.underlying5 (by kernel_rfl) hf with ⟨hcs, _⟩ | ⟨x, l, c, zs, hcs, _, hl, hm, hz, _, hcell, hwz⟩
    · simp [Value.cells] at hcs
      obtain ⟨rfl, rfl, rfl⟩ := hcs
      exact ⟨[], .inl ⟨rfl, rfl, rfl, rfl⟩⟩
    · simp [Value.cells] at hcs
      obtain ⟨rfl, rfl, rfl⟩ := hcs
      exact ⟨zs, .inr ⟨_, rfl, hl, hm, by simpa using hz, hcell, hwz⟩⟩
  obtain ⟨hvA, hvB⟩ := vars_of_laid hL
  clear hA0 hV0 hval0
  refine (walk a0 len0 cap0 z0 a1 len1 cap1 z1 W w0 w1 (first_of hvA) (table_of hvB)).mono fun e W' ⟨he, bel⟩ => ?_
  subst he
  obtain ⟨rfl, pv, hvs⟩ := vars_again (sp := fun b => decide (b < W.heap.size)) hvA hvB hV bel
  exact ⟨_, rfl, _, _, _, [], _, pv, hW', trodAll_mk1 (shut_bool Tryd.underlying4 _), (trodAll_cons_mk (Below.trod laidOut (by kernel_rfl) (of_decide_eq_true (by kernel_rfl)) k0 bel lt0) (trodAll_cons_mk (Below.trod laidOut (by kernel_rfl) (of_decide_eq_true (by kernel_rfl)) k1 bel lt1) trodAll_mk0)), hvs, bel.frame _, fun h => by cases h⟩

theorem said : Rows.FnCollisionSaid :=
  OpenClaim.holds_of_wide 3 Tryd.f3 rfl rfl rfl rfl rfl rfl rfl ⟨rfl, rfl, rfl, rfl, rfl⟩ rfl rfl rfl rfl rfl (by kernel_rfl) Tryd.func3 (by kernel_rfl)
    (of_decide_eq_true (by kernel_rfl)) (by unfold Func.isWrapper; first | (rw [if_pos (by decide +kernel)]; kernel_rfl) | (rw [if_neg (by decide +kernel)]; exact ⟨rfl, rfl⟩))
    (fun os started H enc _ => lifted os started H enc)

theorem plain (f : FuncId) (fn : Func) (hf : Tryd.pinned.checked.prog.funcNamed "loop.example/g00220/laws.FnCollision" = some f) (hfn : Tryd.pinned.checked.prog.funcs[f]? = some fn) :
    false = Tryd.pinned.checked.prog.looks [] ∧ ∀ (j : Nat) t, fn.params[j]? = some t → Tryd.pinned.checked.prog.wantsStandIn t = false := by
  obtain rfl : f = 3 := Option.some.inj ((show Tryd.prog.funcNamed "loop.example/g00220/laws.FnCollision" = some 3 by kernel_rfl).symm.trans hf) |>.symm
  obtain rfl : fn = Tryd.f3 := (Option.some.inj (Tryd.func3.symm.trans hfn)).symm
  refine ⟨by kernel_rfl, fun j t ht => ?_⟩
  rw [Tryd.params3] at ht
  obtain rfl : t = 22 := by
    have := Array.mem_of_getElem? ht
    simpa using this
  exact (show Tryd.prog.wantsStandIn 22 = false by kernel_rfl)
end Go.Proofs.YtcaadcdjipdjeaaDoor.fnCollision
namespace Go.Proofs.YtcaadcdjipdjeaaDoor
theorem fnCollision_card : Rows.FnCollisionCardSaid :=
  Claim7.holds_tied_plain_at .later [] _ _ _ _ fnCollision.said (fun _ h => by cases h) (by kernel_rfl) (fun _ h => by cases h) fnCollision_row_tie rfl ⟨rfl, rfl⟩ (by kernel_rfl) rfl fnCollision.plain (by kernel_rfl)
#print axioms fnCollision_card
end Go.Proofs.YtcaadcdjipdjeaaDoor
