/- impl.MembersOf, spec.l10Members, spec.MembersOf, walked. (Written by py/nodv.py.) -/
import Derived.Test.YtnklloeialhmkaaNodM
namespace Go.Proofs.Ytnklloeialhmkaa
open Go.ChangeShapes Go.WideShapes Go.ChangeAt Go.RowKit Go.Deep
set_option linter.unusedVariables false

/-- What MembersOf tells. -/
def mbOut (ok : Bool) (lg : List En) (st : List Int) : List Int × Int := if ok then (mbAt lg st lg.length, 0) else ([], 1)
theorem cfg_of_node {id tm vo ro cm el wt : Int} {up : Bool} {lg : List En} {st vs nx mt : List Int} (h : nodeB id tm vo ro cm el wt up lg st vs nx mt = true) : CfgOK lg := by
  have hs := (node_small h).2.2.2.2.2.2
  unfold stateB at hs
  simp only [Bool.and_eq_true, List.all_eq_true] at hs
  intro i hi h2
  have h1 := hs.2 i (by simpa using hi)
  unfold entB at h1
  simp only [Bool.and_eq_true] at h1
  have h3 := h1.1
  refine ⟨?_, (entOK_bounds h3).2.2.2.2⟩
  unfold entOK at h3
  split at h3
  · rw [h2] at h3
    exact of_decide_eq_true h3
  · cases h3
theorem mbAt_len (lg : List En) (st : List Int) (hg : CfgOK lg) (hs : st.length ≤ 100) : ∀ k, k ≤ lg.length → (mbAt lg st k).length ≤ 100
  | 0, _ => hs
  | k + 1, hk => by
    show (if (lg.getD k default).k = 2 then _ else _ : List Int).length ≤ 100
    split
    · rename_i h; rw [bytesI_len]; exact (hg k (by omega) h).2
    · exact mbAt_len lg st hg hs k (by omega)
set_option maxRecDepth 100000 in
set_option maxHeartbeats 2000000 in
theorem implMembersOf_any (id tm vo ro cm el wt : Int) (up : Bool) (lg : List En) (st vs nx mt : List Int) (la : Option Addr) (lc : Nat) (sa : Option Addr) (sc : Nat) (va : Option Addr) (vc : Nat) (na : Option Addr) (nc : Nat) (ma : Option Addr) (mc : Nat) (w : World) (h : NoR w (.slice la lg.length lc) (.slice sa st.length sc) (.slice va vs.length vc) (.slice na nx.length nc) (.slice ma mt.length mc) lg st vs nx mt) (hs : NoS lg st vs nx mt) :
    Calls Try.prog 23 #[.agg #[.int .i64 id, .int .i64 tm, .int .i64 vo, .slice la lg.length lc, .slice sa st.length sc, .int .i64 ro, .slice va vs.length vc, .slice na nx.length nc, .slice ma mt.length mc, .int .i64 cm, .int .i64 el, .int .i64 wt, .bool up]] w fun e w' => ∃ v, e = .returned (.tuple #[v, .int .i64 (mbOut (nodeB id tm vo ro cm el wt up lg st vs nx mt) lg st).2]) ∧ OwnI w.heap.size w' v (mbOut (nodeB id tm vo ro cm el wt up lg st vs nx mt) lg st).1 ∧ Below w.heap.size w w' := by
  have B0 := hide ((Below.refl w.heap.size w).alloc (Nat.le_refl _) (.cells #[.int .i64 id, .int .i64 tm, .int .i64 vo, .slice la lg.length lc, .slice sa st.length sc, .int .i64 ro, .slice va vs.length vc, .slice na nx.length nc, .slice ma mt.length mc, .int .i64 cm, .int .i64 el, .int .i64 wt, .bool up] 25))
  have X0 := hide (Blk.new w #[.int .i64 id, .int .i64 tm, .int .i64 vo, .slice la lg.length lc, .slice sa st.length sc, .int .i64 ro, .slice va vs.length vc, .slice na nx.length nc, .slice ma mt.length mc, .int .i64 cm, .int .i64 el, .int .i64 wt, .bool up] 25 w.heap.size rfl)
  have HN := hide (fun wx (hx : Below w.heap.size w wx) => implNodeOK_any id tm vo ro cm el wt up lg st vs nx mt la lc sa sc va vc na nc ma mc wx (h.below hx) hs)
  have HQ := hide (fun wx (hx : Below w.heap.size w wx) (hh : nodeB id tm vo ro cm el wt up lg st vs nx mt = true) => newActor_any id tm vo ro cm el wt up lg st vs nx mt la lc sa sc va vc na nc ma mc wx (h.below hx) (by have := node_small hh; omega) (by have := node_small hh; omega) (by have := node_small hh; omega) (by have := node_small hh; omega) (by have := node_small hh; omega))
  have HG := hide (fun hh : nodeB id tm vo ro cm el wt up lg st vs nx mt = true => cfg_of_node hh)
  have HL := hide hs.l0
  have HDT := hide (fun i => Nat.le_trans (hs.dt i) (by unfold maxLen; omega : (1048576 : Nat) ≤ maxLen))
  have HU : Hid (∀ ok, mbOut ok lg st = if ok then (mbAt lg st lg.length, 0) else ([], 1)) := hide (fun ok => rfl)
  clear h hs
  generalize nodeB id tm vo ro cm el wt up lg st vs nx mt = ok at *
  go_enter Try.func23, Try.ntmps23
  go_wp2_with fail
  generalize w.alloc (.cells #[.int .i64 id, .int .i64 tm, .int .i64 vo, .slice la lg.length lc, .slice sa st.length sc, .int .i64 ro, .slice va vs.length vc, .slice na nx.length nc, .slice ma mt.length mc, .int .i64 cm, .int .i64 el, .int .i64 wt, .bool up] 25) = w0 at *
  refine (unhide HN w0 (unhide B0)).mono ?_
  rintro e w1 ⟨rfl, hb⟩
  have K1 := hide ((unhide B0).trans (hb.mono (unhide B0).size))
  have XX := (unhide X0).below hb
  have x0 := XX.cell 0 rfl
  have x1 := XX.cell 1 rfl
  have x2 := XX.cell 2 rfl
  have x3 := XX.cell 3 rfl
  have x4 := XX.cell 4 rfl
  have x5 := XX.cell 5 rfl
  have x6 := XX.cell 6 rfl
  have x7 := XX.cell 7 rfl
  have x8 := XX.cell 8 rfl
  have x9 := XX.cell 9 rfl
  have x10 := XX.cell 10 rfl
  have x11 := XX.cell 11 rfl
  have x12 := XX.cell 12 rfl
  clear hb XX X0 B0 HN
  cases ok
  · go_wp2_with fail
    go_ret2
    exact ⟨_, by rw [unhide HU]; rfl, by rw [unhide HU]; exact ⟨rfl, .inl ⟨rfl, rfl⟩⟩, unhide K1⟩
  go_wp2_with fail
  refine (unhide HQ w1 (unhide K1) (by first | trivial | rfl)).mono ?_
  rintro e w2 ⟨b, la', lc', sa', sc', va', vc', na', nc', ma', mc', rfl, hA, hb⟩
  have hk1 := (unhide K1).size
  have K2 := hide ((unhide K1).trans (hb.mono hk1))
  have hk2 := (unhide K2).size
  have HF := hide (fun wx (h1 : wx = w2) => h1 ▸ members_any w.heap.size b la' lc' sa' sc' lg st (unhide HDT) (unhide HL) (unhide HG (by first | trivial | rfl)) w2 hA.bk.1 (hA.bk.cell 3 rfl) (hA.bk.cell 4 rfl) hA.no.lg.ens (hA.no.st.mono hk1) hk2)
  clear hb hA K1 HQ x0 x1 x2 x3 x4 x5 x6 x7 x8 x9 x10 x11 x12
  go_wp2_with fail
  refine (unhide HF w2 rfl).mono ?_
  rintro e w3 ⟨v, rfl, hO, hb⟩
  have K3 := hide ((unhide K2).trans (hb.mono (unhide K2).size))
  have HO := hide hO
  have hsh := hO.shape
  clear hb hO HF K2
  generalize hm : mbAt lg st lg.length = ms at *
  rcases hsh with ⟨rfl, rfl⟩ | ⟨g, cap, rfl⟩
  all_goals
    go_wp2_with fail
    go_ret2
    exact ⟨_, by rw [unhide HU]; rfl, by rw [unhide HU]; exact unhide HO, unhide K3⟩
set_option maxRecDepth 100000 in
set_option maxHeartbeats 2000000 in
theorem l10Members_any (id tm vo ro cm el wt : Int) (up : Bool) (lg : List En) (st vs nx mt : List Int) (la : Option Addr) (lc : Nat) (sa : Option Addr) (sc : Nat) (va : Option Addr) (vc : Nat) (na : Option Addr) (nc : Nat) (ma : Option Addr) (mc : Nat) (w : World) (hE : Ens w (.slice la lg.length lc) lg) (hS : Ints w (.slice sa st.length sc) st) (hz : ∀ i, (lg.getD i default).d.size ≤ 1048576) (hl : lg.length ≤ 1048576) (hg : CfgOK lg) :
    Calls Try.prog 52 #[.agg #[.int .i64 id, .int .i64 tm, .int .i64 vo, .slice la lg.length lc, .slice sa st.length sc, .int .i64 ro, .slice va vs.length vc, .slice na nx.length nc, .slice ma mt.length mc, .int .i64 cm, .int .i64 el, .int .i64 wt, .bool up]] w fun e w' => ∃ v, e = .returned v ∧ Ints w' v (mbAt lg st lg.length) ∧ Below w.heap.size w w' := by
  have B0 := hide ((Below.refl w.heap.size w).alloc (Nat.le_refl _) (.cells #[.int .i64 id, .int .i64 tm, .int .i64 vo, .slice la lg.length lc, .slice sa st.length sc, .int .i64 ro, .slice va vs.length vc, .slice na nx.length nc, .slice ma mt.length mc, .int .i64 cm, .int .i64 el, .int .i64 wt, .bool up] 25))
  have X0 := hide (Blk.new w #[.int .i64 id, .int .i64 tm, .int .i64 vo, .slice la lg.length lc, .slice sa st.length sc, .int .i64 ro, .slice va vs.length vc, .slice na nx.length nc, .slice ma mt.length mc, .int .i64 cm, .int .i64 el, .int .i64 wt, .bool up] 25 w.heap.size rfl)
  have HE := hide hE
  have HS := hide hS
  have HZ := hide hz
  have HG := hide hg
  clear hE hS hz hg
  have q0 : IntKind.i64.wrap ((lg.length : Int) - 1) = (lg.length : Int) - 1 := by
    simp only [IntKind.wrap, IntKind.bits, IntKind.signed]
    simp
    omega
  go_enter Try.func52, Try.ntmps52
  go_wp2_with fail
  generalize w.alloc (.cells #[.int .i64 id, .int .i64 tm, .int .i64 vo, .slice la lg.length lc, .slice sa st.length sc, .int .i64 ro, .slice va vs.length vc, .slice na nx.length nc, .slice ma mt.length mc, .int .i64 cm, .int .i64 el, .int .i64 wt, .bool up] 25) = w0 at *
  go_loopw [3] (fun i wr => ∃ (k : Nat) (z : Int), k ≤ lg.length ∧ z = (lg.length : Int) - 1 - (k : Int) ∧ i = .int .i64 z ∧ Hid (mbAt lg st lg.length = mbAt lg st (lg.length - k)) ∧ Below w0.heap.size w0 wr) (fun i _ => (intOf i + 1).toNat)
  case atStart => exact ⟨0, _, Nat.zero_le _, by simp, rfl, rfl, Below.refl _ _⟩
  case round =>
    obtain ⟨k, z, hk, hzz, rfl, hM, hb⟩ := hrel
    have XX := (unhide X0).below hb
    have y3 := XX.cell 3 rfl
    have y4 := XX.cell 4 rfl
    have KK := hide ((unhide B0).trans (hb.mono (unhide B0).size))
    have HB := hide hb
    clear XX hb
    by_cases hlt : k < lg.length
    · obtain ⟨q, hq⟩ : ∃ q, lg.length = k + q + 1 := ⟨lg.length - k - 1, by omega⟩
      obtain rfl : z = (q : Int) := by omega
      obtain ⟨b, off, rfl, hbn, s0, s1, s2⟩ := ((unhide HE).below (unhide KK)).term q (by omega)
      have m0 : (0 : Int) ≤ (q : Int) := by omega
      have m1 : (q : Int) < (lg.length : Int) := by omega
      have m2 : IntKind.i64.wrap ((q : Int) - 1) = (q : Int) - 1 := by
        simp only [IntKind.wrap, IntKind.bits, IntKind.signed]
        simp
        omega
      have HM : Hid (mbAt lg st (lg.length - k) = if (lg.getD q default).k = 2 then bytesI (lg.getD q default).d else mbAt lg st (lg.length - (k + 1))) := hide (by rw [show lg.length - k = q + 1 by omega, show lg.length - (k + 1) = q by omega]; rfl)
      have HGq := hide (unhide HG q (by omega))
      have hdz := unhide HZ q
      have HX := hide (And.intro hq hzz)
      clear hq hzz
      generalize lg.getD q default = f at *
      obtain ⟨ft, fk, fd⟩ := f
      dsimp only at s0 s1 s2 hdz HM HGq
      by_cases h2 : fk = 2
      · subst h2
        have HC := hide (l02Members_any fd wr hdz)
        have HR : Hid (mbAt lg st lg.length = (memOut fd).1) := hide (by
          rw [unhide hM, unhide HM, if_pos rfl]
          have e := memOut_fault fd
          exact (e.2 (by rw [e.1]; exact decide_eq_true (unhide HGq rfl).1)).symm)
        clear HM HGq hM
        go_wp2_with fail
        refine (unhide HC).mono ?_
        rintro e w2 ⟨v', rfl, hO, hb2⟩
        have K2 := hide ((unhide KK).trans (hb2.mono (unhide KK).size))
        have HO := hide hO.ints
        have hsh := hO.shape
        clear hO hb2 HC
        rw [← unhide HR] at HO hsh
        rcases hsh with ⟨rfl, h0⟩ | ⟨g, cap, rfl⟩
        all_goals
          go_wp2_with fail
          go_ret
          exact ⟨_, rfl, unhide HO, unhide K2⟩
      · have hb2 : (fk == 2) = false := by rw [beq_eq_false_iff_ne]; exact h2
        have HR := hide ((unhide hM).trans ((unhide HM).trans (if_neg h2)))
        clear HM HGq hM
        go_wp2_with fail
        refine ⟨⟨k + 1, _, by omega, ?_, rfl, HR, unhide HB⟩, ?_⟩
        · have := unhide HX; omega
        · simp [intOf]
    · obtain rfl : k = lg.length := by omega
      obtain rfl : z = -1 := by omega
      have HI := hide ((unhide HS).below (unhide KK))
      have HR : Hid (mbAt lg st lg.length = st) := hide (by rw [unhide hM, Nat.sub_self]; rfl)
      go_wp2_with fail
      go_ret
      exact ⟨_, rfl, by rw [unhide HR]; exact unhide HI, unhide KK⟩
set_option maxRecDepth 100000 in
set_option maxHeartbeats 2000000 in
theorem specMembersOf_any (id tm vo ro cm el wt : Int) (up : Bool) (lg : List En) (st vs nx mt : List Int) (la : Option Addr) (lc : Nat) (sa : Option Addr) (sc : Nat) (va : Option Addr) (vc : Nat) (na : Option Addr) (nc : Nat) (ma : Option Addr) (mc : Nat) (w : World) (h : NoR w (.slice la lg.length lc) (.slice sa st.length sc) (.slice va vs.length vc) (.slice na nx.length nc) (.slice ma mt.length mc) lg st vs nx mt) (hs : NoS lg st vs nx mt) :
    Calls Try.prog 22 #[.agg #[.int .i64 id, .int .i64 tm, .int .i64 vo, .slice la lg.length lc, .slice sa st.length sc, .int .i64 ro, .slice va vs.length vc, .slice na nx.length nc, .slice ma mt.length mc, .int .i64 cm, .int .i64 el, .int .i64 wt, .bool up]] w fun e w' => ∃ v, e = .returned (.tuple #[v, .int .i64 (mbOut (nodeB id tm vo ro cm el wt up lg st vs nx mt) lg st).2]) ∧ OwnI w.heap.size w' v (mbOut (nodeB id tm vo ro cm el wt up lg st vs nx mt) lg st).1 ∧ Below w.heap.size w w' := by
  obtain ⟨i0, hi, hz0, hz1, hz2⟩ := info_parts info3
  have B0 := hide ((Below.refl w.heap.size w).alloc (Nat.le_refl _) (.cells #[.int .i64 id, .int .i64 tm, .int .i64 vo, .slice la lg.length lc, .slice sa st.length sc, .int .i64 ro, .slice va vs.length vc, .slice na nx.length nc, .slice ma mt.length mc, .int .i64 cm, .int .i64 el, .int .i64 wt, .bool up] 25))
  have X0 := hide (Blk.new w #[.int .i64 id, .int .i64 tm, .int .i64 vo, .slice la lg.length lc, .slice sa st.length sc, .int .i64 ro, .slice va vs.length vc, .slice na nx.length nc, .slice ma mt.length mc, .int .i64 cm, .int .i64 el, .int .i64 wt, .bool up] 25 w.heap.size rfl)
  have HN := hide (fun wx (hx : Below w.heap.size w wx) => specNodeOK_any id tm vo ro cm el wt up lg st vs nx mt la lc sa sc va vc na nc ma mc wx (h.below hx) hs)
  have HQ := hide (fun wx (hx : Below w.heap.size w wx) (hh : nodeB id tm vo ro cm el wt up lg st vs nx mt = true) => l10Members_any id tm vo ro cm el wt up lg st vs nx mt la lc sa sc va vc na nc ma mc wx (h.below hx).lg (h.below hx).st hs.dt hs.l0 (cfg_of_node hh))
  have HLn := hide (fun hh : nodeB id tm vo ro cm el wt up lg st vs nx mt = true => mbAt_len lg st (cfg_of_node hh) (by have := node_small hh; omega) lg.length (Nat.le_refl _))
  have HU : Hid (∀ ok, mbOut ok lg st = if ok then (mbAt lg st lg.length, 0) else ([], 1)) := hide (fun ok => rfl)
  clear h hs
  generalize nodeB id tm vo ro cm el wt up lg st vs nx mt = ok at *
  go_enter Try.func22, Try.ntmps22
  go_wp2_with fail
  generalize w.alloc (.cells #[.int .i64 id, .int .i64 tm, .int .i64 vo, .slice la lg.length lc, .slice sa st.length sc, .int .i64 ro, .slice va vs.length vc, .slice na nx.length nc, .slice ma mt.length mc, .int .i64 cm, .int .i64 el, .int .i64 wt, .bool up] 25) = w0 at *
  refine (unhide HN w0 (unhide B0)).mono ?_
  rintro e w1 ⟨rfl, hb⟩
  have K1 := hide ((unhide B0).trans (hb.mono (unhide B0).size))
  have hk1 := (unhide K1).size
  have XX := ((unhide X0).below hb).alloc (.cells #[] 3)
  have x0 := XX.cell 0 rfl
  have x1 := XX.cell 1 rfl
  have x2 := XX.cell 2 rfl
  have x3 := XX.cell 3 rfl
  have x4 := XX.cell 4 rfl
  have x5 := XX.cell 5 rfl
  have x6 := XX.cell 6 rfl
  have x7 := XX.cell 7 rfl
  have x8 := XX.cell 8 rfl
  have x9 := XX.cell 9 rfl
  have x10 := XX.cell 10 rfl
  have x11 := XX.cell 11 rfl
  have x12 := XX.cell 12 rfl
  clear hb XX X0 B0 HN
  have KA := hide ((unhide K1).alloc hk1 (.cells #[] 3))
  have OA := hide (own_noneJ w1 w.heap.size w1.heap.size rfl hk1)
  cases ok
  · go_wp2_with fail
    go_ret2
    exact ⟨_, by rw [unhide HU]; rfl, by rw [unhide HU]; exact unhide OA, unhide KA⟩
  have hln := unhide HLn (by first | trivial | rfl)
  have HC := hide (unhide HQ (w1.alloc (.cells #[] 3)) (unhide KA) (by first | trivial | rfl))
  go_wp2_with fail
  refine (unhide HC).mono ?_
  rintro e w2 ⟨v, rfl, hI, hb⟩
  have K2 := hide ((unhide KA).trans (hb.mono (unhide KA).size))
  have O2 := hide (OwnI.below (show OwnI w.heap.size (w1.alloc (.cells #[] 3)) (.slice (some ⟨w1.heap.size, 0, none⟩) 0 0) [] from unhide OA) hb)
  have HR := hide hI.rw
  have hk2 := (unhide K2).size
  have hsh := hI.shape
  clear hb hI HQ K1 KA OA HC x0 x1 x2 x3 x4 x5 x6 x7 x8 x9 x10 x11 x12
  generalize mbAt lg st lg.length = ms at *
  obtain ⟨av, cv, rfl⟩ := hsh
  go_wp2_with (at_builtin; refine wpList_append_row _ rfl _ _ _ rfl w.heap.size 3 i0 _ 1 8 Try.underlying22 hi hz0 hz1 hz2 rfl (by omega) _ 0 [] rfl (unhide O2) _ ms.length (ms.map (Value.int .i64)) rfl (unhide HR) (by simp) (by intro u hu; simp only [List.mem_map] at hu; obtain ⟨s, _, rfl⟩ := hu; rfl) (by unfold maxLen; omega) (by omega) hk2 ?_; intro a1 c1 w3 hown1 hgrow1 hat1; have O3 := hide hown1; have B3 := hide ((unhide K2).grown hgrow1 hk2 (fun r hr => (World.ownsRow.lt (unhide O2) r hr).1)); clear hown1 hgrow1 hat1)
  go_ret2
  have h9 := unhide O3
  rw [Nat.zero_add] at h9
  exact ⟨.slice a1 ms.length c1, by rw [unhide HU]; simp, by rw [unhide HU]; simpa [OwnI] using h9, unhide B3⟩
end Go.Proofs.Ytnklloeialhmkaa
