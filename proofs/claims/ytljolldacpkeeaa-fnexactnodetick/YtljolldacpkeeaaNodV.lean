/- impl.MembersOf, spec.l10Members, spec.MembersOf, walked. (Written by py/nodv.py.) -/
import Derived.Test.YtljolldacpkeeaaNodM
namespace Go.Proofs.Ytljolldacpkeeaa
open Go.ChangeShapes Go.WideShapes Go.ChangeAt Go.RowKit Go.Deep
set_option linter.unusedVariables false

/-- What MembersOf tells. -/
def mbOut (ok : Bool) (lg : List En) (st : List Int) : List Int × Int := if ok then (mbAt lg st lg.length, 0) else ([], 1)
theorem cfg_of_node {id tm vo ro cm el wt : Int} {up : Bool} {lg : List En} {st vs nx mt : List Int} (h : nodeB id tm vo ro cm el wt up lg st vs nx mt = true) : CfgOK lg := by
  have hs := (node_small h).2.2.2.2.2.2
  unfold stateB at hs
  simp only [Bool.and_eq_true, List.all_eq_true] at hs
  intro i hi h2
  have h1 := hs.2 i (by simpa using hi)
  unfold entB at h1
  simp only [Bool.and_eq_true] at h1
  have h3 := h1.1
  refine ⟨?_, (entOK_bounds h3).2.2.2.2⟩
  unfold entOK at h3
  split at h3
  · rw [h2] at h3
    exact of_decide_eq_true h3
  · cases h3
theorem mbAt_len (lg : List En) (st : List Int) (hg : CfgOK lg) (hs : st.length ≤ 100) : ∀ k, k ≤ lg.length → (mbAt lg st k).length ≤ 100
  | 0, _ => hs
  | k + 1, hk => by
    show (if (lg.getD k default).k = 2 then _ else _ : List Int).length ≤ 100
    split
    · rename_i h; rw [bytesI_len]; exact (hg k (by omega) h).2
    · exact mbAt_len lg st hg hs k (by omega)
set_option maxRecDepth 100000 in
set_option maxHeartbeats 2000000 in
theorem l10Members_any (id tm vo ro cm el wt : Int) (up : Bool) (lg : List En) (st vs nx mt : List Int) (la : Option Addr) (lc : Nat) (sa : Option Addr) (sc : Nat) (va : Option Addr) (vc : Nat) (na : Option Addr) (nc : Nat) (ma : Option Addr) (mc : Nat) (w : World) (hE : Ens w (.slice la lg.length lc) lg) (hS : Ints w (.slice sa st.length sc) st) (hz : ∀ i, (lg.getD i default).d.size ≤ 1048576) (hl : lg.length ≤ 1048576) (hg : CfgOK lg) :
    Calls Try.prog 44 #[.agg #[.int .i64 id, .int .i64 tm, .int .i64 vo, .slice la lg.length lc, .slice sa st.length sc, .int .i64 ro, .slice va vs.length vc, .slice na nx.length nc, .slice ma mt.length mc, .int .i64 cm, .int .i64 el, .int .i64 wt, .bool up]] w fun e w' => ∃ v, e = .returned v ∧ Ints w' v (mbAt lg st lg.length) ∧ Below w.heap.size w w' := by
  have B0 := hide ((Below.refl w.heap.size w).alloc (Nat.le_refl _) (.cells #[.int .i64 id, .int .i64 tm, .int .i64 vo, .slice la lg.length lc, .slice sa st.length sc, .int .i64 ro, .slice va vs.length vc, .slice na nx.length nc, .slice ma mt.length mc, .int .i64 cm, .int .i64 el, .int .i64 wt, .bool up] 29))
  have X0 := hide (Blk.new w #[.int .i64 id, .int .i64 tm, .int .i64 vo, .slice la lg.length lc, .slice sa st.length sc, .int .i64 ro, .slice va vs.length vc, .slice na nx.length nc, .slice ma mt.length mc, .int .i64 cm, .int .i64 el, .int .i64 wt, .bool up] 29 w.heap.size rfl)
  have HE := hide hE
  have HS := hide hS
  have HZ := hide hz
  have HG := hide hg
  clear hE hS hz hg
  have q0 : IntKind.i64.wrap ((lg.length : Int) - 1) = (lg.length : Int) - 1 := by
    simp only [IntKind.wrap, IntKind.bits, IntKind.signed]
    simp
    omega
  go_enter Try.func44, Try.ntmps44
  go_wp2_with fail
  generalize w.alloc (.cells #[.int .i64 id, .int .i64 tm, .int .i64 vo, .slice la lg.length lc, .slice sa st.length sc, .int .i64 ro, .slice va vs.length vc, .slice na nx.length nc, .slice ma mt.length mc, .int .i64 cm, .int .i64 el, .int .i64 wt, .bool up] 29) = w0 at *
  go_loopw [3] (fun i wr => ∃ (k : Nat) (z : Int), k ≤ lg.length ∧ z = (lg.length : Int) - 1 - (k : Int) ∧ i = .int .i64 z ∧ Hid (mbAt lg st lg.length = mbAt lg st (lg.length - k)) ∧ Below w0.heap.size w0 wr) (fun i _ => (intOf i + 1).toNat)
  case atStart => exact ⟨0, _, Nat.zero_le _, by simp, rfl, rfl, Below.refl _ _⟩
  case round =>
    obtain ⟨k, z, hk, hzz, rfl, hM, hb⟩ := hrel
    have XX := (unhide X0).below hb
    have y3 := XX.cell 3 rfl
    have y4 := XX.cell 4 rfl
    have KK := hide ((unhide B0).trans (hb.mono (unhide B0).size))
    have HB := hide hb
    clear XX hb
    by_cases hlt : k < lg.length
    · obtain ⟨q, hq⟩ : ∃ q, lg.length = k + q + 1 := ⟨lg.length - k - 1, by omega⟩
      obtain rfl : z = (q : Int) := by omega
      obtain ⟨b, off, rfl, hbn, s0, s1, s2⟩ := ((unhide HE).below (unhide KK)).term q (by omega)
      have m0 : (0 : Int) ≤ (q : Int) := by omega
      have m1 : (q : Int) < (lg.length : Int) := by omega
      have m2 : IntKind.i64.wrap ((q : Int) - 1) = (q : Int) - 1 := by
        simp only [IntKind.wrap, IntKind.bits, IntKind.signed]
        simp
        omega
      have HM : Hid (mbAt lg st (lg.length - k) = if (lg.getD q default).k = 2 then bytesI (lg.getD q default).d else mbAt lg st (lg.length - (k + 1))) := hide (by rw [show lg.length - k = q + 1 by omega, show lg.length - (k + 1) = q by omega]; rfl)
      have HGq := hide (unhide HG q (by omega))
      have hdz := unhide HZ q
      have HX := hide (And.intro hq hzz)
      clear hq hzz
      generalize lg.getD q default = f at *
      obtain ⟨ft, fk, fd⟩ := f
      dsimp only at s0 s1 s2 hdz HM HGq
      by_cases h2 : fk = 2
      · subst h2
        have HC := hide (l02Members_any fd wr hdz)
        have HR : Hid (mbAt lg st lg.length = (memOut fd).1) := hide (by
          rw [unhide hM, unhide HM, if_pos rfl]
          have e := memOut_fault fd
          exact (e.2 (by rw [e.1]; exact decide_eq_true (unhide HGq rfl).1)).symm)
        clear HM HGq hM
        go_wp2_with fail
        refine (unhide HC).mono ?_
        rintro e w2 ⟨v', rfl, hO, hb2⟩
        have K2 := hide ((unhide KK).trans (hb2.mono (unhide KK).size))
        have HO := hide hO.ints
        have hsh := hO.shape
        clear hO hb2 HC
        rw [← unhide HR] at HO hsh
        rcases hsh with ⟨rfl, h0⟩ | ⟨g, cap, rfl⟩
        all_goals
          go_wp2_with fail
          go_ret
          exact ⟨_, rfl, unhide HO, unhide K2⟩
      · have hb2 : (fk == 2) = false := by rw [beq_eq_false_iff_ne]; exact h2
        have HR := hide ((unhide hM).trans ((unhide HM).trans (if_neg h2)))
        clear HM HGq hM
        go_wp2_with fail
        refine ⟨⟨k + 1, _, by omega, ?_, rfl, HR, unhide HB⟩, ?_⟩
        · have := unhide HX; omega
        · simp [intOf]
    · obtain rfl : k = lg.length := by omega
      obtain rfl : z = -1 := by omega
      have HI := hide ((unhide HS).below (unhide KK))
      have HR : Hid (mbAt lg st lg.length = st) := hide (by rw [unhide hM, Nat.sub_self]; rfl)
      go_wp2_with fail
      go_ret
      exact ⟨_, rfl, by rw [unhide HR]; exact unhide HI, unhide KK⟩
end Go.Proofs.Ytljolldacpkeeaa
