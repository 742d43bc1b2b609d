/- A leaf put behind peaks: what impl.AddPeak answers. -/
import Derived.Test.YtnaoccndghnmpaaDoorPkR
import Derived.Test.YtnaoccndghnmpaaDoorConP
import Derived.Test.YtnaoccndghnmpaaDoorBlk
import Derived.Deep.RegionLaw
namespace Go.Proofs.YtnaoccndghnmpaaDoor
open Go.ChangeShapes Go.WideShapes Go.ChangeAt Go.RowKit Sha Go.Deep
set_option linter.unusedVariables false
set_option linter.unusedSimpArgs false

/-- The first k peaks and one behind them, joined as long as two are of one size. -/
def mrg (l : List Pk) : Nat → Pk → List Pk
  | 0, p => [p]
  | k + 1, p => if (l.getD k default).s = p.s then mrg l k ⟨2 * p.s, nodeV (l.getD k default).h p.h⟩ else l.take (k + 1) ++ [p]
theorem mrg_len (l : List Pk) : ∀ k p, (mrg l k p).length ≤ k + 1
  | 0, p => by simp [mrg]
  | k + 1, p => by
    unfold mrg
    split
    · exact Nat.le_trans (mrg_len l k _) (by omega)
    · simp [List.length_take]; omega
theorem mrg_stop (l : List Pk) (k : Nat) (p : Pk) (h : k = 0 ∨ (l.getD (k - 1) default).s ≠ p.s) : mrg l k p = l.take k ++ [p] := by
  cases k with
  | zero => simp [mrg]
  | succ k =>
    rcases h with h | h
    · omega
    · unfold mrg
      rw [if_neg (by simpa using h)]
theorem mrg_go (l : List Pk) (k : Nat) (p : Pk) (h : (l.getD k default).s = p.s) : mrg l (k + 1) p = mrg l k ⟨2 * p.s, nodeV (l.getD k default).h p.h⟩ := by
  conv => lhs; unfold mrg
  rw [if_pos h]
theorem wrapMm (n : Int) (h0 : 0 ≤ n) (h1 : n < 9223372036854775808) : IntKind.i64.wrap n = n := by
  simp only [IntKind.wrap, IntKind.bits, IntKind.signed]
  simp
  omega
/-- What AddPeak answers. -/
def addOut (l : List Pk) (leaf : ByteArray) : List Pk × Int := if mxI (pfC l) (hfC leaf) = 0 then (if sumTo l l.length = 64 then ([], 7) else (mrg l l.length ⟨1, leaf⟩, 0)) else ([], mxI (pfC l) (hfC leaf))
theorem pfC_lo (l : List Pk) : 0 ≤ pfC l := by unfold pfC; split <;> (try split) <;> omega
theorem mxP_ok {l : List Pk} {t : ByteArray} (h : mxI (pfC l) (hfC t) = 0) : pfC l = 0 ∧ t.size = 32 := by
  unfold mxI pfC hfC at h
  unfold pfC
  constructor
  all_goals
    (repeat' split at h) <;> (try split) <;> (try split) <;> first | omega | rfl | simp_all
theorem cat_any (l : List Pk) (k : Nat) (hk : k ≤ l.length) (hk64 : k ≤ 64) (ps : Int) (ph : ByteArray) (b off cap : Nat) (wq : World) (hs : PA wq b off cap l) :
    Calls Tryd.prog 57 #[.slice (some ⟨wq.heap.size + 1, 0, none⟩) 2 2] ((wq.alloc (.cells #[.int .i64 ps, .string ph] 81)).alloc (.cells #[.slice (some ⟨b, off, none⟩) k cap, .slice (some ⟨wq.heap.size, 0, none⟩) 1 1] 37)) fun e w' => ∃ v, e = .returned v ∧ OwnP wq.heap.size w' v (l.take k ++ [⟨ps, ph⟩]) ∧ Below wq.heap.size wq w' := by
  have b1 := (Below.refl wq.heap.size wq).alloc (Nat.le_refl _) (.cells #[.int .i64 ps, .string ph] 81)
  have K1 := (Blk.new wq #[.int .i64 ps, .string ph] 81 wq.heap.size rfl).alloc (.cells #[.slice (some ⟨b, off, none⟩) k cap, .slice (some ⟨wq.heap.size, 0, none⟩) 1 1] 37)
  have hz1 : (wq.alloc (.cells #[.int .i64 ps, .string ph] 81)).heap.size = wq.heap.size + 1 := by simp
  have K2 := Blk.new (wq.alloc (.cells #[.int .i64 ps, .string ph] 81)) #[.slice (some ⟨b, off, none⟩) k cap, .slice (some ⟨wq.heap.size, 0, none⟩) 1 1] 37 (wq.heap.size + 1) hz1
  have b2 := b1.alloc (by omega) (.cells #[.slice (some ⟨b, off, none⟩) k cap, .slice (some ⟨wq.heap.size, 0, none⟩) 1 1] 37)
  generalize (wq.alloc (.cells #[.int .i64 ps, .string ph] 81)).alloc (.cells #[.slice (some ⟨b, off, none⟩) k cap, .slice (some ⟨wq.heap.size, 0, none⟩) 1 1] 37) = w7 at *
  have htl : (l.take k).length = k := by rw [List.length_take]; omega
  have hs7 := (hs.take k hk).below b2
  have h1 : PA w7 wq.heap.size 0 1 [⟨ps, ph⟩] := ⟨by simp, by unfold maxLen; omega, K1.1, fun i hi => by
    obtain rfl : i = 0 := by simpa using hi
    exact ⟨K1.cell 0 rfl, K1.cell 1 rfl⟩⟩
  refine (concatP_any (some ⟨b, off, none⟩) (some ⟨wq.heap.size, 0, none⟩) k 1 cap 1 (wq.heap.size + 1) (pksC (l.take k)) (pksC [⟨ps, ph⟩]) w7 (K2.cell 0 rfl) (K2.cell 1 rfl) K2.1 (by rw [pksC_len, htl]) rfl (pksC_one _) (pksC_one _)
    (fun wx hb => by have := (hs7.below hb).rw; rwa [htl] at this) (fun wx hb => (h1.below hb).rw) (by omega) (by omega) (by omega)).mono ?_
  rintro e w' ⟨a, c, rfl, hO, hb⟩
  refine ⟨_, rfl, ?_, b2.trans (hb.mono b2.size)⟩
  have e1 : pksC (l.take k ++ [⟨ps, ph⟩]) = pksC (l.take k) ++ pksC [⟨ps, ph⟩] := List.flatMap_append
  unfold OwnP
  rw [e1, List.length_append, htl]
  exact World.ownsRow.mono hO b2.size
set_option maxRecDepth 100000 in
set_option maxHeartbeats 2000000 in
theorem implAdd_any (l : List Pk) (leaf : ByteArray) (b off cap : Nat) (w : World) (hs : PA w b off cap l) (hz : ∀ i, (l.getD i default).h.size ≤ 1048576) (hlf : leaf.size ≤ 1048576) (ht : Tab w) :
    Calls Tryd.prog 21 #[.slice (some ⟨b, off, none⟩) l.length cap, .string leaf] w fun e w' => ∃ v, e = .returned (.tuple #[v, .int .i64 (addOut l leaf).2]) ∧ OwnP w.heap.size w' v (addOut l leaf).1 ∧ Below w.heap.size w w' := by
  have hle : l.length ≤ 9223372036854775807 := by have := hs.le; have := hs.mx; unfold maxLen at this; omega
  have hcap : l.length ≤ cap := hs.le
  have hcm : cap ≤ 9223372036854775807 := by have := hs.mx; unfold maxLen at this; omega
  have HC := hide (peaksFault_any l b off cap w hs hz)
  have HF := hide (fun wx => hashFault_any leaf wx (by unfold maxLen; omega))
  have HO : Hid (addOut l leaf = if mxI (pfC l) (hfC leaf) = 0 then (if sumTo l l.length = 64 then ([], 7) else (mrg l l.length ⟨1, leaf⟩, 0)) else ([], mxI (pfC l) (hfC leaf))) := rfl
  have HK := hide (mxP_ok (l := l) (t := leaf))
  have HP := hide (pfC_ok (l := l))
  have l1 := pfC_lo l
  have l2 := hfC_lo leaf
  have HT := hide ht
  have HS := hide hs
  clear ht hs hz
  generalize pfC l = c1 at *
  generalize hfC leaf = c2 at *
  go_enter Tryd.func21, Tryd.ntmps21
  go_wp2_with fail
  refine (unhide HC).mono ?_
  rintro e w1 ⟨rfl, hb1⟩
  have B1 := hide hb1
  clear hb1 HC
  go_wp2_with fail
  refine (unhide HF w1).mono ?_
  rintro e w9 ⟨rfl, hw⟩
  subst w9
  have B2 := hide ((unhide B1).trans ((Below.refl w1.heap.size w1).alloc (Nat.le_refl _) (.cells #[.int .i64 c1, .int .i64 c2] 3) |>.mono (unhide B1).size))
  have HW := hide (worst_any c1 c2 w1.heap.size (w1.alloc (.cells #[.int .i64 c1, .int .i64 c2] 3)) l1 l2 (by rw [World.cell?_alloc_at _ _ _ _ rfl]; rfl) (by rw [World.cell?_alloc_at _ _ _ _ rfl]; rfl))
  generalize mxI c1 c2 = c at *
  go_wp2_with fail
  refine (unhide HW).mono ?_
  rintro e w9 ⟨rfl, hw⟩
  subst w9
  generalize w1.alloc (.cells #[.int .i64 c1, .int .i64 c2] 3) = w2 at *
  clear HW B1 HF
  by_cases hc : c = 0
  case neg =>
    rw [if_neg hc] at HO
    go_wp2_with fail
    go_ret2
    exact ⟨.slice none 0 0, by rw [unhide HO]; rfl, by rw [unhide HO]; exact OwnP.nil _ _, unhide B2⟩
  obtain ⟨hp0, hl32⟩ := unhide HK hc
  have hok := (unhide HP hp0).1
  have hll := ok_len hok
  have HOK := hide hok
  have hsm := sum_in l _ hok
  subst hc
  rw [if_pos rfl] at HO
  have HL := hide (leavesBelow_any l b off cap w2 ((unhide HS).below (unhide B2)) hok)
  clear hok HK HP hp0
  generalize sumTo l l.length = sm at *
  go_wp2_with fail
  refine (unhide HL).mono ?_
  rintro e w3 ⟨rfl, hb3⟩
  have B3 := hide ((unhide B2).trans (hb3.mono (unhide B2).size))
  clear hb3 B2 HL
  by_cases hs64 : sm = 64
  · rw [if_pos hs64] at HO
    go_wp2_with fail
    go_ret2
    exact ⟨.slice none 0 0, by rw [unhide HO]; rfl, by rw [unhide HO]; exact OwnP.nil _ _, unhide B3⟩
  rw [if_neg hs64] at HO
  have hsb : (sm == 64) = false := by simpa using hs64
  generalize hX : w3.heap.size = X at *
  have K0 : Hid (Blk (w3.alloc (.cells #[.int .i64 1, .string leaf] 81)) X [.int .i64 1, .string leaf] ∧ Below w.heap.size w (w3.alloc (.cells #[.int .i64 1, .string leaf] 81))) := hide ⟨Blk.new w3 _ _ X hX, (unhide B3).alloc (unhide B3).size _⟩
  have hbX : b < X := by have := ((unhide HS).below (unhide B3)).lt; omega
  have hwX : w.heap.size ≤ X := by have := (unhide B3).size; omega
  go_wp2_with fail
  go_loopw [8, 9] (fun o n wr => ∃ (k : Nat) (p : Pk), k ≤ l.length ∧ o = .slice (some ⟨b, off, none⟩) k cap ∧ n = .int .i64 k ∧ (Blk wr X [.int .i64 p.s, .string p.h] ∧ Below w.heap.size w wr) ∧ 1 ≤ p.s ∧ p.s ≤ 128 ∧ p.h.size = 32 ∧ mrg l k p = mrg l l.length ⟨1, leaf⟩) (fun _ n _ => (intOf n).toNat)
  case atStart => exact ⟨l.length, ⟨1, leaf⟩, Nat.le_refl _, rfl, rfl, unhide K0, by simp, by simp, hl32, rfl⟩
  case round =>
    obtain ⟨k, p, hk, rfl, rfl, hK, hp0, hp1, hp2, hm⟩ := hrel
    have e0 := hK.1.cell 0 rfl
    have e1 := hK.1.cell 1 rfl
    have f0 := hK.1.fro 0
    have f1 := hK.1.fro 1
    have HKr := hide hK
    have HM := hide hm
    have hXr := hK.1.1
    obtain ⟨ps, ph⟩ := p
    dsimp only at *
    clear hK hm
    by_cases hk0 : k = 0
    · subst hk0
      have HE : Hid (l.take 0 ++ [⟨ps, ph⟩] = mrg l l.length ⟨1, leaf⟩) := hide ((mrg_stop l 0 ⟨ps, ph⟩ (.inl rfl)).symm.trans (unhide HM))
      clear HM
      go_wp2_with fail
      go_quiet (fail)
      have e0' : (wr.drewN nq).cell? ⟨X, 0, none⟩ = some (.int .i64 ps) := e0
      have e1' : (wr.drewN nq).cell? ⟨X, 1, none⟩ = some (.string ph) := e1
      have HKq := hide (And.intro ((unhide HKr).1.drewN nq) (below_drewN (unhide HKr).2 nq))
      have hXq : X < (wr.drewN nq).heap.size := hXr
      clear HKr e0 e1 f0 f1 hXr
      generalize wr.drewN nq = wq at *
      have HCC := hide (cat_any l 0 hk (by omega) ps ph b off cap wq ((unhide HS).below (unhide HKq).2))
      go_wp2_with fail
      refine (unhide HCC).mono ?_
      rintro e w7 ⟨v, rfl, hO7, hb7⟩
      have R7 : Hid (OwnP w.heap.size w7 v (addOut l leaf).1 ∧ Below w.heap.size w w7) := hide ⟨by rw [unhide HO, ← unhide HE]; exact World.ownsRow.mono hO7 (unhide HKq).2.size, (unhide HKq).2.trans (hb7.mono (unhide HKq).2.size)⟩
      clear hO7 hb7 HCC
      go_wp2_with fail
      go_ret2
      exact ⟨v, by rw [unhide HO]; rfl, (unhide R7).1, (unhide R7).2⟩
    obtain ⟨m, rfl⟩ : ∃ m, k = m + 1 := ⟨k - 1, by omega⟩
    have r0 := (((unhide HS).below (unhide HKr).2).cell m (by omega)).1
    have r1 := (((unhide HS).below (unhide HKr).2).cell m (by omega)).2
    have z0 := ok_hashes (unhide HOK) m (by omega)
    have z1 := ok_last l m (ok_down l _ _ (by omega) (unhide HOK))
    have HG := hide (mrg_go l m ⟨ps, ph⟩)
    have HST := hide (mrg_stop l (m + 1) ⟨ps, ph⟩)
    rw [show m + 1 - 1 = m from rfl] at HST
    generalize (l.getD m default) = q at *
    obtain ⟨qs, qh⟩ := q
    dsimp only at *
    have k1 : ((m + 1 : Nat) : Int) - 1 = (m : Int) := by omega
    have k2 : (0 : Int) < ((m + 1 : Nat) : Int) := by omega
    have k3 : (m : Int) < ((m + 1 : Nat) : Int) := by omega
    have k4 : (0 : Int) ≤ (m : Int) := by omega
    have k5 : (m : Int) ≤ (cap : Int) := by omega
    have k7 : IntKind.i64.wrap (m : Int) = (m : Int) := wrapMm _ (by omega) (by omega)
    have k8 : (m : Int) < (m : Int) + 1 := by omega
    by_cases hq : qs = ps
    · subst hq
      have k6 : IntKind.i64.wrap (2 * qs) = 2 * qs := wrapMm _ (by omega) (by omega)
      have HN := hide (fun wx h => nodeHash_any qh ph wx z0 hp2 h)
      go_wp2_with fail
      go_quiet (fail)
      have e0' : (wr.drewN nq).cell? ⟨X, 0, none⟩ = some (.int .i64 qs) := e0
      have e1' : (wr.drewN nq).cell? ⟨X, 1, none⟩ = some (.string ph) := e1
      have f0' : (wr.drewN nq).frozen? ⟨X, 0, none⟩ = false := f0
      have f1' : (wr.drewN nq).frozen? ⟨X, 1, none⟩ = false := f1
      have r1' : (wr.drewN nq).cell? ⟨b, off + m * 2 + 1, none⟩ = some (.string qh) := r1
      have HKq := hide (And.intro ((unhide HKr).1.drewN nq) (below_drewN (unhide HKr).2 nq))
      have hXq : X < (wr.drewN nq).heap.size := hXr
      clear HKr e0 e1 f0 f1 r0 r1 hXr
      generalize wr.drewN nq = wq at *
      go_wp2_with fail
      go_region_law ((go_simp; go_at_call 56; refine (unhide HN _ ((unhide HT).below (below_drewN (unhide HKq).2 1))).mono ?_; rintro e w5 ⟨rfl, hb2⟩; (have e05 := (hb2.cell (p := ⟨X, 0, none⟩) hXq).trans e0'); (have f05 := (hb2.frozen (p := ⟨X, 0, none⟩) hXq).trans f0'); (have e15 := (hb2.cell (p := ⟨X, 1, none⟩) hXq).trans e1'); (have f15 := (hb2.frozen (p := ⟨X, 1, none⟩) hXq).trans f1'); go_simp))
      all_goals
        have K5 : Hid (Blk ((w5.setCell ⟨X, 0, none⟩ (.int .i64 (2 * qs))).setCell ⟨X, 1, none⟩ (.string (nodeV qh ph))) X [.int .i64 (2 * qs), .string (nodeV qh ph)] ∧ Below w.heap.size w ((w5.setCell ⟨X, 0, none⟩ (.int .i64 (2 * qs))).setCell ⟨X, 1, none⟩ (.string (nodeV qh ph)))) := hide
          ⟨((((unhide HKq).1.drewN 1).below hb2).set 0 _ (by simp)).set 1 _ (by simp), (((below_drewN (unhide HKq).2 1).trans (hb2.mono (below_drewN (unhide HKq).2 1).size)).setCell (p := ⟨X, 0, none⟩) hwX _).setCell (p := ⟨X, 1, none⟩) hwX _⟩
        have zn := node_size z0 hp2
        have HG2 := hide ((unhide HG trivial).symm.trans (unhide HM))
        clear hb2 e05 f05 e15 f15 HKq e0' e1' f0' f1' r1' HG HM HST HN
        generalize (w5.setCell ⟨X, 0, none⟩ (.int .i64 (2 * qs))).setCell ⟨X, 1, none⟩ (.string (nodeV qh ph)) = w6 at *
        generalize nodeV qh ph = hh at *
        go_wp2_with fail
        refine ⟨⟨m, ⟨2 * qs, hh⟩, by omega, rfl, by go_num, unhide K5, by dsimp only; omega, by dsimp only; omega, zn, unhide HG2⟩, ?_⟩
        simp [intOf]
    · have HE : Hid (l.take (m + 1) ++ [⟨ps, ph⟩] = mrg l l.length ⟨1, leaf⟩) := hide ((unhide HST (.inr hq)).symm.trans (unhide HM))
      have hqb : (qs == ps) = false := by simpa using hq
      clear HG HST HM
      go_wp2_with fail
      go_quiet (fail)
      have e0' : (wr.drewN nq).cell? ⟨X, 0, none⟩ = some (.int .i64 ps) := e0
      have e1' : (wr.drewN nq).cell? ⟨X, 1, none⟩ = some (.string ph) := e1
      have HKq := hide (And.intro ((unhide HKr).1.drewN nq) (below_drewN (unhide HKr).2 nq))
      have hXq : X < (wr.drewN nq).heap.size := hXr
      clear HKr e0 e1 f0 f1 r0 r1 hXr
      generalize wr.drewN nq = wq at *
      have HCC := hide (cat_any l (m + 1) hk (by omega) ps ph b off cap wq ((unhide HS).below (unhide HKq).2))
      go_wp2_with fail
      refine (unhide HCC).mono ?_
      rintro e w7 ⟨v, rfl, hO7, hb7⟩
      have R7 : Hid (OwnP w.heap.size w7 v (addOut l leaf).1 ∧ Below w.heap.size w w7) := hide ⟨by rw [unhide HO, ← unhide HE]; exact World.ownsRow.mono hO7 (unhide HKq).2.size, (unhide HKq).2.trans (hb7.mono (unhide HKq).2.size)⟩
      clear hO7 hb7 HCC
      go_wp2_with fail
      go_ret2
      exact ⟨v, by rw [unhide HO]; rfl, (unhide R7).1, (unhide R7).2⟩
end Go.Proofs.YtnaoccndghnmpaaDoor
