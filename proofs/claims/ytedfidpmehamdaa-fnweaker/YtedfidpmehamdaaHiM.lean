/- Histories: impl.OpsAhead, walked. (Written by py/him.py.) -/
import Derived.Test.YtedfidpmehamdaaHiL
namespace Go.Proofs.Ytedfidpmehamdaa
open Go.ChangeShapes Go.WideShapes Go.ChangeAt Go.RowKit Go.Deep
set_option linter.unusedVariables false
set_option linter.unusedSimpArgs false

/-- The rows that are there once i of them are filled. -/
def preR (l : List Op) (i : Nat) : List (List Bool) := (List.range l.length).map fun (q : Nat) => if q < i then ahRow l q l.length else []
theorem preR_len (l : List Op) (i : Nat) : (preR l i).length = l.length := by simp [preR]
theorem preR_all (l : List Op) : preR l l.length = ahRows l l.length := by
  apply List.ext_getElem?
  intro q
  by_cases h : q < l.length
  · simp [preR, ahRows, h]
  · simp [preR, ahRows, h]
theorem preR_set (l : List Op) (i : Nat) (hi : i < l.length) : (preR l i).set i (ahRow l i l.length) = preR l (i + 1) := by
  apply List.ext_getElem?
  intro q
  rw [List.getElem?_set]
  simp only [preR_len]
  by_cases e : i = q
  · subst e
    rw [if_pos rfl, if_pos hi]
    simp [preR, hi]
  · rw [if_neg e]
    by_cases hq : q < l.length
    · by_cases h1 : q < i
      · simp [preR, hq, h1, show q < i + 1 by omega]
      · simp [preR, hq, h1, show ¬ q < i + 1 by omega]
    · simp [preR, hq]
/-- A row of which the first j flags are laid. -/
def filB (l : List Op) (i j : Nat) : List Bool := (List.range l.length).map fun (q : Nat) => if q < j then ahB (l.getD i default) (l.getD q default) else false
theorem filB_len (l : List Op) (i j : Nat) : (filB l i j).length = l.length := by simp [filB]
theorem filB_zero (l : List Op) (i : Nat) : (filB l i 0).map Value.bool = List.replicate l.length (Value.bool false) := by
  apply List.ext_getElem?
  intro q
  by_cases h : q < l.length
  · simp [filB, h]
  · simp [filB, h]
theorem filB_all (l : List Op) (i : Nat) : filB l i l.length = ahRow l i l.length := by
  apply List.ext_getElem?
  intro q
  by_cases h : q < l.length
  · simp [filB, ahRow, h]
  · simp [filB, ahRow, h]
theorem filB_set (l : List Op) (i j : Nat) (hj : j < l.length) : ((filB l i j).map Value.bool).set j (.bool (ahB (l.getD i default) (l.getD j default))) = (filB l i (j + 1)).map Value.bool := by
  apply List.ext_getElem?
  intro q
  rw [List.getElem?_set]
  simp only [List.length_map, filB_len, List.getElem?_map]
  by_cases e : j = q
  · subst e
    rw [if_pos rfl, if_pos hj]
    simp [filB, hj]
  · rw [if_neg e]
    by_cases hq : q < l.length
    · by_cases h1 : q < j
      · simp [filB, hq, h1, show q < j + 1 by omega]
      · simp [filB, hq, h1, show ¬ q < j + 1 by omega]
    · simp [filB, hq]
theorem Gd.fro {B g n cap : Nat} {w : World} {rv : List Value} {ls : List (List Bool)} (h : Gd B w (.slice (some ⟨g, 0, none⟩) n cap) rv ls) (i : Nat) : w.frozen? ⟨g, i, none⟩ = false := by
  have hn : n = rv.length := by
    rcases h.row.2 with ⟨hv, _⟩ | ⟨g2, c2, cur, hv, _⟩
    · cases hv
    · simp only [Value.slice.injEq] at hv; exact hv.2.1
  subst hn
  exact World.ownsRow.frozenAt h.row i
/-- A new row is laid into the place i. -/
theorem Gd.put {B g cap i : Nat} {w : World} {rv : List Value} {ls : List (List Bool)} {r : Value} {l' : List Bool} {n : Nat} (h : Gd B w (.slice (some ⟨g, 0, none⟩) n cap) rv ls) (hi : i < rv.length) (hr : OwnBo B w r l') (hrg : r.ownBlock ≠ some g) (hrn : ∀ q, q < rv.length → ∀ k, (rv.getD q default).ownBlock = some k → r.ownBlock ≠ some k) : Gd B (w.setCell ⟨g, i, none⟩ r) (.slice (some ⟨g, 0, none⟩) n cap) (rv.set i r) (ls.set i l') := by
  have hT : Touch (fun k => k = g) w (w.setCell ⟨g, i, none⟩ r) := (Touch.refl _ w).setCell _ _ (fun _ => rfl)
  have hlen : (rv.set i r).length = rv.length := by simp
  have hn : n = rv.length := by
    rcases h.shape with ⟨_, h0⟩ | ⟨g2, c2, e, _⟩
    · rw [h0] at hi; simp at hi
    · simp only [Value.slice.injEq] at e; exact e.2.1
  subst hn
  have e1 : ∀ q, q ≠ i → (rv.set i r).getD q default = rv.getD q default := fun q hq => by
    rw [List.getD_eq_getElem?_getD, List.getElem?_set_ne (fun x => hq x.symm), ← List.getD_eq_getElem?_getD]
  have e2 : (rv.set i r).getD i default = r := by rw [List.getD_eq_getElem?_getD, List.getElem?_set_self hi]; rfl
  have f1 : ∀ q, q ≠ i → (ls.set i l').getD q [] = ls.getD q [] := fun q hq => by
    rw [List.getD_eq_getElem?_getD, List.getElem?_set_ne (fun x => hq x.symm), ← List.getD_eq_getElem?_getD]
  have f2 : (ls.set i l').getD i [] = l' := by rw [List.getD_eq_getElem?_getD, List.getElem?_set_self (by rw [← h.ln]; exact hi)]; rfl
  refine ⟨by rw [hlen]; exact (World.ownsRow.stored h.row i r).1, by rw [hlen, List.length_set]; exact h.ln, fun q hq => ?_, fun q hq k hk hv => ?_, fun q p hq hp hqp k hk => ?_⟩
  · rw [hlen] at hq
    by_cases e : q = i
    · subst e; rw [e2, f2]; exact hr.kept hT (fun k hk e3 => by subst e3; exact hrg hk)
    · rw [e1 q e, f1 q e]; exact (h.sub q hq).kept hT (fun k hk e3 => by subst e3; exact h.ap q hq k hk rfl)
  · rw [hlen] at hq
    have hgk : g = k := by simpa [Value.ownBlock] using hv
    subst hgk
    by_cases e : q = i
    · subst e; rw [e2] at hk; exact hrg hk
    · rw [e1 q e] at hk; exact h.ap q hq g hk rfl
  · rw [hlen] at hq hp
    by_cases ei : q = i
    · subst ei
      rw [e2] at hk
      rw [e1 p (fun x => hqp x.symm)]
      exact fun hx => hrn p hp k hx hk
    · rw [e1 q ei] at hk
      by_cases ep : p = i
      · subst ep; rw [e2]; exact hrn q hq k hk
      · rw [e1 p ep]; exact h.dj q p hq hp hqp k hk
theorem gd_made {B n : Nat} {w : World} {g : Nat} {cap : Nat} (l : List Op) (hn : n = l.length) (h : w.ownsRow B 37 1 (.slice (some ⟨g, 0, none⟩) n cap) n (List.replicate n (Value.slice none 0 0))) : Gd B w (.slice (some ⟨g, 0, none⟩) n cap) (List.replicate n (Value.slice none 0 0)) (preR l 0) := by
  have e1 : ∀ q, q < n → (List.replicate n (Value.slice none 0 0)).getD q default = .slice none 0 0 := fun q hq => by simp [List.getD_eq_getElem?_getD, hq]
  refine ⟨by rw [List.length_replicate]; exact h, by rw [List.length_replicate, preR_len, hn], fun q hq => ?_, fun q hq k hk => ?_, fun q p hq hp _ k hk => ?_⟩
  · rw [List.length_replicate] at hq
    rw [e1 q hq, show (preR l 0).getD q [] = [] by simp [preR, List.getD_eq_getElem?_getD, show q < l.length by omega]]
    exact OwnBo.nil _ _
  · rw [List.length_replicate] at hq
    rw [e1 q hq] at hk; cases hk
  · rw [List.length_replicate] at hq
    rw [e1 q hq] at hk; cases hk
set_option maxRecDepth 100000 in
set_option maxHeartbeats 2000000 in
theorem implOpsAhead_any (v : Value) (l : List Op) (w : World) (h : Ops w v l) (hs : l.length ≤ 1048576) :
    Calls Try.prog 12 #[v] w fun e w' => ∃ r rv, e = .returned (.tuple #[r, .int .i64 (oaOut l).2]) ∧ Gd w.heap.size w' r rv (oaOut l).1 ∧ Below w.heap.size w w' := by
  have HOF := hide (opsFault_any v l w h hs)
  obtain ⟨i0, hi, hz0, hz1, hz2⟩ := info_parts4
  obtain ⟨i1, hj, hy0, hy1, hy2⟩ := info_parts infoB
  obtain ⟨la, lc, rfl, hn9, hm9, hc⟩ := h
  have HC : Hid (l.length = 0 ∨ ∃ b off, la = some ⟨b, off, none⟩ ∧ b < w.heap.size ∧ ∀ i, i < l.length → w.cell? ⟨b, off + i * 4, none⟩ = some (.int .i64 (l.getD i default).bg) ∧ w.cell? ⟨b, off + i * 4 + 1, none⟩ = some (.int .i64 (l.getD i default).en) ∧ w.cell? ⟨b, off + i * 4 + 2, none⟩ = some (.bool (l.getD i default).wr) ∧ w.cell? ⟨b, off + i * 4 + 3, none⟩ = some (.string (l.getD i default).va)) := hide hc
  clear hc hn9 hm9
  by_cases h0 : ofC l ≠ 0
  · have E : oaOut l = ([], ofC l) := by unfold oaOut; rw [if_pos h0]
    have hb : (ofC l != 0) = true := by simpa using h0
    rw [E]
    clear E h0
    generalize ofC l = cd at *
    go_enter Try.func12, Try.ntmps12
    go_wp2_with fail
    refine (unhide HOF).mono ?_
    rintro e w1 ⟨rfl, hb1⟩
    have B1 := hide hb1
    clear hb1
    go_wp2_with fail
    refine bodyPost_ret (v := .tuple #[.slice none 0 0, .int .i64 cd]) (by simp [results, Try.results12, go_sem]) rfl ?_
    exact ⟨_, [], rfl, Gd.nil _ _, unhide B1⟩
  have h0' : ofC l = 0 := by omega
  have HOK := hide (opsB_at (ofC_zero h0'))
  have hl7 := (unhide HOK).1
  have E : oaOut l = (ahRows l l.length, 0) := by unfold oaOut; rw [if_neg h0]
  rw [E]
  rw [h0'] at HOF
  clear E h0 h0'
  go_enter Try.func12, Try.ntmps12
  go_wp2_with fail
  refine (unhide HOF).mono ?_
  rintro e w1 ⟨rfl, hb1⟩
  have B1 := hide hb1
  have hbs1 := hb1.size
  clear hb1
  go_wp2_with (at_make; refine wpList_make_full _ rfl _ _ 34 rfl w.heap.size 37 i1 _ 1 Try.underlying34 hj hy0 hy1 .i64 .i64 _ _ l.length rfl rfl rfl rfl (by rw [hy2]; omega) (by unfold maxLen; omega) hbs1 ?_; intro w2 hown2 hg2)
  have e3 : (Value.slice none 0 0).cells = #[Value.slice none 0 0] := rfl
  rw [e3, Nat.mul_one, toList_madeCells_one] at hown2
  have G2 := hide (gd_made l rfl hown2)
  have B2 := hide ((unhide B1).grown hg2 hbs1 (fun k h => by cases h))
  clear hown2 hg2 e3 B1
  generalize w1.heap.size = go at *
  go_loopw [18] (fun iv wr => ∃ (i : Nat) (rv : List Value), i ≤ l.length ∧ iv = .int .i64 i ∧ Gd w.heap.size wr (.slice (some ⟨go, 0, none⟩) l.length l.length) rv (preR l i) ∧ Below w.heap.size w wr) (fun iv _ => l.length - (intOf iv).toNat)
  case atStart => exact ⟨0, _, Nat.zero_le _, rfl, unhide G2, unhide B2⟩
  case round =>
    obtain ⟨i, rv, hil, rfl, hG, hb⟩ := hrel
    by_cases hlt : i < l.length
    · obtain ⟨b, off, rfl, hbl, hsrc⟩ : ∃ b off, la = some ⟨b, off, none⟩ ∧ b < w.heap.size ∧ ∀ i, i < l.length → w.cell? ⟨b, off + i * 4, none⟩ = some (.int .i64 (l.getD i default).bg) ∧ w.cell? ⟨b, off + i * 4 + 1, none⟩ = some (.int .i64 (l.getD i default).en) ∧ w.cell? ⟨b, off + i * 4 + 2, none⟩ = some (.bool (l.getD i default).wr) ∧ w.cell? ⟨b, off + i * 4 + 3, none⟩ = some (.string (l.getD i default).va) := by
        rcases unhide HC with h0 | h1
        · omega
        · exact h1
      have HSRC := hide hsrc
      have p0 : (0 : Int) ≤ (i : Int) := by omega
      have p1 : (i : Int) < (l.length : Int) := by omega
      have hri : i < rv.length := by rw [hG.ln, preR_len]; exact hlt
      have hc0 := hG.at_ i (by rw [preR_len]; exact hlt)
      obtain ⟨g9, hg9, hgol, hcell, _, _, _⟩ := hc0
      simp only [Option.some.injEq, Addr.mk.injEq, and_true] at hg9
      subst hg9
      have hfro := hG.fro i
      have HG := hide hG
      have HB := hide hb
      have hbs := hb.size
      obtain ⟨W, hW⟩ : ∃ W, W = wr := ⟨_, rfl⟩
      rw [← hW] at HG HB hbs hcell hgol hfro ⊢
      clear hW hG hb hsrc
      have HMK := hide (fun (w3 : World) (hown : w3.ownsRow W.heap.size 4 1 (.slice (some ⟨W.heap.size, 0, none⟩) l.length l.length) l.length (madeCells (Value.bool false).cells (l.length * 1)).toList) (hg : W.grownBy w3 none) => show (w3.cell? ⟨go, i, none⟩ = some (rv.getD i default) ∧ w3.frozen? ⟨go, i, none⟩ = false) ∧ Gd w.heap.size (w3.setCell ⟨go, i, none⟩ (.slice (some ⟨W.heap.size, 0, none⟩) l.length l.length)) (.slice (some ⟨go, 0, none⟩) l.length l.length) (rv.set i (.slice (some ⟨W.heap.size, 0, none⟩) l.length l.length)) ((preR l i).set i (filB l i 0)) ∧ Below w.heap.size w (w3.setCell ⟨go, i, none⟩ (.slice (some ⟨W.heap.size, 0, none⟩) l.length l.length)) from by
        have e3 : (Value.bool false).cells = #[Value.bool false] := rfl
        rw [e3, Nat.mul_one, toList_madeCells_one, ← filB_zero l i] at hown
        have hO : OwnBo W.heap.size w3 (.slice (some ⟨W.heap.size, 0, none⟩) l.length l.length) (filB l i 0) := by unfold OwnBo; rw [filB_len]; exact hown
        have hbW := (Below.refl W.heap.size W).grown hg (Nat.le_refl _) (fun k h => by cases h)
        have hg3 := (unhide HG).below hbW
        have hgo := ((unhide HG).lt go (.inl rfl)).1
        refine ⟨⟨(hbW.cell (p := ⟨go, i, none⟩) hgol).trans hcell, hg3.fro i⟩, hg3.put hri (hO.down hbs) (fun e => by
          have : W.heap.size = go := by simpa [Value.ownBlock] using e
          omega) (fun q hq k hk e => by
          have h1 : W.heap.size = k := by simpa [Value.ownBlock] using e
          have h2 := (unhide HG).lt k (.inr ⟨q, hq, hk⟩)
          omega), ((unhide HB).trans (hbW.mono hbs)).setCell (p := ⟨go, i, none⟩) hgo _⟩)
      obtain ⟨xo, hxo⟩ : ∃ xo, rv.getD i default = xo := ⟨_, rfl⟩
      rw [hxo] at HMK
      clear hxo
      go_upto_region 9 with (at_make; refine wpList_make_full _ rfl _ _ 37 rfl W.heap.size 4 i0 _ 1 Try.underlying37 hi hz0 hz1 .i64 .i64 _ _ l.length rfl rfl rfl rfl (by rw [hz2]; omega) (by unfold maxLen; omega) (Nat.le_refl _) ?_; intro w3 hown3 hg3; have MK := unhide HMK w3 hown3 hg3; have mk1 := MK.1.1; have mk2 := MK.1.2; have R3 := hide MK.2; clear hown3 hg3 MK)
      clear mk1 mk2 HMK
      generalize w3.setCell ⟨go, i, none⟩ (.slice (some ⟨W.heap.size, 0, none⟩) l.length l.length) = w4 at *
      obtain ⟨gr, hgr⟩ : ∃ gr, gr = W.heap.size := ⟨_, rfl⟩
      have hgr2 : w.heap.size ≤ gr := by rw [hgr]; exact hbs
      have hgrgo : go < gr := by rw [hgr]; exact hgol
      rw [← hgr] at R3 ⊢
      have hrc : l.length = l.length := rfl
      have HRI : Hid ((rv.set i (.slice (some ⟨gr, 0, none⟩) l.length l.length)).getD i default = .slice (some ⟨gr, 0, none⟩) l.length l.length) := hide (by rw [List.getD_eq_getElem?_getD, List.getElem?_set_self hri]; rfl)
      have HRL : Hid (i < (rv.set i (.slice (some ⟨gr, 0, none⟩) l.length l.length)).length) := hide (by rw [List.length_set]; exact hri)
      generalize rv.set i (.slice (some ⟨gr, 0, none⟩) l.length l.length) = rv2 at *
      have HPS := hide (preR_set l i hlt)
      clear hcell hgol hfro HG HB hbs hgr hri
      go_wp2_with fail
      go_loopw [29] (fun jv wq => ∃ (j : Nat), j ≤ l.length ∧ jv = .int .i64 j ∧ Gd w.heap.size wq (.slice (some ⟨go, 0, none⟩) l.length l.length) rv2 ((preR l i).set i (filB l i j)) ∧ Below w.heap.size w wq) (fun jv _ => l.length - (intOf jv).toNat)
      case atStart => exact ⟨0, Nat.zero_le _, rfl, (unhide R3).1, (unhide R3).2⟩
      case round =>
        obtain ⟨j, hjl, rfl, hG, hq⟩ := hrel
        by_cases hjlt : j < l.length
        · have hblq : b < wr.heap.size := Nat.lt_of_lt_of_le hbl hq.size
          have hgoq : go < wr.heap.size := (hG.lt go (.inl rfl)).2
          obtain ⟨s0, s1, s2, s3⟩ := unhide HSRC i hlt
          obtain ⟨k0, k1, k2, k3⟩ := unhide HSRC j hjlt
          have t0 := (hq.cell (p := ⟨b, off + i * 4, none⟩) hbl).trans s0
          have u0 := (hq.cell (p := ⟨b, off + j * 4, none⟩) hbl).trans k0
          have t1 := (hq.cell (p := ⟨b, off + i * 4 + 1, none⟩) hbl).trans s1
          have u1 := (hq.cell (p := ⟨b, off + j * 4 + 1, none⟩) hbl).trans k1
          have t2 := (hq.cell (p := ⟨b, off + i * 4 + 2, none⟩) hbl).trans s2
          have u2 := (hq.cell (p := ⟨b, off + j * 4 + 2, none⟩) hbl).trans k2
          have t3 := (hq.cell (p := ⟨b, off + i * 4 + 3, none⟩) hbl).trans s3
          have u3 := (hq.cell (p := ⟨b, off + j * 4 + 3, none⟩) hbl).trans k3
          have hrl2 : rv2.length = l.length := by rw [hG.ln, List.length_set, preR_len]
          have hG' := hG
          rw [← hrl2] at hG'
          have x0 := hG'.cell i (unhide HRL)
          rw [unhide HRI] at x0
          have hsub := hG.sub i (unhide HRL)
          rw [unhide HRI, show ((preR l i).set i (filB l i j)).getD i [] = filB l i j by rw [List.getD_eq_getElem?_getD, List.getElem?_set_self (by rw [preR_len]; exact hlt)]; rfl] at hsub
          have r0 : (0 : Int) ≤ (j : Int) := by omega
          have r1 : (j : Int) < (l.length : Int) := by omega
          have HAH := hide (fun wx => isAhead_any (l.getD i default) (l.getD j default) wx (by have h1 := opB_en ((unhide HOK).2 i hlt); have h2 := opB_bg ((unhide HOK).2 i hlt); omega))
          have HSTO := hide (fun (wx : World) (hb : Below wr.heap.size wr wx) => show (∃ x, wx.cell? ⟨gr, j, none⟩ = some (.bool x)) ∧ wx.frozen? ⟨gr, j, none⟩ = false ∧ Gd w.heap.size (wx.setCell ⟨gr, j, none⟩ (.bool (ahB (l.getD i default) (l.getD j default)))) (.slice (some ⟨go, 0, none⟩) l.length l.length) rv2 ((preR l i).set i (filB l i (j + 1))) ∧ Below w.heap.size w (wx.setCell ⟨gr, j, none⟩ (.bool (ahB (l.getD i default) (l.getD j default)))) from by
            have hs2 : wx.ownsRow w.heap.size 4 1 (.slice (some ⟨gr, 0, none⟩) l.length l.length) l.length ((filB l i j).map Value.bool) := by have := hsub.below hb; unfold OwnBo at this; rw [filB_len] at this; exact this
            have hc := World.ownsRow.cellAt hs2 j (by omega)
            rw [List.getElem?_map, List.getElem?_eq_getElem (by rw [filB_len]; exact hjlt)] at hc
            have hst := (World.ownsRow.stored hs2 j (.bool (ahB (l.getD i default) (l.getD j default)))).1
            rw [filB_set l i j hjlt] at hst
            have hO : OwnBo w.heap.size (wx.setCell ⟨gr, j, none⟩ (.bool (ahB (l.getD i default) (l.getD j default)))) (.slice (some ⟨gr, 0, none⟩) l.length l.length) (filB l i (j + 1)) := by unfold OwnBo; rw [filB_len]; exact hst
            rw [← unhide HRI] at hO
            have hg2 := (hG.below hb).subset (unhide HRL) (w' := wx.setCell ⟨gr, j, none⟩ (.bool (ahB (l.getD i default) (l.getD j default)))) (by rw [unhide HRI]; exact (Touch.refl _ wx).setCell _ _ (fun _ => rfl)) hO
            rw [List.set_set] at hg2
            exact ⟨⟨_, hc⟩, World.ownsRow.frozenAt hs2 j, hg2, (hq.trans (hb.mono hq.size)).setCell (p := ⟨gr, j, none⟩) hgr2 _⟩)
          clear s0 s1 s2 s3 k0 k1 k2 k3 hG hG' hsub hq hrl2
          generalize l.getD i default = f at *
          generalize l.getD j default = g at *
          generalize ahB f g = ab at *
          obtain ⟨f0, f1, f2, f3⟩ := f
          obtain ⟨g0, g1, g2, g3⟩ := g
          dsimp only at t0 t1 t2 t3 u0 u1 u2 u3 HAH
          have HD := hide (below_drewN (Below.refl wr.heap.size wr) 1)
          change Hid (Below wr.heap.size wr wr.drew) at HD
          go_wp2_with fail
          refine wp_region_noPanic ?_
          refine wp_region_held_drew (S := (fun wx => wx.cell? ⟨go, i, none⟩ = some (.slice (some ⟨gr, 0, none⟩) l.length l.length) ∧ wx.cell? ⟨b, off + i * 4, none⟩ = some (.int .i64 f0) ∧ wx.cell? ⟨b, off + i * 4 + 1, none⟩ = some (.int .i64 f1) ∧ wx.cell? ⟨b, off + i * 4 + 2, none⟩ = some (.bool f2) ∧ wx.cell? ⟨b, off + i * 4 + 3, none⟩ = some (.string f3) ∧ wx.cell? ⟨b, off + j * 4, none⟩ = some (.int .i64 g0) ∧ wx.cell? ⟨b, off + j * 4 + 1, none⟩ = some (.int .i64 g1) ∧ wx.cell? ⟨b, off + j * 4 + 2, none⟩ = some (.bool g2) ∧ wx.cell? ⟨b, off + j * 4 + 3, none⟩ = some (.string g3))) (by kernel_rfl) ?_ (fun hHeld => ?_)
          · exact ⟨x0, t0, t1, t2, t3, u0, u1, u2, u3⟩
          obtain ⟨wd, hwd⟩ : ∃ wd, wd = wr.drew := ⟨_, rfl⟩
          rw [← hwd] at HD hHeld ⊢
          clear hwd
          refine tkH 0 rfl ?_
          refine tkH 1 rfl ?_
          refine tkH 2 rfl ?_
          refine tkH 3 rfl ?_
          refine tkH 4 rfl ?_
          refine tkH 5 rfl ?_
          refine tkH 6 rfl ?_
          refine tkH 7 rfl ?_
          refine tkH 8 rfl ?_
          refine tkH 9 rfl ?_
          refine tkH 10 rfl ?_
          refine tkH 11 rfl ?_
          refine tkH 12 rfl ?_
          refine wpAnyH_ready (rs := [13]) (by kernel_rfl) (by simp) ?_
          refine AllReadyH.cons (o := _) rfl (fun K hK => ?_) AllReadyH.nil
          go_simp
          refine (unhide HAH wd).mono ?_
          rintro e w3 ⟨rfl, hb3⟩
          have HD3 := hide ((unhide HD).trans (hb3.mono (unhide HD).size))
          clear hb3
          go_wp2_with fail
          refine hK.out _ _ ?_ (fun hHeld => ?_)
          · exact ⟨((unhide HD3).cell (p := ⟨go, i, none⟩) hgoq).trans x0, ((unhide HD3).cell (p := ⟨b, off + i * 4, none⟩) hblq).trans t0, ((unhide HD3).cell (p := ⟨b, off + i * 4 + 1, none⟩) hblq).trans t1, ((unhide HD3).cell (p := ⟨b, off + i * 4 + 2, none⟩) hblq).trans t2, ((unhide HD3).cell (p := ⟨b, off + i * 4 + 3, none⟩) hblq).trans t3, ((unhide HD3).cell (p := ⟨b, off + j * 4, none⟩) hblq).trans u0, ((unhide HD3).cell (p := ⟨b, off + j * 4 + 1, none⟩) hblq).trans u1, ((unhide HD3).cell (p := ⟨b, off + j * 4 + 2, none⟩) hblq).trans u2, ((unhide HD3).cell (p := ⟨b, off + j * 4 + 3, none⟩) hblq).trans u3⟩
          clear hK K
          (try simp only [Act.put, List.getElem_toArray, List.getElem_cons_succ, List.getElem_cons_zero, List.setIfInBounds_toArray, List.set_cons_zero, List.set_cons_succ])
          refine tkH 14 rfl ?_
          obtain ⟨⟨xb, hxb⟩, hfb, hGN, hBN⟩ := unhide HSTO w3 (unhide HD3)
          have RN := hide (And.intro hGN hBN)
          clear hGN hBN HSTO
          refine wpAnyH_ready (rs := [15]) (by kernel_rfl) (by simp) ?_
          refine AllReadyH.cons (o := _) rfl (fun K hK => ?_) AllReadyH.nil
          go_simp
          have T3 := (Touch.refl (fun x => x = gr) w3).setCell ⟨gr, j, none⟩ (.bool ab) (fun _ => rfl)
          have hk3 : ∀ (p : Addr) (v : Value), p.block < wr.heap.size → p.block < gr → w3.cell? p = some v → (w3.setCell ⟨gr, j, none⟩ (.bool ab)).cell? p = some v := fun p v hp hg hv => (T3.cell (p := p) (Nat.lt_of_lt_of_le hp (unhide HD3).size) (by omega)).trans hv
          refine hK.out _ _ ?_ (fun hHeld => ?_)
          · exact ⟨hk3 ⟨go, i, none⟩ _ hgoq hgrgo (((unhide HD3).cell (p := ⟨go, i, none⟩) hgoq).trans x0), hk3 ⟨b, off + i * 4, none⟩ _ hblq (Nat.lt_of_lt_of_le hbl hgr2) (((unhide HD3).cell (p := ⟨b, off + i * 4, none⟩) hblq).trans t0), hk3 ⟨b, off + i * 4 + 1, none⟩ _ hblq (Nat.lt_of_lt_of_le hbl hgr2) (((unhide HD3).cell (p := ⟨b, off + i * 4 + 1, none⟩) hblq).trans t1), hk3 ⟨b, off + i * 4 + 2, none⟩ _ hblq (Nat.lt_of_lt_of_le hbl hgr2) (((unhide HD3).cell (p := ⟨b, off + i * 4 + 2, none⟩) hblq).trans t2), hk3 ⟨b, off + i * 4 + 3, none⟩ _ hblq (Nat.lt_of_lt_of_le hbl hgr2) (((unhide HD3).cell (p := ⟨b, off + i * 4 + 3, none⟩) hblq).trans t3), hk3 ⟨b, off + j * 4, none⟩ _ hblq (Nat.lt_of_lt_of_le hbl hgr2) (((unhide HD3).cell (p := ⟨b, off + j * 4, none⟩) hblq).trans u0), hk3 ⟨b, off + j * 4 + 1, none⟩ _ hblq (Nat.lt_of_lt_of_le hbl hgr2) (((unhide HD3).cell (p := ⟨b, off + j * 4 + 1, none⟩) hblq).trans u1), hk3 ⟨b, off + j * 4 + 2, none⟩ _ hblq (Nat.lt_of_lt_of_le hbl hgr2) (((unhide HD3).cell (p := ⟨b, off + j * 4 + 2, none⟩) hblq).trans u2), hk3 ⟨b, off + j * 4 + 3, none⟩ _ hblq (Nat.lt_of_lt_of_le hbl hgr2) (((unhide HD3).cell (p := ⟨b, off + j * 4 + 3, none⟩) hblq).trans u3)⟩
          clear hK K
          (try simp only [Act.put, List.getElem_toArray, List.getElem_cons_succ, List.getElem_cons_zero, List.setIfInBounds_toArray, List.set_cons_zero, List.set_cons_succ])
          clear hk3 T3 HD3 HD hxb hfb t0 t1 t2 t3 u0 u1 u2 u3 x0
          refine wpAnyH_done (by kernel_rfl) (NoPanic.normal ?_) _
          go_wp2_with fail
          refine ⟨⟨j + 1, by omega, by go_num, (unhide RN).1, (unhide RN).2⟩, ?_⟩
          simp [intOf]; omega
        · obtain rfl : j = l.length := by omega
          rw [filB_all, unhide HPS] at hG
          have R := hide (And.intro hG hq)
          clear hG hq
          go_wp2_with fail
          refine ⟨⟨i + 1, rv2, by omega, by go_num, (unhide R).1, (unhide R).2⟩, ?_⟩
          simp [intOf]; omega
    · obtain rfl : i = l.length := by omega
      rw [preR_all] at hG
      have R := hide (And.intro hG hb)
      clear hG hb
      go_wp2_with fail
      refine bodyPost_ret (v := .tuple #[.slice (some ⟨go, 0, none⟩) l.length l.length, .int .i64 0]) (by simp [results, Try.results12, go_sem]) rfl ?_
      exact ⟨_, rv, rfl, (unhide R).1, (unhide R).2⟩
end Go.Proofs.Ytedfidpmehamdaa
