/- Histories: (impl.telling).with, walked. -/
import Derived.Test.YtedfidpmehamdaaHiC
import Derived.Deep.DeepCutAuto
namespace Go.Proofs.Ytedfidpmehamdaa
open Go.ChangeShapes Go.WideShapes Go.ChangeAt Go.RowKit Go.Deep
set_option linter.unusedVariables false
set_option linter.unusedSimpArgs false

/-- The value is an order: none yet, or a slice somewhere. -/
def OrdV (w : World) (v : Value) (o : List Int) : Prop := (v = .slice none 0 0 ∧ o = []) ∨ ∃ x c, v = .slice (some x) o.length c ∧ Ints w v o
theorem OrdV.ints {w : World} {v : Value} {o : List Int} (h : OrdV w v o) : Ints w v o := by
  rcases h with ⟨rfl, rfl⟩ | ⟨x, c, _, h⟩
  · exact ⟨none, 0, rfl, by unfold maxLen; simp, .inl rfl⟩
  · exact h
theorem OrdV.below {w w' : World} {v : Value} {o : List Int} (h : OrdV w v o) (hb : Below w.heap.size w w') : OrdV w' v o := by
  rcases h with h | ⟨x, c, e, h⟩
  · exact .inl h
  · exact .inr ⟨x, c, e, h.below hb⟩
theorem OrdV.shape {w : World} {v : Value} {o : List Int} (h : OrdV w v o) : ∃ a c, v = .slice a o.length c := by
  rcases h with ⟨rfl, rfl⟩ | ⟨x, c, e, h⟩
  · exact ⟨none, 0, rfl⟩
  · exact ⟨_, _, e⟩
theorem ordV_own {B : Nat} {w : World} {v : Value} {o : List Int} (h : OwnI B w v o) (ha : v.ownBlock ≠ none) : OrdV w v o := by
  rcases own_shape h with ⟨rfl, h0⟩ | ⟨g, cap, rfl, hb, hlt, hn, hm⟩
  · exact absurd rfl ha
  · refine .inr ⟨_, _, rfl, h.ints⟩
theorem clone_ord (v : Value) (o : List Int) (w : World) (h : OrdV w v o) (hl : o.length ≤ 4096) :
    Calls Try.prog 48 #[v] w fun e w' => ∃ r, e = .returned r ∧ OwnI w.heap.size w' r o ∧ Below w.heap.size w w' := by
  rcases h with ⟨rfl, rfl⟩ | ⟨x, c, rfl, h⟩
  · exact (cloneJ_nil w).mono fun e w' ⟨he, hw⟩ => ⟨_, he, World.ownsRow_nil w' _ 3 1, hw ▸ Below.refl _ _⟩
  · exact (cloneJ_any x c o w h hl).mono fun e w' ⟨g, c2, he, ho, _, hb⟩ => ⟨_, he, ho, hb⟩
theorem one_rwI (w : World) (n : Int) (B : Nat) (hB : w.heap.size = B) : Rw (w.alloc (.cells #[.int .i64 n] 3)) (.slice (some ⟨B, 0, none⟩) 1 1) 1 [.int .i64 n] := by
  subst hB
  refine ⟨_, _, rfl, .inr ⟨_, rfl, fun j u hu => ?_⟩⟩
  have N := Blk.new w #[.int .i64 n] 3 w.heap.size rfl
  have hadd : (⟨w.heap.size, 0, none⟩ : Addr).add j = ⟨w.heap.size, j, none⟩ := by unfold Addr.add; split <;> simp_all
  rw [hadd]
  exact N.cell j hu
theorem ownI_push {B : Nat} {w : World} {v : Value} {l : List Int} {n : Int} (h : w.ownsRow B 3 1 v (l.length + 1) (l.map (Value.int .i64) ++ [.int .i64 n])) : OwnI B w v (l ++ [n]) := by
  unfold OwnI
  rw [List.map_append, List.length_append]
  exact h

theorem grownT {w5 w6 : World} {r : Option Nat} (hg : w5.grownBy w6 r) : Touch (fun q => r = some q) w5 w6 := (Touch.refl _ w5).grown hg (fun q hq _ => hq)
set_option maxRecDepth 100000 in
set_option maxHeartbeats 2000000 in
theorem with_any (la : Option Addr) (lc : Nat) (l : List Op) (ov : Value) (va : ByteArray) (o : List Int) (p : Nat) (hp : p < l.length) (w : World) (hl : Ops w (.slice la l.length lc) l) (h : OrdV w ov o) (ho : o.length ≤ 4096) (hl7 : l.length ≤ 7) :
    Calls Try.prog 40 #[.agg #[.slice la l.length lc, ov, .string va], .int .i64 p] w fun e w' => ∃ r, e = .returned (.agg #[.slice la l.length lc, r, .string (nextV (l.getD p default) va)]) ∧ OwnI w.heap.size w' r (o ++ [(p : Int)]) ∧ r.ownBlock ≠ none ∧ Below w.heap.size w w' := by
  obtain ⟨i0, hi, hz0, hz1, hz2⟩ := info_parts info3
  obtain ⟨oa, oc, rfl⟩ := h.shape
  have HCL := hide (fun wx (hb : Below w.heap.size w wx) => clone_ord _ o wx (h.below hb) ho)
  obtain ⟨a', c', e9, hn, hm, hc⟩ := hl
  simp only [Value.slice.injEq] at e9
  obtain ⟨rfl, _, rfl⟩ := e9
  obtain ⟨b, off, rfl, hbl, hsrc⟩ : ∃ b off, la = some ⟨b, off, none⟩ ∧ b < w.heap.size ∧ ∀ i, i < l.length → w.cell? ⟨b, off + i * 4, none⟩ = some (.int .i64 (l.getD i default).bg) ∧ w.cell? ⟨b, off + i * 4 + 1, none⟩ = some (.int .i64 (l.getD i default).en) ∧ w.cell? ⟨b, off + i * 4 + 2, none⟩ = some (.bool (l.getD i default).wr) ∧ w.cell? ⟨b, off + i * 4 + 3, none⟩ = some (.string (l.getD i default).va) := by
    rcases hc with h0 | h1
    · omega
    · exact h1
  obtain ⟨s0, s1, s2, s3⟩ := hsrc p hp
  have HS2 := hide s2
  have HS3 := hide s3
  have hk0 : (0 : Int) ≤ (p : Int) := by omega
  have hk1 : (p : Int) < (l.length : Int) := by omega
  clear hc hn hm h hsrc s0 s1 s2 s3
  generalize l.getD p default = g at *
  obtain ⟨g0, g1, g2, g3⟩ := g
  dsimp only at HS2 HS3
  have B2 := hide (((Below.refl w.heap.size w).alloc (Nat.le_refl _) (.cells #[.slice (some ⟨b, off, none⟩) l.length lc, .slice oa o.length oc, .string va] 65)).alloc (by simp) (.cells #[.slice none 0 0, .slice none 0 0, .string ⟨#[]⟩] 65))
  have X2 := hide ((Blk.new w #[.slice (some ⟨b, off, none⟩) l.length lc, .slice oa o.length oc, .string va] 65 w.heap.size rfl).alloc (.cells #[.slice none 0 0, .slice none 0 0, .string ⟨#[]⟩] 65))
  have Y2 := hide (Blk.new (w.alloc (.cells #[.slice (some ⟨b, off, none⟩) l.length lc, .slice oa o.length oc, .string va] 65)) #[.slice none 0 0, .slice none 0 0, .string ⟨#[]⟩] 65 (w.heap.size + 1) (by simp))
  go_enter Try.func40, Try.ntmps40
  go_wp2_with fail
  generalize (w.alloc (.cells #[.slice (some ⟨b, off, none⟩) l.length lc, .slice oa o.length oc, .string va] 65)).alloc (.cells #[.slice none 0 0, .slice none 0 0, .string ⟨#[]⟩] 65) = w2 at *
  refine (unhide HCL w2 (unhide B2)).mono ?_
  rintro e w3 ⟨r1, rfl, hO3, hb3⟩
  have X3 := hide ((unhide X2).below hb3)
  have Y3 := hide ((unhide Y2).below hb3)
  have B3 := hide ((unhide B2).trans (hb3.mono (unhide B2).size))
  have Z3 := hide (And.intro (unhide Y2).1 (fun q hq => hO3.lt q hq))
  have O4 : Hid ((w3.alloc (.cells #[.int .i64 (p : Int)] 3)).ownsRow w2.heap.size 3 1 r1 o.length (o.map (Value.int .i64))) := hide (hO3.below ((Below.refl _ _).alloc (Nat.le_refl _) _))
  have HRW := hide (one_rwI w3 (p : Int) w3.heap.size rfl)
  have X4 := hide ((unhide X3).alloc (.cells #[.int .i64 (p : Int)] 3))
  have Y4 := hide ((unhide Y3).alloc (.cells #[.int .i64 (p : Int)] 3))
  have B4 := hide ((unhide B3).alloc (unhide B3).size (.cells #[.int .i64 (p : Int)] 3))
  have hBs : w2.heap.size ≤ (w3.alloc (.cells #[.int .i64 (p : Int)] 3)).heap.size := by have := hb3.size; simp; omega
  clear hb3 hO3 X2 Y2 B2 X3 Y3 HCL
  go_upto_region 2 with (at_builtin; refine wpList_append_row _ rfl _ _ _ rfl w2.heap.size 3 i0 _ 1 8 Try.underlying25 hi hz0 hz1 hz2 rfl (by omega) _ o.length (o.map (Value.int .i64)) rfl (unhide O4) _ 1 [.int .i64 (p : Int)] rfl (unhide HRW) rfl (by simp [Value.oneCell']) (by unfold maxLen; omega) (by omega) hBs ?_; intro a6 c6 w6 hown6 hgrow6 hat6; have XN6 := (unhide X4).kept (grownT hgrow6) (fun e => by have h1 := (unhide Z3).2 _ e; have h2 := (unhide Z3).1; omega); have x61 := XN6.cell 1 rfl; have y61 := XN6.fro 1; have R6 := hide (And.intro XN6 (And.intro hown6 (And.intro hgrow6 hat6))); clear hown6 hgrow6 hat6 XN6)
  obtain ⟨X6, own6, grow6, at6⟩ := unhide R6
  have hz3 := (unhide Z3).1
  have Y6 := (unhide Y4).kept (grownT grow6) (fun e => by have h1 := (unhide Z3).2 _ e; omega)
  have B6 := (unhide B4).grown grow6 (unhide B4).size (fun q hq => by have h1 := (unhide Z3).2 q hq; omega)
  have hw2 : w.heap.size ≤ w2.heap.size := by omega
  have O6 : OwnI w2.heap.size w6 (.slice a6 (o.length + 1) c6) (o ++ [(p : Int)]) := ownI_push own6
  obtain ⟨ga, hga⟩ : ∃ ga, a6 = some ⟨ga, 0, none⟩ := by
    rcases own_shape O6 with ⟨hv, h0⟩ | ⟨g, c, hv, _⟩
    · simp at h0
    · simp only [Value.slice.injEq] at hv
      exact ⟨g, hv.1⟩
  have HA : Hid ((Value.slice a6 (o.length + 1) c6).ownBlock = some ga) := hide (by rw [hga]; rfl)
  have X7 := hide (X6.set 1 (.slice a6 (o.length + 1) c6) (by simp))
  have Y7 := hide (Y6.other (C := w.heap.size) 1 (.slice a6 (o.length + 1) c6) (by omega))
  have B7 := hide (B6.setCell (p := ⟨w.heap.size, 1, none⟩) (Nat.le_refl _) (.slice a6 (o.length + 1) c6))
  have O7 := hide (O6.kept (T := fun x => x = w.heap.size) ((Touch.refl _ w6).setCell ⟨w.heap.size, 1, none⟩ (.slice a6 (o.length + 1) c6) (fun _ => rfl)) (fun q hq e => by have h1 := (O6.lt q hq).1; omega))
  have HZ := hide hz3
  clear X6 own6 grow6 at6 Y6 B6 O6 R6 x61 y61 hz3 B4 X4 Y4 O4 HRW B3 Z3 hBs hga
  generalize w6.setCell ⟨w.heap.size, 1, none⟩ (.slice a6 (o.length + 1) c6) = w7 at *
  have x0 := (unhide X7).cell 0 rfl
  have x1 := (unhide X7).cell 1 rfl
  have x2 := (unhide X7).cell 2 rfl
  have fx2 := (unhide X7).fro 2
  have c2 := ((unhide B7).cell (p := ⟨b, off + p * 4 + 2, none⟩) hbl).trans (unhide HS2)
  have c3 := ((unhide B7).cell (p := ⟨b, off + p * 4 + 3, none⟩) hbl).trans (unhide HS3)
  cases g2 with
  | true =>
    go_upto_region 4 with fail
    have hz3 := unhide HZ
    have X9 := (unhide X7).set 2 (.string g3) (by simp)
    have Y9 := (unhide Y7).other (C := w.heap.size) 2 (.string g3) (by omega)
    have B9 := (unhide B7).setCell (p := ⟨w.heap.size, 2, none⟩) (Nat.le_refl _) (.string g3)
    have O9 := (unhide O7).kept (T := fun x => x = w.heap.size) ((Touch.refl _ w7).setCell ⟨w.heap.size, 2, none⟩ (.string g3) (fun _ => rfl)) (fun q hq e => by have h1 := ((unhide O7).lt q hq).1; omega)
    clear X7 Y7 B7 O7 x0 x1 x2 fx2 c2 c3 HS2 HS3
    generalize w7.setCell ⟨w.heap.size, 2, none⟩ (.string g3) = w9 at *
    have z := ((Y9.set 0 (.slice (some ⟨b, off, none⟩) l.length lc) (by simp)).set 1 (.slice a6 (o.length + 1) c6) (by simp)).set 2 (.string g3) (by simp)
    have y90 := Y9.cell 0 rfl
    have y91 := Y9.cell 1 rfl
    have y92 := Y9.cell 2 rfl
    have fy90 := Y9.fro 0
    have fy91 := Y9.fro 1
    have fy92 := Y9.fro 2
    have x90 := X9.cell 0 rfl
    have x91 := X9.cell 1 rfl
    have x92 := X9.cell 2 rfl
    have B10 := hide (((B9.setCell (p := ⟨w.heap.size + 1, 0, none⟩) (by simp) (.slice (some ⟨b, off, none⟩) l.length lc)).setCell (p := ⟨w.heap.size + 1, 1, none⟩) (by simp) (.slice a6 (o.length + 1) c6)).setCell (p := ⟨w.heap.size + 1, 2, none⟩) (by simp) (.string g3))
    have T10 := ((((Touch.refl (fun x => x = w.heap.size + 1) w9).setCell ⟨w.heap.size + 1, 0, none⟩ (.slice (some ⟨b, off, none⟩) l.length lc) (fun _ => rfl)).setCell ⟨w.heap.size + 1, 1, none⟩ (.slice a6 (o.length + 1) c6) (fun _ => rfl)).setCell ⟨w.heap.size + 1, 2, none⟩ (.string g3) (fun _ => rfl))
    have O10 := hide (OwnI.mono (O9.kept T10 (fun q hq e => by have h1 := (O9.lt q hq).1; omega)) hw2)
    have z0 := z.cell 0 rfl
    have z1 := z.cell 1 rfl
    have z2 := z.cell 2 rfl
    clear z X9 Y9 B9 O9 T10
    go_wp2_with fail
    refine bodyPost_ret (v := .agg #[.slice (some ⟨b, off, none⟩) l.length lc, .slice a6 (o.length + 1) c6, .string g3]) (by simp [results, Try.results40, go_sem, z0, z1, z2]) rfl ?_
    exact ⟨_, rfl, unhide O10, by rw [unhide HA]; simp, unhide B10⟩
  | false =>
    have hz3 := unhide HZ
    have X9 := unhide X7
    have Y9 := unhide Y7
    have B9 := unhide B7
    have O9 := unhide O7
    go_upto_region 4 with fail
    clear X7 Y7 B7 O7 x0 x1 x2 fx2 c2 c3 HS2 HS3
    have z := ((Y9.set 0 (.slice (some ⟨b, off, none⟩) l.length lc) (by simp)).set 1 (.slice a6 (o.length + 1) c6) (by simp)).set 2 (.string va) (by simp)
    have y90 := Y9.cell 0 rfl
    have y91 := Y9.cell 1 rfl
    have y92 := Y9.cell 2 rfl
    have fy90 := Y9.fro 0
    have fy91 := Y9.fro 1
    have fy92 := Y9.fro 2
    have x90 := X9.cell 0 rfl
    have x91 := X9.cell 1 rfl
    have x92 := X9.cell 2 rfl
    have B10 := hide (((B9.setCell (p := ⟨w.heap.size + 1, 0, none⟩) (by simp) (.slice (some ⟨b, off, none⟩) l.length lc)).setCell (p := ⟨w.heap.size + 1, 1, none⟩) (by simp) (.slice a6 (o.length + 1) c6)).setCell (p := ⟨w.heap.size + 1, 2, none⟩) (by simp) (.string va))
    have T10 := ((((Touch.refl (fun x => x = w.heap.size + 1) w7).setCell ⟨w.heap.size + 1, 0, none⟩ (.slice (some ⟨b, off, none⟩) l.length lc) (fun _ => rfl)).setCell ⟨w.heap.size + 1, 1, none⟩ (.slice a6 (o.length + 1) c6) (fun _ => rfl)).setCell ⟨w.heap.size + 1, 2, none⟩ (.string va) (fun _ => rfl))
    have O10 := hide (OwnI.mono (O9.kept T10 (fun q hq e => by have h1 := (O9.lt q hq).1; omega)) hw2)
    have z0 := z.cell 0 rfl
    have z1 := z.cell 1 rfl
    have z2 := z.cell 2 rfl
    clear z X9 Y9 B9 O9 T10
    go_wp2_with fail
    refine bodyPost_ret (v := .agg #[.slice (some ⟨b, off, none⟩) l.length lc, .slice a6 (o.length + 1) c6, .string va]) (by simp [results, Try.results40, go_sem, z0, z1, z2]) rfl ?_
    exact ⟨_, rfl, unhide O10, by rw [unhide HA]; simp, unhide B10⟩
end Go.Proofs.Ytedfidpmehamdaa
