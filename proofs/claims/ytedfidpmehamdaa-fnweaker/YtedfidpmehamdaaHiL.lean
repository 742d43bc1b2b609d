/- Histories: both OpsAhead, walked. (Written by py/hil.py.) -/
import Derived.Test.YtedfidpmehamdaaHiE
import Derived.Test.YtedfidpmehamdaaHiB
import Derived.Test.YtedfidpmehamdaaGdM
import Derived.Test.YtedfidpmehamdaaTk
import Derived.Deep.RegionHeld3
namespace Go.Proofs.Ytedfidpmehamdaa
open Go.ChangeShapes Go.WideShapes Go.ChangeAt Go.RowKit Go.Deep
set_option linter.unusedVariables false
set_option linter.unusedSimpArgs false

def ahRow (l : List Op) (i k : Nat) : List Bool := (List.range k).map fun (j : Nat) => ahB (l.getD i default) (l.getD j default)
def ahRows (l : List Op) (n : Nat) : List (List Bool) := (List.range n).map fun (i : Nat) => ahRow l i l.length
def oaOut (l : List Op) : List (List Bool) × Int := if ofC l ≠ 0 then ([], ofC l) else (ahRows l l.length, 0)
theorem ahRow_len (l : List Op) (i k : Nat) : (ahRow l i k).length = k := by simp [ahRow]
theorem ahRows_len (l : List Op) (n : Nat) : (ahRows l n).length = n := by simp [ahRows]
theorem ahRow_succ (l : List Op) (i k : Nat) : ahRow l i (k + 1) = ahRow l i k ++ [ahB (l.getD i default) (l.getD k default)] := by
  unfold ahRow; rw [List.range_succ, List.map_append]; rfl
theorem ahRows_succ (l : List Op) (n : Nat) : ahRows l (n + 1) = ahRows l n ++ [ahRow l n l.length] := by
  unfold ahRows; rw [List.range_succ, List.map_append]; rfl
theorem ahRows_get (l : List Op) (n i : Nat) (h : i < n) : (ahRows l n).getD i [] = ahRow l i l.length := by simp [ahRows, List.getD_eq_getElem?_getD, h]
theorem oa_small (l : List Op) : (oaOut l).1.length ≤ 7 ∧ ∀ i, i < (oaOut l).1.length → ((oaOut l).1.getD i []).length ≤ 7 := by
  unfold oaOut
  by_cases h : ofC l ≠ 0
  · rw [if_pos h]; simp
  · rw [if_neg h]
    have h7 := (opsB_at (ofC_zero (l := l) (by omega))).1
    refine ⟨by simp only [ahRows_len]; omega, fun i hi => ?_⟩
    simp only [ahRows_len] at hi
    rw [ahRows_get l _ i hi, ahRow_len]; omega
theorem cntR_small (ls : List (List Bool)) (h : ∀ i, i < ls.length → (ls.getD i []).length ≤ 7) : ∀ k, k ≤ ls.length → cntR ls k ≤ 7 * k
  | 0, _ => Nat.le_refl _
  | k + 1, hk => by
    have := cntR_small ls h k (by omega)
    have := h k (by omega)
    show cntR ls k + _ ≤ _
    omega
theorem ownBo_push {B : Nat} {w : World} {v : Value} {l : List Bool} {x : Bool} (h : w.ownsRow B 4 1 v (l.length + 1) (l.map Value.bool ++ [.bool x])) : OwnBo B w v (l ++ [x]) := by
  unfold OwnBo
  rw [List.map_append, List.length_append]
  exact h
theorem one_rwV (w : World) (x : Value) (t B : Nat) (hB : w.heap.size = B) : Rw (w.alloc (.cells #[x] t)) (.slice (some ⟨B, 0, none⟩) 1 1) 1 [x] := by
  subst hB
  refine ⟨_, _, rfl, .inr ⟨_, rfl, fun j u hu => ?_⟩⟩
  have N := Blk.new w #[x] t w.heap.size rfl
  have hadd : (⟨w.heap.size, 0, none⟩ : Addr).add j = ⟨w.heap.size, j, none⟩ := by unfold Addr.add; split <;> simp_all
  rw [hadd]
  exact N.cell j hu
theorem OwnBo.sl {B : Nat} {w : World} {v : Value} {l : List Bool} (h : OwnBo B w v l) : ∃ a c, v = .slice a l.length c := by
  rcases own_shape h with ⟨rfl, h0⟩ | ⟨g, cap, rfl, _⟩
  · exact ⟨none, 0, by rw [h0]⟩
  · exact ⟨_, _, rfl⟩
theorem bo_empty (w : World) (B X : Nat) (hX : w.heap.size = X) (hB : B ≤ X) : OwnBo B (w.alloc (.cells #[] 4)) (.slice (some ⟨X, 0, none⟩) 0 0) [] := by
  subst hX
  exact World.ownsRow_made w #[] 0 hB (by unfold maxLen; omega) rfl
theorem gd_empty (w : World) (B X : Nat) (hX : w.heap.size = X) (hB : B ≤ X) : Gd B (w.alloc (.cells #[] 37)) (.slice (some ⟨X, 0, none⟩) 0 0) [] [] := by
  subst hX
  exact ⟨World.ownsRow_made w #[] 0 hB (by unfold maxLen; omega) rfl, rfl, fun i hi => by simp at hi, fun i hi => by simp at hi, fun i j hi => by simp at hi⟩
set_option maxRecDepth 100000 in
set_option maxHeartbeats 2000000 in
theorem specOpsAhead_any (v : Value) (l : List Op) (w : World) (h : Ops w v l) (hs : l.length ≤ 1048576) :
    Calls Try.prog 13 #[v] w fun e w' => ∃ r rv, e = .returned (.tuple #[r, .int .i64 (oaOut l).2]) ∧ Gd w.heap.size w' r rv (oaOut l).1 ∧ Below w.heap.size w w' := by
  have HOF := hide (specOpsOK_any v l w h hs)
  obtain ⟨i0, hi, hz0, hz1, hz2⟩ := info_parts4
  obtain ⟨i1, hj, hy0, hy1, hy2⟩ := info_parts infoB
  obtain ⟨la, lc, rfl, hn9, hm9, hc⟩ := h
  have HC : Hid (l.length = 0 ∨ ∃ b off, la = some ⟨b, off, none⟩ ∧ b < w.heap.size ∧ ∀ i, i < l.length → w.cell? ⟨b, off + i * 4, none⟩ = some (.int .i64 (l.getD i default).bg) ∧ w.cell? ⟨b, off + i * 4 + 1, none⟩ = some (.int .i64 (l.getD i default).en) ∧ w.cell? ⟨b, off + i * 4 + 2, none⟩ = some (.bool (l.getD i default).wr) ∧ w.cell? ⟨b, off + i * 4 + 3, none⟩ = some (.string (l.getD i default).va)) := hide hc
  clear hc hn9 hm9
  by_cases h4 : 4096 < l.length
  · have E : oaOut l = ([], 2) := by unfold oaOut ofC; rw [if_pos h4]; rfl
    have h5 : (4096 : Int) < (l.length : Int) := by omega
    rw [E]
    go_enter Try.func13, Try.ntmps13
    go_wp2_with fail
    refine bodyPost_ret (v := .tuple #[.slice (some ⟨w.heap.size, 0, none⟩) 0 0, .int .i64 2]) (by simp [results, Try.results13, go_sem]) rfl ?_
    exact ⟨_, [], rfl, gd_empty w w.heap.size w.heap.size rfl (Nat.le_refl _), (Below.refl _ _).alloc (Nat.le_refl _) _⟩
  have h5 : ¬ (4096 : Int) < (l.length : Int) := by omega
  cases hok : opsB l with
  | false =>
    have E : oaOut l = ([], 1) := by unfold oaOut ofC; rw [if_neg h4, hok]; rfl
    rw [E]
    rw [hok] at HOF
    go_enter Try.func13, Try.ntmps13
    go_wp2_with fail
    refine (unhide HOF).mono ?_
    rintro e w1 ⟨rfl, hb1⟩
    have B1 := hide hb1
    clear hb1
    go_wp2_with fail
    refine bodyPost_ret (v := .tuple #[.slice (some ⟨w1.heap.size, 0, none⟩) 0 0, .int .i64 1]) (by simp [results, Try.results13, go_sem]) rfl ?_
    exact ⟨_, [], rfl, gd_empty w1 w.heap.size w1.heap.size rfl (unhide B1).size, (unhide B1).alloc (unhide B1).size _⟩
  | true =>
    have E : oaOut l = (ahRows l l.length, 0) := by unfold oaOut ofC; rw [if_neg h4, hok]; rfl
    have hl7 := (opsB_at hok).1
    rw [E]
    rw [hok] at HOF
    clear E hok h4
    go_enter Try.func13, Try.ntmps13
    go_wp2_with fail
    refine (unhide HOF).mono ?_
    rintro e w1 ⟨rfl, hb1⟩
    have B1 := hide (hb1.alloc hb1.size (.cells #[] 37))
    have G1 := hide (gd_empty w1 w.heap.size w1.heap.size rfl hb1.size)
    clear hb1
    go_wp2_with fail
    generalize w1.alloc (.cells #[] 37) = w2 at *
    go_loopw [4, 5] (fun vo iv wr => ∃ (i : Nat) (rv : List Value), i ≤ l.length ∧ iv = .int .i64 i ∧ Gd w.heap.size wr vo rv (ahRows l i) ∧ Below w.heap.size w wr) (fun _ iv _ => l.length - (intOf iv).toNat)
    case atStart => exact ⟨0, [], Nat.zero_le _, rfl, unhide G1, unhide B1⟩
    case round =>
      obtain ⟨i, rv, hil, rfl, hG, hb⟩ := hrel
      by_cases hlt : i < l.length
      · obtain ⟨b, off, rfl, hbl, hsrc⟩ : ∃ b off, la = some ⟨b, off, none⟩ ∧ b < w.heap.size ∧ ∀ i, i < l.length → w.cell? ⟨b, off + i * 4, none⟩ = some (.int .i64 (l.getD i default).bg) ∧ w.cell? ⟨b, off + i * 4 + 1, none⟩ = some (.int .i64 (l.getD i default).en) ∧ w.cell? ⟨b, off + i * 4 + 2, none⟩ = some (.bool (l.getD i default).wr) ∧ w.cell? ⟨b, off + i * 4 + 3, none⟩ = some (.string (l.getD i default).va) := by
          rcases unhide HC with h0 | h1
          · omega
          · exact h1
        have HSRC := hide hsrc
        have p0 : (0 : Int) ≤ (i : Int) := by omega
        have p1 : (i : Int) < (l.length : Int) := by omega
        have HG := hide hG
        have HB := hide hb
        have hbs := hb.size
        have O0 := hide (bo_empty wr wr.heap.size wr.heap.size rfl (Nat.le_refl _))
        have BA := hide ((Below.refl wr.heap.size wr).alloc (Nat.le_refl _) (.cells #[] 4))
        obtain ⟨W, hW⟩ : ∃ W, W = wr := ⟨_, rfl⟩
        rw [← hW] at HG HB hbs O0 BA ⊢
        clear hW hG hb hsrc
        go_wp2_with fail
        go_loopw [6, 7] (fun vr jv wq => ∃ (j : Nat), j ≤ l.length ∧ jv = .int .i64 j ∧ OwnBo W.heap.size wq vr (ahRow l i j) ∧ Below W.heap.size W wq) (fun _ jv _ => l.length - (intOf jv).toNat)
        case atStart => exact ⟨0, Nat.zero_le _, rfl, unhide O0, unhide BA⟩
        case round =>
          obtain ⟨j, hjl, rfl, hO, hq⟩ := hrel
          by_cases hjlt : j < l.length
          · have hblW : b < W.heap.size := Nat.lt_of_lt_of_le hbl hbs
            have hblq : b < wr.heap.size := Nat.lt_of_lt_of_le hblW hq.size
            have hwq := (unhide HB).trans (hq.mono hbs)
            obtain ⟨s0, s1, s2, s3⟩ := unhide HSRC i hlt
            obtain ⟨k0, k1, k2, k3⟩ := unhide HSRC j hjlt
            have t0 := (hwq.cell (p := ⟨b, off + i * 4, none⟩) hbl).trans s0
            have u0 := (hwq.cell (p := ⟨b, off + j * 4, none⟩) hbl).trans k0
            have t1 := (hwq.cell (p := ⟨b, off + i * 4 + 1, none⟩) hbl).trans s1
            have u1 := (hwq.cell (p := ⟨b, off + j * 4 + 1, none⟩) hbl).trans k1
            have t2 := (hwq.cell (p := ⟨b, off + i * 4 + 2, none⟩) hbl).trans s2
            have u2 := (hwq.cell (p := ⟨b, off + j * 4 + 2, none⟩) hbl).trans k2
            have t3 := (hwq.cell (p := ⟨b, off + i * 4 + 3, none⟩) hbl).trans s3
            have u3 := (hwq.cell (p := ⟨b, off + j * 4 + 3, none⟩) hbl).trans k3
            have r0 : (0 : Int) ≤ (j : Int) := by omega
            have r1 : (j : Int) < (l.length : Int) := by omega
            have HSU := hide (ahRow_succ l i j)
            have hrl := ahRow_len l i j
            have HAH := hide (fun wx => l14Ahead_any (l.getD i default) (l.getD j default) wx)
            have HO := hide hO
            have HQ := hide hq
            obtain ⟨xa, xc, hxv⟩ := hO.sl
            clear s0 s1 s2 s3 k0 k1 k2 k3 hO hq hwq
            generalize l.getD i default = f at *
            generalize l.getD j default = g at *
            generalize ahB f g = ab at *
            generalize ahRow l i j = rw0 at *
            rw [hrl] at hxv
            subst hxv
            obtain ⟨f0, f1, f2, f3⟩ := f
            obtain ⟨g0, g1, g2, g3⟩ := g
            dsimp only at t0 t1 t2 t3 u0 u1 u2 u3 HAH
            have HD := hide (below_drewN (Below.refl wr.heap.size wr) 1)
            change Hid (Below wr.heap.size wr wr.drew) at HD
            go_wp2_with fail
            refine wp_region_noPanic ?_
            refine wp_region_held_drew (S := (fun wx => wx.cell? ⟨b, off + i * 4, none⟩ = some (.int .i64 f0) ∧ wx.cell? ⟨b, off + i * 4 + 1, none⟩ = some (.int .i64 f1) ∧ wx.cell? ⟨b, off + i * 4 + 2, none⟩ = some (.bool f2) ∧ wx.cell? ⟨b, off + i * 4 + 3, none⟩ = some (.string f3) ∧ wx.cell? ⟨b, off + j * 4, none⟩ = some (.int .i64 g0) ∧ wx.cell? ⟨b, off + j * 4 + 1, none⟩ = some (.int .i64 g1) ∧ wx.cell? ⟨b, off + j * 4 + 2, none⟩ = some (.bool g2) ∧ wx.cell? ⟨b, off + j * 4 + 3, none⟩ = some (.string g3))) (by kernel_rfl) ?_ (fun hHeld => ?_)
            · exact ⟨t0, t1, t2, t3, u0, u1, u2, u3⟩
            obtain ⟨wd, hwd⟩ : ∃ wd, wd = wr.drew := ⟨_, rfl⟩
            rw [← hwd] at HD hHeld ⊢
            clear hwd
            refine tkH 0 rfl ?_
            refine tkH 1 rfl ?_
            refine tkH 2 rfl ?_
            refine tkH 3 rfl ?_
            refine tkH 4 rfl ?_
            refine tkH 5 rfl ?_
            refine tkH 6 rfl ?_
            refine tkH 7 rfl ?_
            refine tkH 8 rfl ?_
            refine wpAnyH_ready (rs := [9]) (by kernel_rfl) (by simp) ?_
            refine AllReadyH.cons (o := _) rfl (fun K hK => ?_) AllReadyH.nil
            go_simp
            refine (unhide HAH wd).mono ?_
            rintro e w3 ⟨rfl, hb3⟩
            have HD3 := hide ((unhide HD).trans (hb3.mono (unhide HD).size))
            clear hb3
            go_wp2_with fail
            refine hK.out _ _ ?_ (fun hHeld => ?_)
            · exact ⟨((unhide HD3).cell (p := ⟨b, off + i * 4, none⟩) hblq).trans t0, ((unhide HD3).cell (p := ⟨b, off + i * 4 + 1, none⟩) hblq).trans t1, ((unhide HD3).cell (p := ⟨b, off + i * 4 + 2, none⟩) hblq).trans t2, ((unhide HD3).cell (p := ⟨b, off + i * 4 + 3, none⟩) hblq).trans t3, ((unhide HD3).cell (p := ⟨b, off + j * 4, none⟩) hblq).trans u0, ((unhide HD3).cell (p := ⟨b, off + j * 4 + 1, none⟩) hblq).trans u1, ((unhide HD3).cell (p := ⟨b, off + j * 4 + 2, none⟩) hblq).trans u2, ((unhide HD3).cell (p := ⟨b, off + j * 4 + 3, none⟩) hblq).trans u3⟩
            clear hK K
            (try simp only [Act.put, List.getElem_toArray, List.getElem_cons_succ, List.getElem_cons_zero, List.setIfInBounds_toArray, List.set_cons_zero, List.set_cons_succ])
            refine wpAnyH_ready (rs := [10]) (by kernel_rfl) (by simp) ?_
            refine AllReadyH.cons (o := _) rfl (fun K hK => ?_) AllReadyH.nil
            go_simp
            have HD4 := hide ((unhide HD3).alloc (unhide HD3).size (.cells #[.bool ab] 4))
            refine hK.out _ _ ?_ (fun hHeld => ?_)
            · exact ⟨((unhide HD4).cell (p := ⟨b, off + i * 4, none⟩) hblq).trans t0, ((unhide HD4).cell (p := ⟨b, off + i * 4 + 1, none⟩) hblq).trans t1, ((unhide HD4).cell (p := ⟨b, off + i * 4 + 2, none⟩) hblq).trans t2, ((unhide HD4).cell (p := ⟨b, off + i * 4 + 3, none⟩) hblq).trans t3, ((unhide HD4).cell (p := ⟨b, off + j * 4, none⟩) hblq).trans u0, ((unhide HD4).cell (p := ⟨b, off + j * 4 + 1, none⟩) hblq).trans u1, ((unhide HD4).cell (p := ⟨b, off + j * 4 + 2, none⟩) hblq).trans u2, ((unhide HD4).cell (p := ⟨b, off + j * 4 + 3, none⟩) hblq).trans u3⟩
            clear hK K
            (try simp only [Act.put, List.getElem_toArray, List.getElem_cons_succ, List.getElem_cons_zero, List.setIfInBounds_toArray, List.set_cons_zero, List.set_cons_succ])
            refine wpAnyH_ready (rs := [11]) (by kernel_rfl) (by simp) ?_
            refine AllReadyH.cons (o := _) rfl (fun K hK => ?_) AllReadyH.nil
            have O4 := (unhide HO).below (unhide HD4)
            have HRW := one_rwV w3 (.bool ab) 4 w3.heap.size rfl
            refine step_append_row rfl _ _ _ rfl W.heap.size 4 i0 _ 1 1 Try.underlying37 hi hz0 hz1 hz2 rfl (by omega) _ j (rw0.map Value.bool) rfl (by have h9 := O4; unfold OwnBo at h9; rw [hrl] at h9; exact h9) _ 1 [.bool ab] rfl HRW rfl (by simp [Value.oneCell']) (by unfold maxLen; omega) (by omega) (by have h8 := (unhide HQ).size; have h9 := (unhide HD4).size; omega) ?_
            intro a5 c5 w5 hown5 hgrow5 hat5
            have hT5 := (Touch.refl _ _).grown hgrow5 (fun q hq _ => hq)
            have hc5 : ∀ (p : Addr) (v : Value), p.block < W.heap.size → (w3.alloc (.cells #[.bool ab] 4)).cell? p = some v → w5.cell? p = some v := fun p v hp hv => (hT5.cell (p := p) (by have h8 := (unhide HQ).size; have h9 := (unhide HD4).size; omega) (fun e => by have := (unhide HO).lt p.block e; omega)).trans hv
            have hQ5 := (((unhide HQ).trans ((unhide HD4).mono (unhide HQ).size))).grown hgrow5 (by have h8 := (unhide HQ).size; have h9 := (unhide HD4).size; omega) (fun q hq => ((unhide HO).lt q hq).1)
            have hO5 : OwnBo W.heap.size w5 (.slice a5 (j + 1) c5) (rw0 ++ [ab]) := ownBo_push (by rw [hrl]; exact hown5)
            refine hK.out _ _ ?_ (fun hHeld => ?_)
            · exact ⟨hc5 ⟨b, off + i * 4, none⟩ _ hblW (((unhide HD4).cell (p := ⟨b, off + i * 4, none⟩) hblq).trans t0), hc5 ⟨b, off + i * 4 + 1, none⟩ _ hblW (((unhide HD4).cell (p := ⟨b, off + i * 4 + 1, none⟩) hblq).trans t1), hc5 ⟨b, off + i * 4 + 2, none⟩ _ hblW (((unhide HD4).cell (p := ⟨b, off + i * 4 + 2, none⟩) hblq).trans t2), hc5 ⟨b, off + i * 4 + 3, none⟩ _ hblW (((unhide HD4).cell (p := ⟨b, off + i * 4 + 3, none⟩) hblq).trans t3), hc5 ⟨b, off + j * 4, none⟩ _ hblW (((unhide HD4).cell (p := ⟨b, off + j * 4, none⟩) hblq).trans u0), hc5 ⟨b, off + j * 4 + 1, none⟩ _ hblW (((unhide HD4).cell (p := ⟨b, off + j * 4 + 1, none⟩) hblq).trans u1), hc5 ⟨b, off + j * 4 + 2, none⟩ _ hblW (((unhide HD4).cell (p := ⟨b, off + j * 4 + 2, none⟩) hblq).trans u2), hc5 ⟨b, off + j * 4 + 3, none⟩ _ hblW (((unhide HD4).cell (p := ⟨b, off + j * 4 + 3, none⟩) hblq).trans u3)⟩
            clear hK K
            (try simp only [Act.put, List.getElem_toArray, List.getElem_cons_succ, List.getElem_cons_zero, List.setIfInBounds_toArray, List.set_cons_zero, List.set_cons_succ])
            have R5 := hide (And.intro hO5 hQ5)
            clear hO5 hQ5 hc5 hT5 hown5 hgrow5 hat5 O4 HRW HD3 HD4 HD t0 t1 t2 t3 u0 u1 u2 u3
            refine tkH 12 rfl ?_
            refine wpAnyH_done (by kernel_rfl) (NoPanic.normal ?_) _
            go_wp2_with fail
            refine ⟨⟨j + 1, by omega, by go_num, by rw [unhide HSU]; exact (unhide R5).1, (unhide R5).2⟩, ?_⟩
            simp [intOf]; omega
          · obtain rfl : j = l.length := by omega
            have HSU := hide (ahRows_succ l i)
            obtain ⟨xa, xc, hxv⟩ := hO.sl
            rw [ahRow_len] at hxv
            have hgq := (unhide HG).below hq
            have hwq := (unhide HB).trans (hq.mono hbs)
            have hrl := ahRows_len l i
            have hrv : rv.length = i := by rw [hgq.ln, hrl]
            have HGQ := hide hgq
            have HWQ := hide hwq
            have HO := hide hO
            have HQ := hide hq
            have O4 : Hid ((wr.alloc (.cells #[u6] 37)).ownsRow w.heap.size 37 1 u4 i rv) := hide (by have h9 := (hgq.below ((Below.refl _ _).alloc (Nat.le_refl _) (.cells #[u6] 37))).row; rw [hrv] at h9; exact h9)
            have HRW := hide (one_rwV wr u6 37 wr.heap.size rfl)
            have HBs := hide (show w.heap.size ≤ (wr.alloc (.cells #[u6] 37)).heap.size from (hwq.alloc hwq.size _).size)
            have H1C : Hid (∀ u ∈ [u6], u.oneCell' = true) := hide (by intro u hu; simp only [List.mem_singleton] at hu; subst hu; rw [hxv]; rfl)
            clear hgq hwq hO hq
            generalize ahRows l i = rows at *
            generalize ahRow l i l.length = row at *
            subst hxv
            go_wp2_with (at_builtin; refine wpList_append_row _ rfl _ _ _ rfl w.heap.size 37 i1 _ 1 24 Try.underlying34 hj hy0 hy1 hy2 rfl (by omega) _ i rv rfl (unhide O4) _ 1 [_] rfl (unhide HRW) rfl (unhide H1C) (by unfold maxLen; omega) (by omega) (unhide HBs) ?_; intro a6 c6 w6 hown6 hgrow6 hat6; have R6 := hide (And.intro hown6 (And.intro hgrow6 hat6)); clear hown6 hgrow6 hat6)
            obtain ⟨hown6, hgrow6, hat6'⟩ := unhide R6
            have hat6 : (Value.slice a6 (i + 1) c6).ownBlock = u4.ownBlock ∨ (Value.slice a6 (i + 1) c6).ownBlock = some (wr.alloc (.cells #[.slice xa l.length xc] 37)).heap.size := hat6'
            obtain ⟨ga, cg, hga⟩ : ∃ ga cg, Value.slice a6 (i + 1) c6 = .slice (some ⟨ga, 0, none⟩) (rv.length + 1) cg := by
              rcases own_shape hown6 with ⟨_, h0⟩ | ⟨g, c, hv, _⟩
              · omega
              · rw [hrv]; exact ⟨g, c, hv⟩
            have hgw := (unhide HGQ).below ((Below.refl wr.heap.size wr).alloc (Nat.le_refl _) (.cells #[.slice xa l.length xc] 37))
            have hqs := (unhide HQ).size
            have hG6 := hgw.push (g := ga) (cap := cg) (w' := w6) (r := .slice xa l.length xc) (l' := row) ((Touch.refl _ _).grown hgrow6 (fun q hq _ => hq)) (by rw [← hga, hrv]; exact hown6) (((unhide HO).below ((Below.refl wr.heap.size wr).alloc (Nat.le_refl _) _)).kept ((Touch.refl _ _).grown hgrow6 (fun q hq _ => hq)) (fun k hk e => by
              have h1 := (unhide HO).lt k hk
              have h2 := (unhide HG).lt k (.inl e)
              omega) |>.down hbs) (by
              rw [hga] at hat6
              rcases hat6 with h | h
              · exact .inl (by rw [← h]; rfl)
              · right
                have : ga = (wr.alloc (.cells #[.slice xa l.length xc] 37)).heap.size := by simpa [Value.ownBlock] using h
                omega) (fun e => by
              have h1 := (unhide HO).lt ga e
              rw [hga] at hat6
              rcases hat6 with h | h
              · have h2 := (unhide HG).lt ga (.inl (by rw [← h]; rfl))
                omega
              · have : ga = (wr.alloc (.cells #[.slice xa l.length xc] 37)).heap.size := by simpa [Value.ownBlock] using h
                simp at this
                omega) (fun q hq k hk e => by
              have h1 := (unhide HO).lt k e
              have h2 := (unhide HG).lt k (.inr ⟨q, hq, hk⟩)
              omega)
            rw [← hga] at hG6
            have hB6 := ((unhide HWQ).alloc (unhide HWQ).size _).grown hgrow6 (unhide HBs) (fun q hq => ((unhide HG).lt q (.inl hq)).1)
            refine ⟨⟨i + 1, rv ++ [.slice xa l.length xc], by omega, by go_num, by rw [unhide HSU]; exact hG6, hB6⟩, ?_⟩
            simp [intOf]; omega
      · obtain rfl : i = l.length := by omega
        have R := hide (And.intro hG hb)
        clear hG hb
        go_wp2_with fail
        refine bodyPost_ret (v := .tuple #[u4, .int .i64 0]) (by simp [results, Try.results13, go_sem]) rfl ?_
        exact ⟨_, rv, rfl, (unhide R).1, (unhide R).2⟩
end Go.Proofs.Ytedfidpmehamdaa
