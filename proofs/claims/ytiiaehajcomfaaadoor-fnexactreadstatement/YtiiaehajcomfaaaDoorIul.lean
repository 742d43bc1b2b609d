/- What the specification says is hashed on the way up: pure; spec.l15Inputs. -/
import Derived.Test.YtiiaehajcomfaaaDoorIup
namespace Go.Proofs.YtiiaehajcomfaaaDoor.Sha
open Go.ChangeShapes Go.WideShapes Go.ChangeAt Go.RowKit
set_option linter.unusedVariables false
set_option linter.unusedSimpArgs false

/-- What the specification gathers on the way up. -/
def iuV (leaf : ByteArray) (p n : Nat) (pr : List ByteArray) : List ByteArray :=
  if h : n < 2 ∨ 64 < n then []
  else if pr.length = 0 then []
  else if p < half n then iuV leaf p (half n) (pr.take (pr.length - 1)) ++ [nodeI (upV leaf p (half n) (pr.take (pr.length - 1))).1 (pr.getD (pr.length - 1) ByteArray.empty)]
  else iuV leaf (p - half n) (n - half n) (pr.take (pr.length - 1)) ++ [nodeI (pr.getD (pr.length - 1) ByteArray.empty) (upV leaf (p - half n) (n - half n) (pr.take (pr.length - 1))).1]
termination_by n
decreasing_by
  all_goals
    have := half_facts (n := n) (by omega) (by omega)
    omega
theorem iuV_one (leaf : ByteArray) (p : Nat) (pr : List ByteArray) : iuV leaf p 1 pr = [] := by rw [iuV, dif_pos (by omega)]
theorem iuV_none {leaf : ByteArray} {p n : Nat} {pr : List ByteArray} (h : 2 ≤ n) (h2 : n ≤ 64) (h0 : pr.length = 0) : iuV leaf p n pr = [] := by rw [iuV, dif_neg (by omega), if_pos h0]
theorem iuV_lo {leaf : ByteArray} {p n : Nat} {pr : List ByteArray} (h : 2 ≤ n) (h2 : n ≤ 64) (h0 : ¬ pr.length = 0) (hp : p < half n) : iuV leaf p n pr = iuV leaf p (half n) (pr.take (pr.length - 1)) ++ [nodeI (upV leaf p (half n) (pr.take (pr.length - 1))).1 (pr.getD (pr.length - 1) ByteArray.empty)] := by rw [iuV, dif_neg (by omega), if_neg h0, if_pos hp]
theorem iuV_hi {leaf : ByteArray} {p n : Nat} {pr : List ByteArray} (h : 2 ≤ n) (h2 : n ≤ 64) (h0 : ¬ pr.length = 0) (hp : ¬ p < half n) : iuV leaf p n pr = iuV leaf (p - half n) (n - half n) (pr.take (pr.length - 1)) ++ [nodeI (pr.getD (pr.length - 1) ByteArray.empty) (upV leaf (p - half n) (n - half n) (pr.take (pr.length - 1))).1] := by rw [iuV, dif_neg (by omega), if_neg h0, if_neg hp]
theorem iu_len : ∀ (n : Nat) (leaf : ByteArray) (p : Nat) (pr : List ByteArray), 1 ≤ n → n ≤ 64 → (iuV leaf p n pr).length ≤ pr.length := by
  intro n
  induction n using Nat.strongRecOn with
  | ind n ih =>
    intro leaf p pr h1 hn
    rcases (show n = 1 ∨ 2 ≤ n by omega) with h | h
    · subst h; rw [iuV_one]; simp
    · have hf := half_facts (n := n) h hn
      have hl : (pr.take (pr.length - 1)).length = pr.length - 1 := by rw [List.length_take]; omega
      by_cases h0 : pr.length = 0
      · rw [iuV_none h hn h0]; simp
      · by_cases hp : p < half n
        · rw [iuV_lo h hn h0 hp]
          have := ih (half n) (by omega) leaf p (pr.take (pr.length - 1)) (by omega) (by omega)
          simp; omega
        · rw [iuV_hi h hn h0 hp]
          have := ih (n - half n) (by omega) leaf (p - half n) (pr.take (pr.length - 1)) (by omega) (by omega)
          simp; omega
/-- Both say the same. -/
theorem iu_way : ∀ (n : Nat) (leaf : ByteArray) (p : Nat) (pr : List ByteArray), 1 ≤ n → n ≤ 64 → pr.length = (wayV p n).length → iuV leaf p n pr = inpL ((wayV p n).zip pr) leaf := by
  intro n
  induction n using Nat.strongRecOn with
  | ind n ih =>
    intro leaf p pr h1 hn e
    rcases (show n = 1 ∨ 2 ≤ n by omega) with h | h
    · subst h; rw [iuV_one, wayV_one]; rfl
    · have hf := half_facts (n := n) h hn
      by_cases h0 : pr.length = 0
      · exfalso
        have hw : (wayV p n).length ≠ 0 := by
          by_cases hp : p < half n
          · rw [wayV_lo h hn hp]; simp
          · rw [wayV_hi h hn hp]; simp
        omega
      · have hpr : pr = pr.take (pr.length - 1) ++ [pr.getD (pr.length - 1) ByteArray.empty] := by
          have hlt : pr.length - 1 < pr.length := by omega
          rw [List.getD_eq_getElem?_getD, List.getElem?_eq_getElem hlt]
          simp only [Option.getD_some]
          rw [List.take_append_getElem hlt]
          rw [show pr.length - 1 + 1 = pr.length by omega, List.take_length]
        have hl : (pr.take (pr.length - 1)).length = pr.length - 1 := by rw [List.length_take]; omega
        by_cases hp : p < half n
        · rw [iuV_lo h hn h0 hp, wayV_lo h hn hp]
          rw [wayV_lo h hn hp] at e
          obtain ⟨i1, i2⟩ := up_way (half n) leaf p (pr.take (pr.length - 1)) (by omega) (by omega)
          have i3 := ih (half n) (by omega) leaf p (pr.take (pr.length - 1)) (by omega) (by omega)
          rw [hl] at i2 i3
          simp at e
          have e2 : pr.length - 1 = (wayV p (half n)).length := by omega
          rw [i2 e2, i3 e2]
          conv => rhs; rw [hpr]
          rw [List.zip_append (by rw [hl]; exact e2.symm), inpL_app]
          simp [inpL, inV]
        · rw [iuV_hi h hn h0 hp, wayV_hi h hn hp]
          rw [wayV_hi h hn hp] at e
          obtain ⟨i1, i2⟩ := up_way (n - half n) leaf (p - half n) (pr.take (pr.length - 1)) (by omega) (by omega)
          have i3 := ih (n - half n) (by omega) leaf (p - half n) (pr.take (pr.length - 1)) (by omega) (by omega)
          rw [hl] at i2 i3
          simp at e
          have e2 : pr.length - 1 = (wayV (p - half n) (n - half n)).length := by omega
          rw [i2 e2, i3 e2]
          conv => rhs; rw [hpr]
          rw [List.zip_append (by rw [hl]; exact e2.symm), inpL_app]
          simp [inpL, inV]
theorem nodeI_le {a b : ByteArray} (ha : a.size ≤ 32) (hb : b.size ≤ 32) : (nodeI a b).size ≤ 65 := by
  unfold nodeI; rw [ByteArray.size_append, ByteArray.size_append]
  have : (ByteArray.mk #[1]).size = 1 := rfl
  omega

set_option maxRecDepth 100000 in
set_option maxHeartbeats 4000000 in
theorem l15Inputs_any : ∀ (n : Nat) (leaf : ByteArray) (p : Nat) (pr : List ByteArray) (m b off cap : Nat) (w : World), 1 ≤ n → n ≤ 64 → p < n → pr.length = m → m ≤ 64 → leaf.size = 32 → AllH pr → SA w b off cap pr →
    Calls Tryd.prog 40 #[.string leaf, .int .i64 p, .int .i64 n, .slice (some ⟨b, off, none⟩) m cap] w fun e w' => ∃ u, e = .returned (.tuple #[u, .string (upV leaf p n pr).1, .bool (upV leaf p n pr).2]) ∧ OwnS w.heap.size w' u (iuV leaf p n pr) ∧ Below w.heap.size w w' := by
  obtain ⟨i0, hi, hz0, hz1, hz2⟩ := info_parts9
  intro n
  induction n using Nat.strongRecOn with
  | ind n ih =>
    intro leaf p pr m b off cap w h1 hn hpn hm hm2 hl ha hs
    have hcap : m ≤ cap := by have := hs.le; omega
    have hcm : cap ≤ 9223372036854775807 := by have := hs.mx; unfold maxLen at this; omega
    have HNil : Hid (OwnS w.heap.size (w.alloc (.cells #[] 9)) (.slice (some ⟨w.heap.size, 0, none⟩) 0 0) []) := hide (World.ownsRow_made w #[] 0 (Nat.le_refl _) (by unfold maxLen; omega) rfl)
    have BNil := hide ((Below.refl w.heap.size w).alloc (Nat.le_refl _) (.cells #[] 9))
    rcases (show n = 1 ∨ 2 ≤ n by omega) with h | h
    · subst h
      have HV := hide (upV_one leaf p pr)
      have HJ := hide (iuV_one leaf p pr)
      rw [hm] at HV
      clear ih hl ha hs hm
      by_cases hm0 : m = 0
      · subst hm0
        go_enter Tryd.func40, Tryd.ntmps40
        go_wp2_with fail
        go_ret3
        exact ⟨_, by rw [unhide HV]; rfl, by rw [unhide HJ]; exact unhide HNil, unhide BNil⟩
      · have hm1 : ¬ (m : Int) = 0 := by omega
        have hm3 : ((m : Int) == 0) = false := by rw [beq_eq_false_iff_ne]; exact hm1
        go_enter Tryd.func40, Tryd.ntmps40
        go_wp2_with fail
        go_ret3
        exact ⟨.slice (some ⟨w.heap.size, 0, none⟩) 0 0, by rw [unhide HV]; simp [hm0], by rw [unhide HJ]; exact unhide HNil, unhide BNil⟩
    by_cases hm0 : m = 0
    · have HV := hide (upV_none (leaf := leaf) (p := p) (n := n) (pr := pr) h hn (by omega))
      have HJ := hide (iuV_none (leaf := leaf) (p := p) (n := n) (pr := pr) h hn (by omega))
      clear ih hl ha hs hm
      subst hm0
      go_enter Tryd.func40, Tryd.ntmps40
      go_wp2_with fail
      go_ret3
      exact ⟨_, by rw [unhide HV]; rfl, by rw [unhide HJ]; exact unhide HNil, unhide BNil⟩
    have hf := half_facts (n := n) h hn
    have HP := hide (l06Half_any n w h hn)
    have c0 := hs.cell (m - 1) (by omega)
    have hxs := ha (m - 1) (by omega)
    have et : (pr.take (m - 1)).length = m - 1 := by rw [List.length_take]; omega
    obtain ⟨j, hj⟩ : ∃ j : Nat, m = j + 1 := ⟨m - 1, by omega⟩
    clear HNil BNil
    by_cases hp : p < half n
    · have HV := hide (upV_lo (leaf := leaf) (p := p) (n := n) (pr := pr) h hn (by omega) hp)
      have HJ := hide (iuV_lo (leaf := leaf) (p := p) (n := n) (pr := pr) h hn (by omega) hp)
      have HI := hide (ih (half n) (by omega) leaf p (pr.take (m - 1)) (m - 1) b off cap w (by omega) (by omega) hp et (by omega) hl (ha.take _) (hs.take _ (by omega)))
      have z1 := up_size (half n) leaf p (pr.take (m - 1)) (by omega) (by omega) hl (ha.take _)
      have z3 := iu_len (half n) leaf p (pr.take (m - 1)) (by omega) (by omega)
      rw [et] at z3
      rw [hm] at HV HJ
      clear ih hl ha hs hm et
      generalize pr.getD (m - 1) ByteArray.empty = x at *
      generalize (upV leaf p (half n) (pr.take (m - 1))).1 = u1 at *
      generalize (upV leaf p (half n) (pr.take (m - 1))).2 = u2 at *
      generalize iuV leaf p (half n) (pr.take (m - 1)) = jl at *
      generalize half n = k at *
      subst hj
      simp only [Nat.add_sub_cancel] at *
      have HN := hide (fun wx => l06Node_le u1 x wx z1 (by omega))
      have HY : Hid (ByteArray.mk #[1] ++ u1 ++ x = nodeI u1 x) := rfl
      have hsz0 : (ByteArray.mk #[1] ++ u1).size ≤ 33 := by rw [ByteArray.size_append]; have : (ByteArray.mk #[1]).size = 1 := rfl; omega
      have hsz1 : (ByteArray.mk #[1] ++ u1 ++ x).size ≤ 65 := nodeI_le z1 (by omega)
      have k0 : (p : Int) < (k : Int) := by omega
      have k1 : (0 : Int) ≤ (j : Int) := by omega
      have k2 : (j : Int) < ((j + 1 : Nat) : Int) := by omega
      have k3 : ((j + 1 : Nat) : Int) - 1 = (j : Int) := by omega
      have k4 : (j : Int) ≤ (cap : Int) := by omega
      have k5 : ¬ ((j + 1 : Nat) : Int) = 0 := by omega
      go_enter Tryd.func40, Tryd.ntmps40
      go_wp2_with fail
      refine (unhide HP).mono ?_
      rintro e w9 ⟨rfl, hw9⟩
      subst w9
      go_wp2_with fail
      refine (unhide HI).mono ?_
      rintro e w1 ⟨u, rfl, hO1, hb1⟩
      have B1 := hide hb1
      have O1 := hide hO1
      clear hb1 c0 hO1
      have HO3 := hide (show w1.ownsRow w.heap.size 9 1 u jl.length (jl.map Value.string) from unhide O1)
      go_wp2_with (at_builtin; refine wpList_append_lies _ rfl _ _ _ rfl w.heap.size 9 i0 _ 1 16 Tryd.underlying36 hi hz0 hz1 hz2 rfl (by omega) u jl.length (jl.map Value.string) rfl (own_kept (T := fun _ => False) (unhide HO3) (Touch.ofBelow ((Below.refl w1.heap.size w1).alloc (Nat.le_refl _) (.cells #[.string (ByteArray.mk #[1] ++ u1 ++ x)] 9))) (fun _ _ h => h)) ⟨w1.heap.size, 0, none⟩ 1 1 [_] rfl rfl (World.news_of_block (cs := #[_]) (t := 9) (fr := (0, 0)) (heap_alloc_new w1 _)) (by simp [Value.oneCell']) (by omega) (by unfold maxLen; omega) (by omega) (by have := (unhide B1).size; simp; omega) _ rfl ?_; intro g3 cap3 w3 hown3 hgrow3 hat3 hlt3; have R := hide (And.intro (strs_pushed (t := ByteArray.mk #[1] ++ u1 ++ x) hown3) (((unhide B1).alloc (unhide B1).size (.cells #[.string (ByteArray.mk #[1] ++ u1 ++ x)] 9)).grown hgrow3 (by have := (unhide B1).size; simp; omega) (fun r hr => ((unhide HO3).lt r hr).1))); clear hown3 hgrow3 hat3 hlt3)
      refine (unhide HN w3).mono ?_
      rintro e w4 ⟨rfl, hb4⟩
      have R4 := hide (And.intro ((unhide R).1.below hb4) ((unhide R).2.trans (hb4.mono (unhide R).2.size)))
      clear hb4 R
      rw [unhide HY, ← unhide HJ] at R4
      go_wp2_with fail
      go_ret3
      exact ⟨_, by rw [unhide HV]; rfl, (unhide R4).1, (unhide R4).2⟩
    · have HV := hide (upV_hi (leaf := leaf) (p := p) (n := n) (pr := pr) h hn (by omega) hp)
      have HJ := hide (iuV_hi (leaf := leaf) (p := p) (n := n) (pr := pr) h hn (by omega) hp)
      have HI := hide (ih (n - half n) (by omega) leaf (p - half n) (pr.take (m - 1)) (m - 1) b off cap w (by omega) (by omega) (by omega) et (by omega) hl (ha.take _) (hs.take _ (by omega)))
      have z1 := up_size (n - half n) leaf (p - half n) (pr.take (m - 1)) (by omega) (by omega) hl (ha.take _)
      have z3 := iu_len (n - half n) leaf (p - half n) (pr.take (m - 1)) (by omega) (by omega)
      rw [et] at z3
      rw [hm] at HV HJ
      clear ih hl ha hs hm et
      generalize pr.getD (m - 1) ByteArray.empty = x at *
      generalize (upV leaf (p - half n) (n - half n) (pr.take (m - 1))).1 = u1 at *
      generalize (upV leaf (p - half n) (n - half n) (pr.take (m - 1))).2 = u2 at *
      generalize iuV leaf (p - half n) (n - half n) (pr.take (m - 1)) = jl at *
      generalize half n = k at *
      obtain ⟨q, hq⟩ : ∃ q : Nat, q = p - k := ⟨_, rfl⟩
      obtain ⟨n2, hn2⟩ : ∃ n2 : Nat, n2 = n - k := ⟨_, rfl⟩
      have k6 : (p : Int) - (k : Int) = (q : Int) := by omega
      have k7 : (n : Int) - (k : Int) = (n2 : Int) := by omega
      rw [← hq, ← hn2] at HI
      clear hq hn2
      subst hj
      simp only [Nat.add_sub_cancel] at *
      have HN := hide (fun wx => l06Node_le x u1 wx (by omega) z1)
      have HY : Hid (ByteArray.mk #[1] ++ x ++ u1 = nodeI x u1) := rfl
      have hsz0 : (ByteArray.mk #[1] ++ x).size ≤ 33 := by rw [ByteArray.size_append]; have : (ByteArray.mk #[1]).size = 1 := rfl; omega
      have hsz1 : (ByteArray.mk #[1] ++ x ++ u1).size ≤ 65 := nodeI_le (by omega) z1
      have k0 : ¬ (p : Int) < (k : Int) := by omega
      have k1 : (0 : Int) ≤ (j : Int) := by omega
      have k2 : (j : Int) < ((j + 1 : Nat) : Int) := by omega
      have k3 : ((j + 1 : Nat) : Int) - 1 = (j : Int) := by omega
      have k4 : (j : Int) ≤ (cap : Int) := by omega
      have k5 : ¬ ((j + 1 : Nat) : Int) = 0 := by omega
      go_enter Tryd.func40, Tryd.ntmps40
      go_wp2_with fail
      refine (unhide HP).mono ?_
      rintro e w9 ⟨rfl, hw9⟩
      subst w9
      go_wp2_with fail
      refine (unhide HI).mono ?_
      rintro e w1 ⟨u, rfl, hO1, hb1⟩
      have B1 := hide hb1
      have O1 := hide hO1
      clear hb1 c0 hO1
      have HO3 := hide (show w1.ownsRow w.heap.size 9 1 u jl.length (jl.map Value.string) from unhide O1)
      go_wp2_with (at_builtin; refine wpList_append_lies _ rfl _ _ _ rfl w.heap.size 9 i0 _ 1 16 Tryd.underlying36 hi hz0 hz1 hz2 rfl (by omega) u jl.length (jl.map Value.string) rfl (own_kept (T := fun _ => False) (unhide HO3) (Touch.ofBelow ((Below.refl w1.heap.size w1).alloc (Nat.le_refl _) (.cells #[.string (ByteArray.mk #[1] ++ x ++ u1)] 9))) (fun _ _ h => h)) ⟨w1.heap.size, 0, none⟩ 1 1 [_] rfl rfl (World.news_of_block (cs := #[_]) (t := 9) (fr := (0, 0)) (heap_alloc_new w1 _)) (by simp [Value.oneCell']) (by omega) (by unfold maxLen; omega) (by omega) (by have := (unhide B1).size; simp; omega) _ rfl ?_; intro g3 cap3 w3 hown3 hgrow3 hat3 hlt3; have R := hide (And.intro (strs_pushed (t := ByteArray.mk #[1] ++ x ++ u1) hown3) (((unhide B1).alloc (unhide B1).size (.cells #[.string (ByteArray.mk #[1] ++ x ++ u1)] 9)).grown hgrow3 (by have := (unhide B1).size; simp; omega) (fun r hr => ((unhide HO3).lt r hr).1))); clear hown3 hgrow3 hat3 hlt3)
      refine (unhide HN w3).mono ?_
      rintro e w4 ⟨rfl, hb4⟩
      have R4 := hide (And.intro ((unhide R).1.below hb4) ((unhide R).2.trans (hb4.mono (unhide R).2.size)))
      clear hb4 R
      rw [unhide HY, ← unhide HJ] at R4
      go_wp2_with fail
      go_ret3
      exact ⟨_, by rw [unhide HV]; rfl, (unhide R4).1, (unhide R4).2⟩
end Go.Proofs.YtiiaehajcomfaaaDoor.Sha
