/- The hashes that prove that a log grew: consistency, l06Sub; ConsistencyProof. -/
import Derived.Test.YtnaoccndghnmpaaDoorMkI
namespace Go.Proofs.YtnaoccndghnmpaaDoor.Sha
open Go.ChangeShapes Go.WideShapes Go.ChangeAt Go.RowKit
set_option linter.unusedVariables false

/-- The hashes that lead from the hash of the first p leaves to that of all; kn: the first one is known. -/
def subV (l : List ByteArray) (p : Nat) (kn : Bool) : List ByteArray :=
  if p = l.length then (if kn = true then [] else [treeV l])
  else if h : l.length < 2 ∨ 64 < l.length then []
  else if p ≤ half l.length then subV (l.take (half l.length)) p kn ++ [treeV (l.drop (half l.length))]
  else subV (l.drop (half l.length)) (p - half l.length) false ++ [treeV (l.take (half l.length))]
termination_by l.length
decreasing_by
  · exact take_lt h
  · exact drop_lt h
theorem subV_all {l : List ByteArray} {p : Nat} {kn : Bool} (h : p = l.length) : subV l p kn = if kn = true then [] else [treeV l] := by rw [subV, if_pos h]
theorem subV_lo {l : List ByteArray} {p : Nat} {kn : Bool} (h : 2 ≤ l.length) (h2 : l.length ≤ 64) (hne : ¬ p = l.length) (hp : p ≤ half l.length) : subV l p kn = subV (l.take (half l.length)) p kn ++ [treeV (l.drop (half l.length))] := by rw [subV, if_neg hne, dif_neg (by omega), if_pos hp]
theorem subV_hi {l : List ByteArray} {p : Nat} {kn : Bool} (h : 2 ≤ l.length) (h2 : l.length ≤ 64) (hne : ¬ p = l.length) (hp : ¬ p ≤ half l.length) : subV l p kn = subV (l.drop (half l.length)) (p - half l.length) false ++ [treeV (l.take (half l.length))] := by rw [subV, if_neg hne, dif_neg (by omega), if_neg hp]
theorem sub_len : ∀ (n : Nat) (l : List ByteArray) (p : Nat) (kn : Bool), l.length = n → 1 ≤ n → (subV l p kn).length ≤ n := by
  intro n
  induction n using Nat.strongRecOn with
  | ind n ih =>
    intro l p kn hl h1
    by_cases hpe : p = l.length
    · rw [subV_all hpe]; split
      · simp
      · simp; omega
    · by_cases h : l.length < 2 ∨ 64 < l.length
      · rw [subV, if_neg hpe, dif_pos h]; simp
      · have hf := half_facts (n := l.length) (by omega) (by omega)
        have e1 : (l.take (half l.length)).length = half l.length := by rw [List.length_take]; omega
        have e2 : (l.drop (half l.length)).length = l.length - half l.length := List.length_drop ..
        by_cases hp : p ≤ half l.length
        · rw [subV_lo (by omega) (by omega) hpe hp]
          have := ih _ (by omega) (l.take (half l.length)) p kn e1 (by omega)
          simp; omega
        · rw [subV_hi (by omega) (by omega) hpe hp]
          have := ih _ (by omega) (l.drop (half l.length)) (p - half l.length) false e2 (by omega)
          simp; omega
theorem own_oneS (w : World) (B X : Nat) (hX : w.heap.size = X) (hB : B ≤ X) (t : ByteArray) : OwnS B (w.alloc (.cells #[.string t] 9)) (.slice (some ⟨X, 0, none⟩) 1 1) [t] :=
  ⟨rfl, .inr ⟨X, 1, #[.string t], rfl, hB, heap_new hX, Nat.le_refl _, by unfold maxLen; omega, rfl, rfl⟩⟩
set_option maxRecDepth 100000 in
set_option maxHeartbeats 2000000 in
theorem consistency_any : ∀ (n : Nat) (l : List ByteArray) (p : Nat) (kn : Bool) (b off cap : Nat) (w : World), l.length = n → 1 ≤ n → n ≤ 64 → 1 ≤ p → p ≤ n → AllH l → SA w b off cap l → Tab w →
    Calls Tryd.prog 45 #[.int .i64 p, .bool kn, .slice (some ⟨b, off, none⟩) n cap] w fun e w' => ∃ v, e = .returned v ∧ OwnS w.heap.size w' v (subV l p kn) ∧ Below w.heap.size w w' := by
  intro n
  induction n using Nat.strongRecOn with
  | ind n ih =>
    intro l p kn b off cap w hl h1 hn hp1 hpn ha hs ht
    obtain ⟨i0, hi, hz0, hz1, hz2⟩ := info_parts9
    have hcap : n ≤ cap := by have := hs.le; omega
    have hcm : cap ≤ 9223372036854775807 := by have := hs.mx; unfold maxLen at this; omega
    by_cases hpe : p = n
    · cases kn
      · have HV := hide (subV_all (l := l) (p := p) (kn := false) (by omega))
        have HH := hide (treeHash_any n l b off cap w hl hn ha hs ht)
        clear ih hl ha hs ht
        subst hpe
        go_enter Tryd.func45, Tryd.ntmps45
        go_wp2_with fail
        refine (unhide HH).mono ?_
        rintro e w1 ⟨rfl, hb1⟩
        have O1 := hide (own_oneS w1 w.heap.size w1.heap.size rfl hb1.size (treeV l))
        have K := hide (hb1.alloc hb1.size (.cells #[.string (treeV l)] 9))
        clear hb1
        go_wp2_with fail
        go_ret
        exact ⟨_, rfl, by rw [unhide HV]; exact unhide O1, unhide K⟩
      · have HV := hide (subV_all (l := l) (p := p) (kn := true) (by omega))
        clear ih hl ha hs ht
        subst hpe
        go_enter Tryd.func45, Tryd.ntmps45
        go_wp2_with fail
        go_ret
        exact ⟨_, rfl, by rw [unhide HV]; exact OwnS.nil _ _, Below.refl _ _⟩
    have h : 2 ≤ n := by omega
    have hf := half_facts (n := n) h hn
    have HP := hide (splitPlace_any n w h hn)
    have e1 : (l.take (half n)).length = half n := by rw [List.length_take]; omega
    have e2 : (l.drop (half n)).length = n - half n := by rw [List.length_drop]; omega
    by_cases hp : p ≤ half n
    · have HV := hide (subV_lo (l := l) (p := p) (kn := kn) (by omega) (by omega) (by omega) (by rw [hl]; exact hp))
      rw [hl] at HV
      have H1 : Hid (∀ wx, Below w.heap.size w wx → Calls Tryd.prog 45 #[.int .i64 (p : Nat), .bool kn, .slice (some ⟨b, off, none⟩) (half n) (cap)] wx fun e w' => ∃ v, e = .returned v ∧ OwnS wx.heap.size w' v (subV (l.take (half n)) p kn) ∧ Below wx.heap.size wx w') := hide (fun wx hbx =>
        ih (half n) (by omega) (l.take (half n)) p kn b off cap wx e1 (by omega) (by omega) (by omega) (by omega) (ha.take _) ((hs.take _ (by omega)).below hbx) (ht.below hbx))
      have H2 : Hid (∀ wx, Below w.heap.size w wx → Calls Tryd.prog 29 #[.slice (some ⟨b, off + half n, none⟩) (n - half n) (cap - half n)] wx fun e w' => e = .returned (.string (treeV (l.drop (half n)))) ∧ Below wx.heap.size wx w') := hide (fun wx hbx =>
        treeHash_any (n - half n) (l.drop (half n)) b (off + half n) (cap - half n) wx e2 (by omega) (ha.drop _) ((hs.drop _ (by omega)).below hbx) (ht.below hbx))
      have hpl := sub_len _ (l.take (half n)) p kn e1 (by omega)
      clear ih hl ha hs ht e1 e2
      generalize subV (l.take (half n)) p kn = p1 at *
      generalize treeV (l.drop (half n)) = t2 at *
      generalize half n = k at *
      have k0 : (0 : Int) ≤ (k : Int) := by omega
      have k1 : (k : Int) ≤ (n : Int) := by omega
      have k2 : (k : Int) ≤ (cap : Int) := by omega
      have k5 : ¬ cap = k := by omega
      have k3 : (p : Int) ≤ (k : Int) := by omega
      have k7 : ¬ (p : Int) = (n : Int) := by omega
      go_enter Tryd.func45, Tryd.ntmps45
      go_wp2_with fail
      refine (unhide HP).mono ?_
      rintro e w9 ⟨rfl, hw9⟩
      subst w9
      go_wp2_with fail
      go_region_held3 (fun _ => True) (trivial) (first
        | (refine step_append_lies _ (by rfl) _ _ _ (by rfl) w.heap.size 9 i0 _ 1 16 Tryd.underlying23 hi hz0 hz1 hz2 rfl (by omega) v1 p1.length (p1.map Value.string) (by rfl) (OwnS.below hO2 ((Below.refl w2.heap.size w2).alloc (Nat.le_refl _) (.cells #[.string t2] 9))) ⟨w2.heap.size, 0, none⟩ 1 1 [_] (by rfl) (by rfl) (World.news_of_block (cs := #[_]) (t := 9) (fr := (0, 0)) (heap_alloc_new w2 _)) (by simp [Value.oneCell']) (by omega) (by unfold maxLen; omega) (by omega) (by have := hb2.size; simp; omega) (w2.heap.size + 1) (by simp) ?_; intro gg capg w3 hown3 hgrow3 hat3 hlt3)
        | (go_at_call 29; refine (unhide H2 _ hb1).mono ?_; rintro e w2 ⟨rfl, hb2'⟩; have hb2 := hb1.trans (hb2'.mono hb1.size); have hO2 := hO1.below hb2')
        | (go_at_call 45; refine (unhide H1 _ ((Below.refl _ w).drew)).mono ?_; rintro e w1 ⟨v1, rfl, hO1, hb1'⟩; have hb1 := ((Below.refl _ w).drew).trans hb1'))
      have KO := hide (OwnS.pushed hown3)
      have KB := hide ((hb2.alloc hb2.size (.cells #[.string t2] 9)).grown hgrow3 (by have := hb2.size; simp; omega) (fun r hr => (hO2.lt r hr).1))
      clear hb1' hb1 hb2' hb2 hO1 hO2 hown3 hgrow3 hat3 hlt3
      go_wp2_with fail
      go_ret
      exact ⟨_, rfl, by rw [unhide HV]; exact unhide KO, unhide KB⟩
    · have HV := hide (subV_hi (l := l) (p := p) (kn := kn) (by omega) (by omega) (by omega) (by rw [hl]; exact hp))
      rw [hl] at HV
      have H1 : Hid (∀ wx, Below w.heap.size w wx → Calls Tryd.prog 45 #[.int .i64 ((p - half n : Nat) : Int), .bool false, .slice (some ⟨b, off + half n, none⟩) (n - half n) (cap - half n)] wx fun e w' => ∃ v, e = .returned v ∧ OwnS wx.heap.size w' v (subV (l.drop (half n)) (p - half n) false) ∧ Below wx.heap.size wx w') := hide (fun wx hbx =>
        ih (n - half n) (by omega) (l.drop (half n)) (p - half n) false b (off + half n) (cap - half n) wx e2 (by omega) (by omega) (by omega) (by omega) (ha.drop _) ((hs.drop _ (by omega)).below hbx) (ht.below hbx))
      have H2 : Hid (∀ wx, Below w.heap.size w wx → Calls Tryd.prog 29 #[.slice (some ⟨b, off, none⟩) (half n) (cap)] wx fun e w' => e = .returned (.string (treeV (l.take (half n)))) ∧ Below wx.heap.size wx w') := hide (fun wx hbx =>
        treeHash_any (half n) (l.take (half n)) b off cap wx e1 (by omega) (ha.take _) ((hs.take _ (by omega)).below hbx) (ht.below hbx))
      have hpl := sub_len _ (l.drop (half n)) (p - half n) false e2 (by omega)
      clear ih hl ha hs ht e1 e2
      generalize subV (l.drop (half n)) (p - half n) false = p1 at *
      generalize treeV (l.take (half n)) = t2 at *
      generalize half n = k at *
      have k0 : (0 : Int) ≤ (k : Int) := by omega
      have k1 : (k : Int) ≤ (n : Int) := by omega
      have k2 : (k : Int) ≤ (cap : Int) := by omega
      have k5 : ¬ cap = k := by omega
      have k3 : ¬ (p : Int) ≤ (k : Int) := by omega
      have k7 : ¬ (p : Int) = (n : Int) := by omega
      obtain ⟨q, hq⟩ : ∃ q : Nat, q = p - k := ⟨_, rfl⟩
      have k4 : (p : Int) - (k : Int) = (q : Int) := by omega
      rw [← hq] at H1
      clear hq
      have k6 : IntKind.i64.wrap (q : Int) = (q : Int) := wrapQ (by omega)
      go_enter Tryd.func45, Tryd.ntmps45
      go_wp2_with fail
      refine (unhide HP).mono ?_
      rintro e w9 ⟨rfl, hw9⟩
      subst w9
      go_wp2_with fail
      go_region_held3 (fun _ => True) (trivial) (first
        | (refine step_append_lies _ (by rfl) _ _ _ (by rfl) w.heap.size 9 i0 _ 1 16 Tryd.underlying23 hi hz0 hz1 hz2 rfl (by omega) v1 p1.length (p1.map Value.string) (by rfl) (OwnS.below hO2 ((Below.refl w2.heap.size w2).alloc (Nat.le_refl _) (.cells #[.string t2] 9))) ⟨w2.heap.size, 0, none⟩ 1 1 [_] (by rfl) (by rfl) (World.news_of_block (cs := #[_]) (t := 9) (fr := (0, 0)) (heap_alloc_new w2 _)) (by simp [Value.oneCell']) (by omega) (by unfold maxLen; omega) (by omega) (by have := hb2.size; simp; omega) (w2.heap.size + 1) (by simp) ?_; intro gg capg w3 hown3 hgrow3 hat3 hlt3)
        | (go_at_call 29; refine (unhide H2 _ hb1).mono ?_; rintro e w2 ⟨rfl, hb2'⟩; have hb2 := hb1.trans (hb2'.mono hb1.size); have hO2 := hO1.below hb2')
        | (go_at_call 45; refine (unhide H1 _ ((Below.refl _ w).drew)).mono ?_; rintro e w1 ⟨v1, rfl, hO1, hb1'⟩; have hb1 := ((Below.refl _ w).drew).trans hb1'))
      have KO := hide (OwnS.pushed hown3)
      have KB := hide ((hb2.alloc hb2.size (.cells #[.string t2] 9)).grown hgrow3 (by have := hb2.size; simp; omega) (fun r hr => (hO2.lt r hr).1))
      clear hb1' hb1 hb2' hb2 hO1 hO2 hown3 hgrow3 hat3 hlt3
      go_wp2_with fail
      go_ret
      exact ⟨_, rfl, by rw [unhide HV]; exact unhide KO, unhide KB⟩
set_option maxRecDepth 100000 in
set_option maxHeartbeats 2000000 in
theorem l06Sub_any : ∀ (n : Nat) (l : List ByteArray) (p : Nat) (kn : Bool) (b off cap : Nat) (w : World), l.length = n → 1 ≤ n → n ≤ 64 → 1 ≤ p → p ≤ n → AllH l → SA w b off cap l →
    Calls Tryd.prog 46 #[.slice (some ⟨b, off, none⟩) n cap, .int .i64 p, .bool kn] w fun e w' => ∃ v, e = .returned v ∧ OwnS w.heap.size w' v (subV l p kn) ∧ Below w.heap.size w w' := by
  intro n
  induction n using Nat.strongRecOn with
  | ind n ih =>
    intro l p kn b off cap w hl h1 hn hp1 hpn ha hs
    obtain ⟨i0, hi, hz0, hz1, hz2⟩ := info_parts9
    have hcap : n ≤ cap := by have := hs.le; omega
    have hcm : cap ≤ 9223372036854775807 := by have := hs.mx; unfold maxLen at this; omega
    by_cases hpe : p = n
    · cases kn
      · have HV := hide (subV_all (l := l) (p := p) (kn := false) (by omega))
        have HH := hide (l06Tree_any n l b off cap w hl hn ha hs)
        clear ih hl ha hs
        subst hpe
        go_enter Tryd.func46, Tryd.ntmps46
        go_wp2_with fail
        refine (unhide HH).mono ?_
        rintro e w1 ⟨rfl, hb1⟩
        have O1 := hide (own_oneS w1 w.heap.size w1.heap.size rfl hb1.size (treeV l))
        have K := hide (hb1.alloc hb1.size (.cells #[.string (treeV l)] 9))
        clear hb1
        go_wp2_with fail
        go_ret
        exact ⟨_, rfl, by rw [unhide HV]; exact unhide O1, unhide K⟩
      · have HV := hide (subV_all (l := l) (p := p) (kn := true) (by omega))
        clear ih hl ha hs
        subst hpe
        go_enter Tryd.func46, Tryd.ntmps46
        go_wp2_with fail
        go_ret
        exact ⟨_, rfl, by rw [unhide HV]; exact own_noneS w _ _ rfl (Nat.le_refl _), (Below.refl _ _).alloc (Nat.le_refl _) _⟩
    have h : 2 ≤ n := by omega
    have hf := half_facts (n := n) h hn
    have HP := hide (l06Half_any n w h hn)
    have e1 : (l.take (half n)).length = half n := by rw [List.length_take]; omega
    have e2 : (l.drop (half n)).length = n - half n := by rw [List.length_drop]; omega
    by_cases hp : p ≤ half n
    · have HV := hide (subV_lo (l := l) (p := p) (kn := kn) (by omega) (by omega) (by omega) (by rw [hl]; exact hp))
      rw [hl] at HV
      have H1 : Hid (∀ wx, Below w.heap.size w wx → Calls Tryd.prog 46 #[.slice (some ⟨b, off, none⟩) (half n) (cap), .int .i64 (p : Nat), .bool kn] wx fun e w' => ∃ v, e = .returned v ∧ OwnS wx.heap.size w' v (subV (l.take (half n)) p kn) ∧ Below wx.heap.size wx w') := hide (fun wx hbx =>
        ih (half n) (by omega) (l.take (half n)) p kn b off cap wx e1 (by omega) (by omega) (by omega) (by omega) (ha.take _) ((hs.take _ (by omega)).below hbx))
      have H2 : Hid (∀ wx, Below w.heap.size w wx → Calls Tryd.prog 31 #[.slice (some ⟨b, off + half n, none⟩) (n - half n) (cap - half n)] wx fun e w' => e = .returned (.string (treeV (l.drop (half n)))) ∧ Below wx.heap.size wx w') := hide (fun wx hbx =>
        l06Tree_any (n - half n) (l.drop (half n)) b (off + half n) (cap - half n) wx e2 (by omega) (ha.drop _) ((hs.drop _ (by omega)).below hbx))
      have hpl := sub_len _ (l.take (half n)) p kn e1 (by omega)
      clear ih hl ha hs e1 e2
      generalize subV (l.take (half n)) p kn = p1 at *
      generalize treeV (l.drop (half n)) = t2 at *
      generalize half n = k at *
      have k0 : (0 : Int) ≤ (k : Int) := by omega
      have k1 : (k : Int) ≤ (n : Int) := by omega
      have k2 : (k : Int) ≤ (cap : Int) := by omega
      have k5 : ¬ cap = k := by omega
      have k3 : (p : Int) ≤ (k : Int) := by omega
      have k7 : ¬ (p : Int) = (n : Int) := by omega
      go_enter Tryd.func46, Tryd.ntmps46
      go_wp2_with fail
      refine (unhide HP).mono ?_
      rintro e w9 ⟨rfl, hw9⟩
      subst w9
      go_wp2_with fail
      go_region_held3 (fun _ => True) (trivial) (first
        | (refine step_append_lies _ (by rfl) _ _ _ (by rfl) w.heap.size 9 i0 _ 1 16 Tryd.underlying23 hi hz0 hz1 hz2 rfl (by omega) v1 p1.length (p1.map Value.string) (by rfl) (OwnS.below hO2 ((Below.refl w2.heap.size w2).alloc (Nat.le_refl _) (.cells #[.string t2] 9))) ⟨w2.heap.size, 0, none⟩ 1 1 [_] (by rfl) (by rfl) (World.news_of_block (cs := #[_]) (t := 9) (fr := (0, 0)) (heap_alloc_new w2 _)) (by simp [Value.oneCell']) (by omega) (by unfold maxLen; omega) (by omega) (by have := hb2.size; simp; omega) (w2.heap.size + 1) (by simp) ?_; intro gg capg w3 hown3 hgrow3 hat3 hlt3)
        | (go_at_call 31; refine (unhide H2 _ hb1).mono ?_; rintro e w2 ⟨rfl, hb2'⟩; have hb2 := hb1.trans (hb2'.mono hb1.size); have hO2 := hO1.below hb2')
        | (go_at_call 46; refine (unhide H1 _ ((Below.refl _ w).drew)).mono ?_; rintro e w1 ⟨v1, rfl, hO1, hb1'⟩; have hb1 := ((Below.refl _ w).drew).trans hb1'))
      have KO := hide (OwnS.pushed hown3)
      have KB := hide ((hb2.alloc hb2.size (.cells #[.string t2] 9)).grown hgrow3 (by have := hb2.size; simp; omega) (fun r hr => (hO2.lt r hr).1))
      clear hb1' hb1 hb2' hb2 hO1 hO2 hown3 hgrow3 hat3 hlt3
      go_wp2_with fail
      go_ret
      exact ⟨_, rfl, by rw [unhide HV]; exact unhide KO, unhide KB⟩
    · have HV := hide (subV_hi (l := l) (p := p) (kn := kn) (by omega) (by omega) (by omega) (by rw [hl]; exact hp))
      rw [hl] at HV
      have H1 : Hid (∀ wx, Below w.heap.size w wx → Calls Tryd.prog 46 #[.slice (some ⟨b, off + half n, none⟩) (n - half n) (cap - half n), .int .i64 ((p - half n : Nat) : Int), .bool false] wx fun e w' => ∃ v, e = .returned v ∧ OwnS wx.heap.size w' v (subV (l.drop (half n)) (p - half n) false) ∧ Below wx.heap.size wx w') := hide (fun wx hbx =>
        ih (n - half n) (by omega) (l.drop (half n)) (p - half n) false b (off + half n) (cap - half n) wx e2 (by omega) (by omega) (by omega) (by omega) (ha.drop _) ((hs.drop _ (by omega)).below hbx))
      have H2 : Hid (∀ wx, Below w.heap.size w wx → Calls Tryd.prog 31 #[.slice (some ⟨b, off, none⟩) (half n) (cap)] wx fun e w' => e = .returned (.string (treeV (l.take (half n)))) ∧ Below wx.heap.size wx w') := hide (fun wx hbx =>
        l06Tree_any (half n) (l.take (half n)) b off cap wx e1 (by omega) (ha.take _) ((hs.take _ (by omega)).below hbx))
      have hpl := sub_len _ (l.drop (half n)) (p - half n) false e2 (by omega)
      clear ih hl ha hs e1 e2
      generalize subV (l.drop (half n)) (p - half n) false = p1 at *
      generalize treeV (l.take (half n)) = t2 at *
      generalize half n = k at *
      have k0 : (0 : Int) ≤ (k : Int) := by omega
      have k1 : (k : Int) ≤ (n : Int) := by omega
      have k2 : (k : Int) ≤ (cap : Int) := by omega
      have k5 : ¬ cap = k := by omega
      have k3 : ¬ (p : Int) ≤ (k : Int) := by omega
      have k7 : ¬ (p : Int) = (n : Int) := by omega
      obtain ⟨q, hq⟩ : ∃ q : Nat, q = p - k := ⟨_, rfl⟩
      have k4 : (p : Int) - (k : Int) = (q : Int) := by omega
      rw [← hq] at H1
      clear hq
      have k6 : IntKind.i64.wrap (q : Int) = (q : Int) := wrapQ (by omega)
      go_enter Tryd.func46, Tryd.ntmps46
      go_wp2_with fail
      refine (unhide HP).mono ?_
      rintro e w9 ⟨rfl, hw9⟩
      subst w9
      go_wp2_with fail
      go_region_held3 (fun _ => True) (trivial) (first
        | (refine step_append_lies _ (by rfl) _ _ _ (by rfl) w.heap.size 9 i0 _ 1 16 Tryd.underlying23 hi hz0 hz1 hz2 rfl (by omega) v1 p1.length (p1.map Value.string) (by rfl) (OwnS.below hO2 ((Below.refl w2.heap.size w2).alloc (Nat.le_refl _) (.cells #[.string t2] 9))) ⟨w2.heap.size, 0, none⟩ 1 1 [_] (by rfl) (by rfl) (World.news_of_block (cs := #[_]) (t := 9) (fr := (0, 0)) (heap_alloc_new w2 _)) (by simp [Value.oneCell']) (by omega) (by unfold maxLen; omega) (by omega) (by have := hb2.size; simp; omega) (w2.heap.size + 1) (by simp) ?_; intro gg capg w3 hown3 hgrow3 hat3 hlt3)
        | (go_at_call 31; refine (unhide H2 _ hb1).mono ?_; rintro e w2 ⟨rfl, hb2'⟩; have hb2 := hb1.trans (hb2'.mono hb1.size); have hO2 := hO1.below hb2')
        | (go_at_call 46; refine (unhide H1 _ ((Below.refl _ w).drew)).mono ?_; rintro e w1 ⟨v1, rfl, hO1, hb1'⟩; have hb1 := ((Below.refl _ w).drew).trans hb1'))
      have KO := hide (OwnS.pushed hown3)
      have KB := hide ((hb2.alloc hb2.size (.cells #[.string t2] 9)).grown hgrow3 (by have := hb2.size; simp; omega) (fun r hr => (hO2.lt r hr).1))
      clear hb1' hb1 hb2' hb2 hO1 hO2 hown3 hgrow3 hat3 hlt3
      go_wp2_with fail
      go_ret
      exact ⟨_, rfl, by rw [unhide HV]; exact unhide KO, unhide KB⟩
/-- What ConsistencyProof answers: the hashes, the code. -/
def conOut (l : List ByteArray) (p : Int) : List ByteArray × Int := if codeL l = 0 then (if inB p 1 (l.length : Int) then (subV l p.toNat true, 0) else ([], 4)) else ([], codeL l)
theorem con_len (l : List ByteArray) (p : Int) : (conOut l p).1.length ≤ l.length := by
  unfold conOut; split
  · split
    · rename_i h; have := inB_iff.1 h; exact sub_len _ l _ _ rfl (by omega)
    · simp
  · simp
set_option maxRecDepth 100000 in
set_option maxHeartbeats 1000000 in
theorem implCon_any (l : List ByteArray) (p : Int) (b off cap : Nat) (w : World) (h : SA w b off cap l) (hz : ∀ i, (l.getD i ByteArray.empty).size ≤ 1048576) (ht : Tab w) :
    Calls Tryd.prog 16 #[.slice (some ⟨b, off, none⟩) l.length cap, .int .i64 p] w fun e w' => ∃ v, e = .returned (.tuple #[v, .int .i64 (conOut l p).2]) ∧ OwnS w.heap.size w' v (conOut l p).1 ∧ Below w.heap.size w w' := by
  have hle : l.length ≤ 9223372036854775807 := by have := h.le; have := h.mx; unfold maxLen at this; omega
  have HC := hide (hashesFault_any l b off cap w h hz)
  have HO : Hid (conOut l p = if codeL l = 0 then (if inB p 1 (l.length : Int) then (subV l p.toNat true, 0) else ([], 4)) else ([], codeL l)) := rfl
  have HK := hide (fun (hc : codeL l = 0) (q : Nat) (hq0 : 1 ≤ q) (hq : q ≤ l.length) => consistency_any l.length l q true b off cap w rfl (by omega) (codeL_ok hc).1 hq0 hq (codeL_ok hc).2 h ht)
  clear h hz ht
  generalize codeL l = c at *
  go_enter Tryd.func16, Tryd.ntmps16
  go_wp2_with fail
  refine (unhide HC).mono ?_
  rintro e w9 ⟨rfl, hw9⟩
  subst w9
  by_cases hc : c = 0
  · have HG := hide (unhide HK hc)
    subst hc
    rw [if_pos rfl] at HO
    have HW := hide (within_any p 1 (l.length : Int) w)
    have HI := hide (inB_iff (n := p) (lo := 1) (hi := (l.length : Int)))
    generalize inB p 1 (l.length : Int) = bb at *
    go_wp2_with fail
    refine (unhide HW).mono ?_
    rintro e w9 ⟨rfl, hw9⟩
    subst w9
    cases bb
    · rw [if_neg (by simp)] at HO
      go_wp2_with fail
      go_ret2
      exact ⟨_, by rw [unhide HO]; rfl, by rw [unhide HO]; exact OwnS.nil _ _, Below.refl _ _⟩
    · obtain ⟨q0, q1⟩ := (unhide HI).1 rfl
      obtain ⟨q, rfl⟩ : ∃ q : Nat, p = (q : Int) := ⟨p.toNat, by omega⟩
      rw [if_pos rfl, Int.toNat_natCast] at HO
      have HG2 := hide (unhide HG q (by omega) (by omega))
      go_wp2_with fail
      refine (unhide HG2).mono ?_
      rintro e w2 ⟨v, rfl, hO, hb2⟩
      have K := hide (And.intro hO hb2)
      clear hO hb2
      go_wp2_with fail
      go_ret2
      exact ⟨v, by rw [unhide HO]; rfl, by rw [unhide HO]; exact (unhide K).1, (unhide K).2⟩
  · rw [if_neg hc] at HO
    go_wp2_with fail
    go_ret2
    exact ⟨_, by rw [unhide HO]; rfl, by rw [unhide HO]; exact OwnS.nil _ _, Below.refl _ _⟩
set_option maxRecDepth 100000 in
set_option maxHeartbeats 1000000 in
theorem specCon_any (l : List ByteArray) (p : Int) (b off cap : Nat) (w : World) (h : SA w b off cap l) (hz : ∀ i, (l.getD i ByteArray.empty).size ≤ 1048576) :
    Calls Tryd.prog 17 #[.slice (some ⟨b, off, none⟩) l.length cap, .int .i64 p] w fun e w' => ∃ v, e = .returned (.tuple #[v, .int .i64 (conOut l p).2]) ∧ OwnS w.heap.size w' v (conOut l p).1 ∧ Below w.heap.size w w' := by
  have hle : l.length ≤ 9223372036854775807 := by have := h.le; have := h.mx; unfold maxLen at this; omega
  by_cases h4 : 4096 < l.length
  · have H : Hid (conOut l p = ([], 2)) := hide (by
      have e : codeL l = 2 := by unfold codeL; rw [if_pos h4]
      unfold conOut; rw [e]; rfl)
    clear h hz
    go_enter Tryd.func17, Tryd.ntmps17
    go_wp2_with fail
    go_ret2
    exact ⟨_, by rw [unhide H]; rfl, by rw [unhide H]; exact own_noneS w _ _ rfl (Nat.le_refl _), (Below.refl _ _).alloc (Nat.le_refl _) _⟩
  have HC := hide (l06Code_any l b off cap w h hz)
  have HO : Hid (conOut l p = if codeL l = 0 then (if inB p 1 (l.length : Int) then (subV l p.toNat true, 0) else ([], 4)) else ([], codeL l)) := rfl
  have HK := hide (fun (hc : codeL l = 0) (q : Nat) (hq0 : 1 ≤ q) (hq : q ≤ l.length) => l06Sub_any l.length l q true b off cap w rfl (by omega) (codeL_ok hc).1 hq0 hq (codeL_ok hc).2 h)
  clear h hz
  generalize codeL l = c at *
  go_enter Tryd.func17, Tryd.ntmps17
  go_wp2_with fail
  refine (unhide HC).mono ?_
  rintro e w9 ⟨rfl, hw9⟩
  subst w9
  by_cases hc : c = 0
  · have HG := hide (unhide HK hc)
    subst hc
    rw [if_pos rfl] at HO
    have HW := hide (l01In_any p 1 (l.length : Int) w)
    have HI := hide (inB_iff (n := p) (lo := 1) (hi := (l.length : Int)))
    generalize inB p 1 (l.length : Int) = bb at *
    go_wp2_with fail
    refine (unhide HW).mono ?_
    rintro e w9 ⟨rfl, hw9⟩
    subst w9
    cases bb
    · rw [if_neg (by simp)] at HO
      go_wp2_with fail
      go_ret2
      exact ⟨_, by rw [unhide HO]; rfl, by rw [unhide HO]; exact own_noneS w _ _ rfl (Nat.le_refl _), (Below.refl _ _).alloc (Nat.le_refl _) _⟩
    · obtain ⟨q0, q1⟩ := (unhide HI).1 rfl
      obtain ⟨q, rfl⟩ : ∃ q : Nat, p = (q : Int) := ⟨p.toNat, by omega⟩
      rw [if_pos rfl, Int.toNat_natCast] at HO
      have HG2 := hide (unhide HG q (by omega) (by omega))
      go_wp2_with fail
      refine (unhide HG2).mono ?_
      rintro e w2 ⟨v, rfl, hO, hb2⟩
      have K := hide (And.intro hO hb2)
      clear hO hb2
      go_wp2_with fail
      go_ret2
      exact ⟨v, by rw [unhide HO]; rfl, by rw [unhide HO]; exact (unhide K).1, (unhide K).2⟩
  · rw [if_neg hc] at HO
    go_wp2_with fail
    go_ret2
    exact ⟨_, by rw [unhide HO]; rfl, by rw [unhide HO]; exact own_noneS w _ _ rfl (Nat.le_refl _), (Below.refl _ _).alloc (Nat.le_refl _) _⟩
end Go.Proofs.YtnaoccndghnmpaaDoor.Sha
