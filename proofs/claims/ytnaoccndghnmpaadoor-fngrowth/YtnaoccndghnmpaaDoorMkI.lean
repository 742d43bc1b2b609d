/- The hashes beside the way from a leaf up: inclusion, l06Path; InclusionProof. -/
import Derived.Test.YtnaoccndghnmpaaDoorMkT
import Derived.Test.YtnaoccndghnmpaaDoorStrL
namespace Go.Proofs.YtnaoccndghnmpaaDoor.Sha
open Go.ChangeShapes Go.WideShapes Go.ChangeAt Go.RowKit
set_option linter.unusedVariables false

/-- The hashes beside the way from a leaf up. -/
def pathV (l : List ByteArray) (p : Nat) : List ByteArray :=
  if h : l.length < 2 ∨ 64 < l.length then []
  else if p < half l.length then pathV (l.take (half l.length)) p ++ [treeV (l.drop (half l.length))]
  else pathV (l.drop (half l.length)) (p - half l.length) ++ [treeV (l.take (half l.length))]
termination_by l.length
decreasing_by
  · exact take_lt h
  · exact drop_lt h
theorem pathV_one {l : List ByteArray} (h : l.length = 1) (p : Nat) : pathV l p = [] := by rw [pathV, dif_pos (by omega)]
theorem pathV_lo {l : List ByteArray} (h : 2 ≤ l.length) (h2 : l.length ≤ 64) {p : Nat} (hp : p < half l.length) : pathV l p = pathV (l.take (half l.length)) p ++ [treeV (l.drop (half l.length))] := by rw [pathV, dif_neg (by omega), if_pos hp]
theorem pathV_hi {l : List ByteArray} (h : 2 ≤ l.length) (h2 : l.length ≤ 64) {p : Nat} (hp : ¬ p < half l.length) : pathV l p = pathV (l.drop (half l.length)) (p - half l.length) ++ [treeV (l.take (half l.length))] := by rw [pathV, dif_neg (by omega), if_neg hp]
theorem path_len : ∀ (n : Nat) (l : List ByteArray) (p : Nat), l.length = n → (pathV l p).length ≤ n := by
  intro n
  induction n using Nat.strongRecOn with
  | ind n ih =>
    intro l p hl
    by_cases h : l.length < 2 ∨ 64 < l.length
    · rw [pathV, dif_pos h]; simp
    · have hf := half_facts (n := l.length) (by omega) (by omega)
      have e1 : (l.take (half l.length)).length = half l.length := by rw [List.length_take]; omega
      have e2 : (l.drop (half l.length)).length = l.length - half l.length := List.length_drop ..
      by_cases hp : p < half l.length
      · rw [pathV_lo (by omega) (by omega) hp]
        have := ih _ (by omega) (l.take (half l.length)) p e1
        simp; omega
      · rw [pathV_hi (by omega) (by omega) hp]
        have := ih _ (by omega) (l.drop (half l.length)) (p - half l.length) e2
        simp; omega
theorem own_noneS (w : World) (B X : Nat) (hX : w.heap.size = X) (hB : B ≤ X) : OwnS B (w.alloc (.cells #[] 9)) (.slice (some ⟨X, 0, none⟩) 0 0) [] :=
  ⟨rfl, .inr ⟨X, 0, #[], rfl, hB, heap_new hX, Nat.le_refl _, by unfold maxLen; omega, rfl, rfl⟩⟩
theorem OwnS.pushed {B g cap n : Nat} {w : World} {l : List ByteArray} {t : ByteArray} (h : w.ownsRow B 9 1 (.slice (some ⟨g, 0, none⟩) n cap) n (l.map Value.string ++ [.string t])) : OwnS B w (.slice (some ⟨g, 0, none⟩) n cap) (l ++ [t]) := by
  have hn : n = (l ++ [t]).length := by have := h.1; simp at this; simp; omega
  unfold OwnS
  rw [← hn]
  simpa using h
theorem OwnS.onB {B B' : Nat} {w : World} {v : Value} {l : List ByteArray} (h : OwnS B w v l) (hB : B' ≤ B) : OwnS B' w v l := by
  obtain ⟨hl, hc⟩ := h
  refine ⟨hl, ?_⟩
  rcases hc with hn | ⟨g, cap, cur, hv, hb, rest⟩
  · exact .inl hn
  · exact .inr ⟨g, cap, cur, hv, by omega, rest⟩

theorem wrapQ {q : Nat} (h : q ≤ 1000000) : IntKind.i64.wrap (q : Int) = (q : Int) := by
  simp [IntKind.wrap, IntKind.bits, IntKind.signed]; omega
set_option maxRecDepth 100000 in
set_option maxHeartbeats 2000000 in
theorem inclusion_any : ∀ (n : Nat) (l : List ByteArray) (p b off cap : Nat) (w : World), l.length = n → 1 ≤ n → n ≤ 64 → p < n → AllH l → SA w b off cap l → Tab w →
    Calls Tryd.prog 33 #[.int .i64 p, .slice (some ⟨b, off, none⟩) n cap] w fun e w' => ∃ v, e = .returned v ∧ OwnS w.heap.size w' v (pathV l p) ∧ Below w.heap.size w w' := by
  intro n
  induction n using Nat.strongRecOn with
  | ind n ih =>
    intro l p b off cap w hl h1 hn hpn ha hs ht
    obtain ⟨i0, hi, hz0, hz1, hz2⟩ := info_parts9
    have HT := hide ht
    have hcap : n ≤ cap := by have := hs.le; omega
    have hcm : cap ≤ 9223372036854775807 := by have := hs.mx; unfold maxLen at this; omega
    rcases (show n = 1 ∨ 2 ≤ n by omega) with h | h
    · have HV := hide (pathV_one (l := l) (by omega) p)
      clear ih hl ha hs ht
      subst h
      go_enter Tryd.func33, Tryd.ntmps33
      go_wp2_with fail
      go_ret
      exact ⟨_, rfl, by rw [unhide HV]; exact OwnS.nil _ _, Below.refl _ _⟩
    have hf := half_facts (n := n) h hn
    have HP := hide (splitPlace_any n w h hn)
    have e1 : (l.take (half n)).length = half n := by rw [List.length_take]; omega
    have e2 : (l.drop (half n)).length = n - half n := by rw [List.length_drop]; omega
    by_cases hp : p < half n
    · have HV := hide (pathV_lo (l := l) (p := p) (by omega) (by omega) (by rw [hl]; exact hp))
      rw [hl] at HV
      have H1 : Hid (∀ wx, Below w.heap.size w wx → Calls Tryd.prog 33 #[.int .i64 (p : Nat), .slice (some ⟨b, off, none⟩) (half n) (cap)] wx fun e w' => ∃ v, e = .returned v ∧ OwnS wx.heap.size w' v (pathV (l.take (half n)) p) ∧ Below wx.heap.size wx w') := hide (fun wx hbx =>
        ih (half n) (by omega) (l.take (half n)) p b off cap wx e1 (by omega) (by omega) hp (ha.take _) ((hs.take _ (by omega)).below hbx) (ht.below hbx))
      have H2 : Hid (∀ wx, Below w.heap.size w wx → Calls Tryd.prog 29 #[.slice (some ⟨b, off + half n, none⟩) (n - half n) (cap - half n)] wx fun e w' => e = .returned (.string (treeV (l.drop (half n)))) ∧ Below wx.heap.size wx w') := hide (fun wx hbx =>
        treeHash_any (n - half n) (l.drop (half n)) b (off + half n) (cap - half n) wx e2 (by omega) (ha.drop _) ((hs.drop _ (by omega)).below hbx) (ht.below hbx))
      have hpl := path_len _ (l.take (half n)) p e1
      clear ih hl ha hs ht e1 e2
      generalize pathV (l.take (half n)) p = p1 at *
      generalize treeV (l.drop (half n)) = t2 at *
      generalize half n = k at *
      have k0 : (0 : Int) ≤ (k : Int) := by omega
      have k1 : (k : Int) ≤ (n : Int) := by omega
      have k2 : (k : Int) ≤ (cap : Int) := by omega
      have k5 : ¬ cap = k := by omega
      have k3 : (p : Int) < (k : Int) := by omega
      go_enter Tryd.func33, Tryd.ntmps33
      go_wp2_with fail
      refine (unhide HP).mono ?_
      rintro e w9 ⟨rfl, hw9⟩
      subst w9
      go_wp2_with fail
      go_region_held3 (fun _ => True) (trivial) (first
        | (refine step_append_lies _ (by rfl) _ _ _ (by rfl) w.heap.size 9 i0 _ 1 16 Tryd.underlying23 hi hz0 hz1 hz2 rfl (by omega) v1 p1.length (p1.map Value.string) (by rfl) (OwnS.below hO2 ((Below.refl w2.heap.size w2).alloc (Nat.le_refl _) (.cells #[.string t2] 9))) ⟨w2.heap.size, 0, none⟩ 1 1 [_] (by rfl) (by rfl) (World.news_of_block (cs := #[_]) (t := 9) (fr := (0, 0)) (heap_alloc_new w2 _)) (by simp [Value.oneCell']) (by omega) (by unfold maxLen; omega) (by omega) (by have := hb2.size; simp; omega) (w2.heap.size + 1) (by simp) ?_; intro gg capg w3 hown3 hgrow3 hat3 hlt3)
        | (go_at_call 29; refine (unhide H2 _ hb1).mono ?_; rintro e w2 ⟨rfl, hb2'⟩; have hb2 := hb1.trans (hb2'.mono hb1.size); have hO2 := hO1.below hb2')
        | (go_at_call 33; refine (unhide H1 _ ((Below.refl _ w).drew)).mono ?_; rintro e w1 ⟨v1, rfl, hO1, hb1'⟩; have hb1 := ((Below.refl _ w).drew).trans hb1'))
      have KO := hide (OwnS.pushed hown3)
      have KB := hide ((hb2.alloc hb2.size (.cells #[.string t2] 9)).grown hgrow3 (by have := hb2.size; simp; omega) (fun r hr => (hO2.lt r hr).1))
      clear hb1' hb1 hb2' hb2 hO1 hO2 hown3 hgrow3 hat3 hlt3
      go_wp2_with fail
      go_ret
      exact ⟨_, rfl, by rw [unhide HV]; exact unhide KO, unhide KB⟩
    · have HV := hide (pathV_hi (l := l) (p := p) (by omega) (by omega) (by rw [hl]; exact hp))
      rw [hl] at HV
      have H1 : Hid (∀ wx, Below w.heap.size w wx → Calls Tryd.prog 33 #[.int .i64 ((p - half n : Nat) : Int), .slice (some ⟨b, off + half n, none⟩) (n - half n) (cap - half n)] wx fun e w' => ∃ v, e = .returned v ∧ OwnS wx.heap.size w' v (pathV (l.drop (half n)) (p - half n)) ∧ Below wx.heap.size wx w') := hide (fun wx hbx =>
        ih (n - half n) (by omega) (l.drop (half n)) (p - half n) b (off + half n) (cap - half n) wx e2 (by omega) (by omega) (by omega) (ha.drop _) ((hs.drop _ (by omega)).below hbx) (ht.below hbx))
      have H2 : Hid (∀ wx, Below w.heap.size w wx → Calls Tryd.prog 29 #[.slice (some ⟨b, off, none⟩) (half n) (cap)] wx fun e w' => e = .returned (.string (treeV (l.take (half n)))) ∧ Below wx.heap.size wx w') := hide (fun wx hbx =>
        treeHash_any (half n) (l.take (half n)) b off cap wx e1 (by omega) (ha.take _) ((hs.take _ (by omega)).below hbx) (ht.below hbx))
      have hpl := path_len _ (l.drop (half n)) (p - half n) e2
      clear ih hl ha hs ht e1 e2
      generalize pathV (l.drop (half n)) (p - half n) = p1 at *
      generalize treeV (l.take (half n)) = t2 at *
      generalize half n = k at *
      have k0 : (0 : Int) ≤ (k : Int) := by omega
      have k1 : (k : Int) ≤ (n : Int) := by omega
      have k2 : (k : Int) ≤ (cap : Int) := by omega
      have k5 : ¬ cap = k := by omega
      have k3 : ¬ (p : Int) < (k : Int) := by omega
      obtain ⟨q, hq⟩ : ∃ q : Nat, q = p - k := ⟨_, rfl⟩
      have k4 : (p : Int) - (k : Int) = (q : Int) := by omega
      rw [← hq] at H1
      clear hq
      have k6 : IntKind.i64.wrap (q : Int) = (q : Int) := wrapQ (by omega)
      go_enter Tryd.func33, Tryd.ntmps33
      go_wp2_with fail
      refine (unhide HP).mono ?_
      rintro e w9 ⟨rfl, hw9⟩
      subst w9
      go_wp2_with fail
      go_region_held3 (fun _ => True) (trivial) (first
        | (refine step_append_lies _ (by rfl) _ _ _ (by rfl) w.heap.size 9 i0 _ 1 16 Tryd.underlying23 hi hz0 hz1 hz2 rfl (by omega) v1 p1.length (p1.map Value.string) (by rfl) (OwnS.below hO2 ((Below.refl w2.heap.size w2).alloc (Nat.le_refl _) (.cells #[.string t2] 9))) ⟨w2.heap.size, 0, none⟩ 1 1 [_] (by rfl) (by rfl) (World.news_of_block (cs := #[_]) (t := 9) (fr := (0, 0)) (heap_alloc_new w2 _)) (by simp [Value.oneCell']) (by omega) (by unfold maxLen; omega) (by omega) (by have := hb2.size; simp; omega) (w2.heap.size + 1) (by simp) ?_; intro gg capg w3 hown3 hgrow3 hat3 hlt3)
        | (go_at_call 29; refine (unhide H2 _ hb1).mono ?_; rintro e w2 ⟨rfl, hb2'⟩; have hb2 := hb1.trans (hb2'.mono hb1.size); have hO2 := hO1.below hb2')
        | (go_at_call 33; refine (unhide H1 _ ((Below.refl _ w).drew)).mono ?_; rintro e w1 ⟨v1, rfl, hO1, hb1'⟩; have hb1 := ((Below.refl _ w).drew).trans hb1'))
      have KO := hide (OwnS.pushed hown3)
      have KB := hide ((hb2.alloc hb2.size (.cells #[.string t2] 9)).grown hgrow3 (by have := hb2.size; simp; omega) (fun r hr => (hO2.lt r hr).1))
      clear hb1' hb1 hb2' hb2 hO1 hO2 hown3 hgrow3 hat3 hlt3
      go_wp2_with fail
      go_ret
      exact ⟨_, rfl, by rw [unhide HV]; exact unhide KO, unhide KB⟩
set_option maxRecDepth 100000 in
set_option maxHeartbeats 2000000 in
theorem l06Path_any : ∀ (n : Nat) (l : List ByteArray) (p b off cap : Nat) (w : World), l.length = n → 1 ≤ n → n ≤ 64 → p < n → AllH l → SA w b off cap l →
    Calls Tryd.prog 35 #[.slice (some ⟨b, off, none⟩) n cap, .int .i64 p] w fun e w' => ∃ v, e = .returned v ∧ OwnS w.heap.size w' v (pathV l p) ∧ Below w.heap.size w w' := by
  intro n
  induction n using Nat.strongRecOn with
  | ind n ih =>
    intro l p b off cap w hl h1 hn hpn ha hs
    obtain ⟨i0, hi, hz0, hz1, hz2⟩ := info_parts9
    have hcap : n ≤ cap := by have := hs.le; omega
    have hcm : cap ≤ 9223372036854775807 := by have := hs.mx; unfold maxLen at this; omega
    rcases (show n = 1 ∨ 2 ≤ n by omega) with h | h
    · have HV := hide (pathV_one (l := l) (by omega) p)
      clear ih hl ha hs
      subst h
      go_enter Tryd.func35, Tryd.ntmps35
      go_wp2_with fail
      go_ret
      exact ⟨_, rfl, by rw [unhide HV]; exact own_noneS w _ _ rfl (Nat.le_refl _), (Below.refl _ _).alloc (Nat.le_refl _) _⟩
    have hf := half_facts (n := n) h hn
    have HP := hide (l06Half_any n w h hn)
    have e1 : (l.take (half n)).length = half n := by rw [List.length_take]; omega
    have e2 : (l.drop (half n)).length = n - half n := by rw [List.length_drop]; omega
    by_cases hp : p < half n
    · have HV := hide (pathV_lo (l := l) (p := p) (by omega) (by omega) (by rw [hl]; exact hp))
      rw [hl] at HV
      have H1 : Hid (∀ wx, Below w.heap.size w wx → Calls Tryd.prog 35 #[.slice (some ⟨b, off, none⟩) (half n) (cap), .int .i64 (p : Nat)] wx fun e w' => ∃ v, e = .returned v ∧ OwnS wx.heap.size w' v (pathV (l.take (half n)) p) ∧ Below wx.heap.size wx w') := hide (fun wx hbx =>
        ih (half n) (by omega) (l.take (half n)) p b off cap wx e1 (by omega) (by omega) hp (ha.take _) ((hs.take _ (by omega)).below hbx))
      have H2 : Hid (∀ wx, Below w.heap.size w wx → Calls Tryd.prog 31 #[.slice (some ⟨b, off + half n, none⟩) (n - half n) (cap - half n)] wx fun e w' => e = .returned (.string (treeV (l.drop (half n)))) ∧ Below wx.heap.size wx w') := hide (fun wx hbx =>
        l06Tree_any (n - half n) (l.drop (half n)) b (off + half n) (cap - half n) wx e2 (by omega) (ha.drop _) ((hs.drop _ (by omega)).below hbx))
      have hpl := path_len _ (l.take (half n)) p e1
      clear ih hl ha hs e1 e2
      generalize pathV (l.take (half n)) p = p1 at *
      generalize treeV (l.drop (half n)) = t2 at *
      generalize half n = k at *
      have k0 : (0 : Int) ≤ (k : Int) := by omega
      have k1 : (k : Int) ≤ (n : Int) := by omega
      have k2 : (k : Int) ≤ (cap : Int) := by omega
      have k5 : ¬ cap = k := by omega
      have k3 : (p : Int) < (k : Int) := by omega
      go_enter Tryd.func35, Tryd.ntmps35
      go_wp2_with fail
      refine (unhide HP).mono ?_
      rintro e w9 ⟨rfl, hw9⟩
      subst w9
      go_wp2_with fail
      go_region_held3 (fun _ => True) (trivial) (first
        | (refine step_append_lies _ (by rfl) _ _ _ (by rfl) w.heap.size 9 i0 _ 1 16 Tryd.underlying23 hi hz0 hz1 hz2 rfl (by omega) v1 p1.length (p1.map Value.string) (by rfl) (OwnS.below hO2 ((Below.refl w2.heap.size w2).alloc (Nat.le_refl _) (.cells #[.string t2] 9))) ⟨w2.heap.size, 0, none⟩ 1 1 [_] (by rfl) (by rfl) (World.news_of_block (cs := #[_]) (t := 9) (fr := (0, 0)) (heap_alloc_new w2 _)) (by simp [Value.oneCell']) (by omega) (by unfold maxLen; omega) (by omega) (by have := hb2.size; simp; omega) (w2.heap.size + 1) (by simp) ?_; intro gg capg w3 hown3 hgrow3 hat3 hlt3)
        | (go_at_call 31; refine (unhide H2 _ hb1).mono ?_; rintro e w2 ⟨rfl, hb2'⟩; have hb2 := hb1.trans (hb2'.mono hb1.size); have hO2 := hO1.below hb2')
        | (go_at_call 35; refine (unhide H1 _ ((Below.refl _ w).drew)).mono ?_; rintro e w1 ⟨v1, rfl, hO1, hb1'⟩; have hb1 := ((Below.refl _ w).drew).trans hb1'))
      have KO := hide (OwnS.pushed hown3)
      have KB := hide ((hb2.alloc hb2.size (.cells #[.string t2] 9)).grown hgrow3 (by have := hb2.size; simp; omega) (fun r hr => (hO2.lt r hr).1))
      clear hb1' hb1 hb2' hb2 hO1 hO2 hown3 hgrow3 hat3 hlt3
      go_wp2_with fail
      go_ret
      exact ⟨_, rfl, by rw [unhide HV]; exact unhide KO, unhide KB⟩
    · have HV := hide (pathV_hi (l := l) (p := p) (by omega) (by omega) (by rw [hl]; exact hp))
      rw [hl] at HV
      have H1 : Hid (∀ wx, Below w.heap.size w wx → Calls Tryd.prog 35 #[.slice (some ⟨b, off + half n, none⟩) (n - half n) (cap - half n), .int .i64 ((p - half n : Nat) : Int)] wx fun e w' => ∃ v, e = .returned v ∧ OwnS wx.heap.size w' v (pathV (l.drop (half n)) (p - half n)) ∧ Below wx.heap.size wx w') := hide (fun wx hbx =>
        ih (n - half n) (by omega) (l.drop (half n)) (p - half n) b (off + half n) (cap - half n) wx e2 (by omega) (by omega) (by omega) (ha.drop _) ((hs.drop _ (by omega)).below hbx))
      have H2 : Hid (∀ wx, Below w.heap.size w wx → Calls Tryd.prog 31 #[.slice (some ⟨b, off, none⟩) (half n) (cap)] wx fun e w' => e = .returned (.string (treeV (l.take (half n)))) ∧ Below wx.heap.size wx w') := hide (fun wx hbx =>
        l06Tree_any (half n) (l.take (half n)) b off cap wx e1 (by omega) (ha.take _) ((hs.take _ (by omega)).below hbx))
      have hpl := path_len _ (l.drop (half n)) (p - half n) e2
      clear ih hl ha hs e1 e2
      generalize pathV (l.drop (half n)) (p - half n) = p1 at *
      generalize treeV (l.take (half n)) = t2 at *
      generalize half n = k at *
      have k0 : (0 : Int) ≤ (k : Int) := by omega
      have k1 : (k : Int) ≤ (n : Int) := by omega
      have k2 : (k : Int) ≤ (cap : Int) := by omega
      have k5 : ¬ cap = k := by omega
      have k3 : ¬ (p : Int) < (k : Int) := by omega
      obtain ⟨q, hq⟩ : ∃ q : Nat, q = p - k := ⟨_, rfl⟩
      have k4 : (p : Int) - (k : Int) = (q : Int) := by omega
      rw [← hq] at H1
      clear hq
      have k6 : IntKind.i64.wrap (q : Int) = (q : Int) := wrapQ (by omega)
      go_enter Tryd.func35, Tryd.ntmps35
      go_wp2_with fail
      refine (unhide HP).mono ?_
      rintro e w9 ⟨rfl, hw9⟩
      subst w9
      go_wp2_with fail
      go_region_held3 (fun _ => True) (trivial) (first
        | (refine step_append_lies _ (by rfl) _ _ _ (by rfl) w.heap.size 9 i0 _ 1 16 Tryd.underlying23 hi hz0 hz1 hz2 rfl (by omega) v1 p1.length (p1.map Value.string) (by rfl) (OwnS.below hO2 ((Below.refl w2.heap.size w2).alloc (Nat.le_refl _) (.cells #[.string t2] 9))) ⟨w2.heap.size, 0, none⟩ 1 1 [_] (by rfl) (by rfl) (World.news_of_block (cs := #[_]) (t := 9) (fr := (0, 0)) (heap_alloc_new w2 _)) (by simp [Value.oneCell']) (by omega) (by unfold maxLen; omega) (by omega) (by have := hb2.size; simp; omega) (w2.heap.size + 1) (by simp) ?_; intro gg capg w3 hown3 hgrow3 hat3 hlt3)
        | (go_at_call 31; refine (unhide H2 _ hb1).mono ?_; rintro e w2 ⟨rfl, hb2'⟩; have hb2 := hb1.trans (hb2'.mono hb1.size); have hO2 := hO1.below hb2')
        | (go_at_call 35; refine (unhide H1 _ ((Below.refl _ w).drew)).mono ?_; rintro e w1 ⟨v1, rfl, hO1, hb1'⟩; have hb1 := ((Below.refl _ w).drew).trans hb1'))
      have KO := hide (OwnS.pushed hown3)
      have KB := hide ((hb2.alloc hb2.size (.cells #[.string t2] 9)).grown hgrow3 (by have := hb2.size; simp; omega) (fun r hr => (hO2.lt r hr).1))
      clear hb1' hb1 hb2' hb2 hO1 hO2 hown3 hgrow3 hat3 hlt3
      go_wp2_with fail
      go_ret
      exact ⟨_, rfl, by rw [unhide HV]; exact unhide KO, unhide KB⟩
/-- What InclusionProof answers: the hashes, the code. -/
def incOut (l : List ByteArray) (p : Int) : List ByteArray × Int := if codeL l = 0 then (if inB p 0 ((l.length : Int) - 1) then (pathV l p.toNat, 0) else ([], 4)) else ([], codeL l)
theorem inc_len (l : List ByteArray) (p : Int) : (incOut l p).1.length ≤ l.length := by
  unfold incOut; split
  · split
    · exact path_len _ l _ rfl
    · simp
  · simp
set_option maxRecDepth 100000 in
set_option maxHeartbeats 1000000 in
theorem implInc_any (l : List ByteArray) (p : Int) (b off cap : Nat) (w : World) (h : SA w b off cap l) (hz : ∀ i, (l.getD i ByteArray.empty).size ≤ 1048576) (ht : Tab w) :
    Calls Tryd.prog 10 #[.slice (some ⟨b, off, none⟩) l.length cap, .int .i64 p] w fun e w' => ∃ v, e = .returned (.tuple #[v, .int .i64 (incOut l p).2]) ∧ OwnS w.heap.size w' v (incOut l p).1 ∧ Below w.heap.size w w' := by
  have hle : l.length ≤ 9223372036854775807 := by have := h.le; have := h.mx; unfold maxLen at this; omega
  have HC := hide (hashesFault_any l b off cap w h hz)
  have HO : Hid (incOut l p = if codeL l = 0 then (if inB p 0 ((l.length : Int) - 1) then (pathV l p.toNat, 0) else ([], 4)) else ([], codeL l)) := rfl
  have HK := hide (fun (hc : codeL l = 0) (q : Nat) (hq : q < l.length) => inclusion_any l.length l q b off cap w rfl (by omega) (codeL_ok hc).1 hq (codeL_ok hc).2 h ht)
  clear h hz ht
  generalize codeL l = c at *
  go_enter Tryd.func10, Tryd.ntmps10
  go_wp2_with fail
  refine (unhide HC).mono ?_
  rintro e w9 ⟨rfl, hw9⟩
  subst w9
  by_cases hc : c = 0
  · have HG := hide (unhide HK hc)
    subst hc
    rw [if_pos rfl] at HO
    have HW := hide (within_any p 0 ((l.length : Int) - 1) w)
    have HI := hide (inB_iff (n := p) (lo := 0) (hi := (l.length : Int) - 1))
    generalize inB p 0 ((l.length : Int) - 1) = bb at *
    go_wp2_with fail
    refine (unhide HW).mono ?_
    rintro e w9 ⟨rfl, hw9⟩
    subst w9
    cases bb
    · rw [if_neg (by simp)] at HO
      go_wp2_with fail
      go_ret2
      exact ⟨_, by rw [unhide HO]; rfl, by rw [unhide HO]; exact OwnS.nil _ _, Below.refl _ _⟩
    · obtain ⟨q0, q1⟩ := (unhide HI).1 rfl
      obtain ⟨q, rfl⟩ : ∃ q : Nat, p = (q : Int) := ⟨p.toNat, by omega⟩
      rw [if_pos rfl, Int.toNat_natCast] at HO
      have HG2 := hide (unhide HG q (by omega))
      go_wp2_with fail
      refine (unhide HG2).mono ?_
      rintro e w2 ⟨v, rfl, hO, hb2⟩
      have K := hide (And.intro hO hb2)
      clear hO hb2
      go_wp2_with fail
      go_ret2
      exact ⟨v, by rw [unhide HO]; rfl, by rw [unhide HO]; exact (unhide K).1, (unhide K).2⟩
  · rw [if_neg hc] at HO
    go_wp2_with fail
    go_ret2
    exact ⟨_, by rw [unhide HO]; rfl, by rw [unhide HO]; exact OwnS.nil _ _, Below.refl _ _⟩
set_option maxRecDepth 100000 in
set_option maxHeartbeats 1000000 in
theorem specInc_any (l : List ByteArray) (p : Int) (b off cap : Nat) (w : World) (h : SA w b off cap l) (hz : ∀ i, (l.getD i ByteArray.empty).size ≤ 1048576) :
    Calls Tryd.prog 11 #[.slice (some ⟨b, off, none⟩) l.length cap, .int .i64 p] w fun e w' => ∃ v, e = .returned (.tuple #[v, .int .i64 (incOut l p).2]) ∧ OwnS w.heap.size w' v (incOut l p).1 ∧ Below w.heap.size w w' := by
  have hle : l.length ≤ 9223372036854775807 := by have := h.le; have := h.mx; unfold maxLen at this; omega
  by_cases h4 : 4096 < l.length
  · have H : Hid (incOut l p = ([], 2)) := hide (by
      have e : codeL l = 2 := by unfold codeL; rw [if_pos h4]
      unfold incOut; rw [e]; rfl)
    clear h hz
    go_enter Tryd.func11, Tryd.ntmps11
    go_wp2_with fail
    go_ret2
    exact ⟨_, by rw [unhide H]; rfl, by rw [unhide H]; exact own_noneS w _ _ rfl (Nat.le_refl _), (Below.refl _ _).alloc (Nat.le_refl _) _⟩
  have HC := hide (l06Code_any l b off cap w h hz)
  have HO : Hid (incOut l p = if codeL l = 0 then (if inB p 0 ((l.length : Int) - 1) then (pathV l p.toNat, 0) else ([], 4)) else ([], codeL l)) := rfl
  have HK := hide (fun (hc : codeL l = 0) (q : Nat) (hq : q < l.length) => l06Path_any l.length l q b off cap w rfl (by omega) (codeL_ok hc).1 hq (codeL_ok hc).2 h)
  clear h hz
  generalize codeL l = c at *
  go_enter Tryd.func11, Tryd.ntmps11
  go_wp2_with fail
  refine (unhide HC).mono ?_
  rintro e w9 ⟨rfl, hw9⟩
  subst w9
  by_cases hc : c = 0
  · have HG := hide (unhide HK hc)
    subst hc
    rw [if_pos rfl] at HO
    have HW := hide (l01In_any p 0 ((l.length : Int) - 1) w)
    have HI := hide (inB_iff (n := p) (lo := 0) (hi := (l.length : Int) - 1))
    generalize inB p 0 ((l.length : Int) - 1) = bb at *
    go_wp2_with fail
    refine (unhide HW).mono ?_
    rintro e w9 ⟨rfl, hw9⟩
    subst w9
    cases bb
    · rw [if_neg (by simp)] at HO
      go_wp2_with fail
      go_ret2
      exact ⟨_, by rw [unhide HO]; rfl, by rw [unhide HO]; exact own_noneS w _ _ rfl (Nat.le_refl _), (Below.refl _ _).alloc (Nat.le_refl _) _⟩
    · obtain ⟨q0, q1⟩ := (unhide HI).1 rfl
      obtain ⟨q, rfl⟩ : ∃ q : Nat, p = (q : Int) := ⟨p.toNat, by omega⟩
      rw [if_pos rfl, Int.toNat_natCast] at HO
      have HG2 := hide (unhide HG q (by omega))
      go_wp2_with fail
      refine (unhide HG2).mono ?_
      rintro e w2 ⟨v, rfl, hO, hb2⟩
      have K := hide (And.intro hO hb2)
      clear hO hb2
      go_wp2_with fail
      go_ret2
      exact ⟨v, by rw [unhide HO]; rfl, by rw [unhide HO]; exact (unhide K).1, (unhide K).2⟩
  · rw [if_neg hc] at HO
    go_wp2_with fail
    go_ret2
    exact ⟨_, by rw [unhide HO]; rfl, by rw [unhide HO]; exact own_noneS w _ _ rfl (Nat.le_refl _), (Below.refl _ _).alloc (Nat.le_refl _) _⟩
end Go.Proofs.YtnaoccndghnmpaaDoor.Sha
