/- impl.LedgerOK. The hash of a log: treeHash, l06Tree; TreeHash. The hashes beside the way from a leaf up: inclusion, l06Path; InclusionProof. The hashes that prove that a log grew: consistency, l06Sub; ConsistencyProof. strings.Clone: by the library's own contract of internal/stringslite.Clone, laid at this program. ownTexts; ProveEntry and ProveGrowth, in both packages. (Written by py/prv.py.) -/
import Derived.Test.YtkojmnlfpccbiaaDoorLeI
import Derived.Test.YtkojmnlfpccbiaaDoorMkA
import Derived.Test.YtkojmnlfpccbiaaDoorMkH
import Derived.Test.YtkojmnlfpccbiaaDoorStrL
import Derived.Test.YtkojmnlfpccbiaaDoorIn
import Derived.Shelf.Pu.Clone
import Derived.Test.YtkojmnlfpccbiaaDoorLeS
import Derived.Deep.AppendLies
namespace Go.Proofs.YtkojmnlfpccbiaaDoor.Sha
open Go.ChangeShapes Go.WideShapes Go.ChangeAt Go.RowKit
set_option linter.unusedVariables false

set_option maxRecDepth 100000 in
set_option maxHeartbeats 1000000 in
theorem implLedgerOK_any (ls : List ByteArray) (k v : ByteArray) (a : Int) (ks : List Br) (ss : List Se) (lb loff lc : Nat) (ka : Option Addr) (kc : Nat) (sx : Addr) (sc : Nat) (w : World)
    (hS : SA w lb loff lc ls) (h : LedR w (.slice (some ⟨lb, loff, none⟩) ls.length lc) (.slice ka ks.length kc) (.slice (some sx) ss.length sc) ls ks ss) (t1 : ∀ i, (ls.getD i ByteArray.empty).size ≤ 1048576) (zk : k.size ≤ maxLen) (zv : v.size ≤ maxLen) (t3 : ∀ i, (ss.getD i default).vl.size ≤ 1048576) (ht : Tab w) :
    Calls Tryd.prog 37 #[.agg #[.slice (some ⟨lb, loff, none⟩) ls.length lc, .string k, .string v, .int .i64 a, .slice ka ks.length kc, .slice (some sx) ss.length sc]] w fun e w' => e = .returned (.bool (ledB ls (.mk k v a ks) ss)) ∧ Below w.heap.size w w' := by
  have B0 := hide ((Below.refl w.heap.size w).alloc (Nat.le_refl _) (.cells #[.slice (some ⟨lb, loff, none⟩) ls.length lc, .string k, .string v, .int .i64 a, .slice ka ks.length kc, .slice (some sx) ss.length sc] 39))
  have HB := hide (openBook_any ls k v a ks ss lb loff lc ka kc sx sc _ (hS.below (unhide B0)) (h.below (unhide B0)) t1 zk zv t3 (ht.below (unhide B0)))
  clear hS h t1 zk zv t3 ht
  go_enter Tryd.func37, Tryd.ntmps37
  go_wp2_with fail
  refine (unhide HB).mono ?_
  rintro e w1 ⟨pv, rfl, hb1, _⟩
  have K1 := hide ((unhide B0).trans (hb1.mono (unhide B0).size))
  clear hb1
  go_wp2_with fail
  go_ret
  first
    | exact ⟨rfl, unhide K1⟩
    | exact ⟨by simp, unhide K1⟩
end Go.Proofs.YtkojmnlfpccbiaaDoor.Sha
namespace Go.Proofs.YtkojmnlfpccbiaaDoor.Sha
open Go.ChangeShapes Go.WideShapes Go.ChangeAt Go.RowKit
set_option linter.unusedVariables false

theorem take_lt {l : List ByteArray} (h : ¬ (l.length < 2 ∨ 64 < l.length)) : (l.take (half l.length)).length < l.length := by
  have := half_facts (n := l.length) (by omega) (by omega)
  rw [List.length_take]; omega
theorem drop_lt {l : List ByteArray} (h : ¬ (l.length < 2 ∨ 64 < l.length)) : (l.drop (half l.length)).length < l.length := by
  have := half_facts (n := l.length) (by omega) (by omega)
  rw [List.length_drop]; omega
/-- The hash of a log. -/
def treeV (l : List ByteArray) : ByteArray :=
  if h : l.length < 2 ∨ 64 < l.length then (if l.length = 0 then hashV [] else l.getD 0 ByteArray.empty)
  else nodeV (treeV (l.take (half l.length))) (treeV (l.drop (half l.length)))
termination_by l.length
decreasing_by
  · exact take_lt h
  · exact drop_lt h
theorem treeV_none {l : List ByteArray} (h : l.length = 0) : treeV l = hashV [] := by rw [treeV, dif_pos (by omega), if_pos h]
theorem treeV_one {l : List ByteArray} (h : l.length = 1) : treeV l = l.getD 0 ByteArray.empty := by rw [treeV, dif_pos (by omega), if_neg (by omega)]
theorem treeV_two {l : List ByteArray} (h : 2 ≤ l.length) (h2 : l.length ≤ 64) : treeV l = nodeV (treeV (l.take (half l.length))) (treeV (l.drop (half l.length))) := by rw [treeV, dif_neg (by omega)]
def AllH (l : List ByteArray) : Prop := ∀ j, j < l.length → (l.getD j ByteArray.empty).size = 32
theorem AllH.take {l : List ByteArray} (h : AllH l) (k : Nat) : AllH (l.take k) := by
  intro j hj
  rw [List.length_take] at hj
  have := h j (by omega)
  rw [List.getD_eq_getElem?_getD] at this ⊢
  rw [List.getElem?_take, if_pos (by omega)]; exact this
theorem AllH.drop {l : List ByteArray} (h : AllH l) (k : Nat) : AllH (l.drop k) := by
  intro j hj
  rw [List.length_drop] at hj
  have := h (k + j) (by omega)
  rw [List.getD_eq_getElem?_getD] at this ⊢
  rw [List.getElem?_drop]; exact this
theorem tree_size : ∀ (n : Nat) (l : List ByteArray), l.length = n → n ≤ 64 → AllH l → (treeV l).size = 32 := by
  intro n
  induction n using Nat.strongRecOn with
  | ind n ih =>
    intro l hl hn ha
    rcases (show n = 0 ∨ n = 1 ∨ 2 ≤ n by omega) with h | h | h
    · rw [treeV_none (by omega)]; exact hash_size (by simp)
    · rw [treeV_one (by omega)]; exact ha 0 (by omega)
    · rw [treeV_two (by omega) (by omega)]
      have hf := half_facts (n := l.length) (by omega) (by omega)
      have e1 : (l.take (half l.length)).length = half l.length := by rw [List.length_take]; omega
      have e2 : (l.drop (half l.length)).length = l.length - half l.length := List.length_drop ..
      exact node_size (ih _ (by omega) _ e1 (by omega) (ha.take _)) (ih _ (by omega) _ e2 (by omega) (ha.drop _))

set_option maxRecDepth 100000 in
set_option maxHeartbeats 2000000 in
theorem treeHash_any : ∀ (n : Nat) (l : List ByteArray) (b off cap : Nat) (w : World), l.length = n → n ≤ 64 → AllH l → SA w b off cap l → Tab w →
    Calls Tryd.prog 59 #[.slice (some ⟨b, off, none⟩) n cap] w fun e w' => e = .returned (.string (treeV l)) ∧ Below w.heap.size w w' := by
  intro n
  induction n using Nat.strongRecOn with
  | ind n ih =>
    intro l b off cap w hl hn ha hs ht
    have HT := hide ht
    have HS := hide hs
    have HA := hide ha
    have HL := hide hl
    have hcap : n ≤ cap := by have := hs.le; omega
    have hcm : cap ≤ 9223372036854775807 := by have := hs.mx; unfold maxLen at this; omega
    rcases (show n = 0 ∨ n = 1 ∨ 2 ≤ n by omega) with h | h | h
    · have HV := hide (treeV_none (l := l) (by omega))
      have HH := hide (implHash_any (.slice none 0 0) [] w ⟨none, 0, rfl, by unfold maxLen; simp, .inl rfl, fun i => by simp⟩ ht.2 ht.1)
      clear ih hl ha hs ht
      subst h
      go_enter Tryd.func59, Tryd.ntmps59
      go_wp2_with fail
      refine (unhide HH).mono ?_
      rintro e w1 ⟨rfl, hb1⟩
      have K := hide hb1
      clear hb1
      rw [← unhide HV]
      go_wp2_with fail
      go_ret
      exact ⟨rfl, unhide K⟩
    · have HV := hide (treeV_one (l := l) (by omega))
      have c0 := hs.cell 0 (by omega)
      rw [Nat.add_zero] at c0
      clear ih hl ha hs ht
      subst h
      rw [← unhide HV] at c0
      go_enter Tryd.func59, Tryd.ntmps59
      go_wp2_with fail
      go_ret
      exact ⟨rfl, Below.refl _ _⟩
    · have HV := hide (treeV_two (l := l) (by omega) (by omega))
      have hf := half_facts (n := n) h hn
      have HP := hide (splitPlace_any n w h hn)
      rw [hl] at HV
      have z1 := tree_size (half n) (l.take (half n)) (by rw [List.length_take]; omega) (by omega) (ha.take _)
      have z2 := tree_size (n - half n) (l.drop (half n)) (by rw [List.length_drop]; omega) (by omega) (ha.drop _)
      have HZ := hide (And.intro z1 z2)
      have H1 : Hid (∀ wx, Below w.heap.size w wx → Calls Tryd.prog 59 #[.slice (some ⟨b, off, none⟩) (half n) cap] wx fun e w' => e = .returned (.string (treeV (l.take (half n)))) ∧ Below wx.heap.size wx w') := hide (fun wx hbx =>
        ih (half n) (by omega) (l.take (half n)) b off cap wx (by rw [List.length_take]; omega) (by omega) (ha.take _) ((hs.take _ (by omega)).below hbx) (ht.below hbx))
      have H2 : Hid (∀ wx, Below w.heap.size w wx → Calls Tryd.prog 59 #[.slice (some ⟨b, off + half n, none⟩) (n - half n) (cap - half n)] wx fun e w' => e = .returned (.string (treeV (l.drop (half n)))) ∧ Below wx.heap.size wx w') := hide (fun wx hbx =>
        ih (n - half n) (by omega) (l.drop (half n)) b (off + half n) (cap - half n) wx (by rw [List.length_drop]; omega) (by omega) (ha.drop _) ((hs.drop _ (by omega)).below hbx) (ht.below hbx))
      clear ih hl ha hs ht z1 z2
      generalize treeV (l.take (half n)) = t1 at *
      generalize treeV (l.drop (half n)) = t2 at *
      generalize half n = k at *
      have k0 : (0 : Int) ≤ (k : Int) := by omega
      have k1 : (k : Int) ≤ (n : Int) := by omega
      have k2 : (k : Int) ≤ (cap : Int) := by omega
      go_enter Tryd.func59, Tryd.ntmps59
      go_wp2_with fail
      refine (unhide HP).mono ?_
      rintro e w9 ⟨rfl, hw9⟩
      subst w9
      go_wp2_with fail
      go_region_held3 (fun _ => True) (trivial) (first
        | (go_at_call 85; refine (nodeHash_any t1 t2 _ (unhide HZ).1 (unhide HZ).2 ((unhide HT).below hb2)).mono ?_; rintro e w3 ⟨rfl, hb3⟩)
        | (go_at_call 59; refine (unhide H2 _ hb1).mono ?_; rintro e w2 ⟨rfl, hb2'⟩; have hb2 := hb1.trans (hb2'.mono hb1.size))
        | (go_at_call 59; refine (unhide H1 _ ((Below.refl _ w).drew)).mono ?_; rintro e w1 ⟨rfl, hb1'⟩; have hb1 := ((Below.refl _ w).drew).trans hb1'))
      have K := hide (hb2.trans (hb3.mono hb2.size))
      clear hb1' hb1 hb2' hb2 hb3
      rw [← unhide HV]
      go_wp2_with fail
      go_ret
      exact ⟨rfl, unhide K⟩
set_option maxRecDepth 100000 in
set_option maxHeartbeats 2000000 in
theorem l06Tree_any : ∀ (n : Nat) (l : List ByteArray) (b off cap : Nat) (w : World), l.length = n → n ≤ 64 → AllH l → SA w b off cap l →
    Calls Tryd.prog 49 #[.slice (some ⟨b, off, none⟩) n cap] w fun e w' => e = .returned (.string (treeV l)) ∧ Below w.heap.size w w' := by
  intro n
  induction n using Nat.strongRecOn with
  | ind n ih =>
    intro l b off cap w hl hn ha hs
    have HS := hide hs
    have HA := hide ha
    have HL := hide hl
    have hcap : n ≤ cap := by have := hs.le; omega
    have hcm : cap ≤ 9223372036854775807 := by have := hs.mx; unfold maxLen at this; omega
    rcases (show n = 0 ∨ n = 1 ∨ 2 ≤ n by omega) with h | h | h
    · have HV := hide (treeV_none (l := l) (by omega))
      have hV : Hid (hashV [] = strOfNums (textL (stAt [] (padLen 0 / 64)))) := hide (hashV_yes (by simp))
      have HH := hide (l01Hash_any ⟨w.heap.size, 0, none⟩ 0 [] (w.alloc (.cells #[] 5)) (own_empty w w.heap.size w.heap.size rfl (Nat.le_refl _)).bytes (by simp))
      have B0 := hide ((Below.refl w.heap.size w).alloc (Nat.le_refl _) (.cells #[] 5))
      simp only [List.length_nil] at HH
      clear ih hl ha hs
      subst h
      go_enter Tryd.func49, Tryd.ntmps49
      go_wp2_with fail
      refine (unhide HH).mono ?_
      rintro e w1 ⟨rfl, hb1⟩
      have K := hide ((unhide B0).trans (hb1.mono (unhide B0).size))
      clear hb1
      rw [← unhide hV, ← unhide HV]
      go_wp2_with fail
      go_ret
      exact ⟨rfl, unhide K⟩
    · have HV := hide (treeV_one (l := l) (by omega))
      have c0 := hs.cell 0 (by omega)
      rw [Nat.add_zero] at c0
      clear ih hl ha hs
      subst h
      rw [← unhide HV] at c0
      go_enter Tryd.func49, Tryd.ntmps49
      go_wp2_with fail
      go_ret
      exact ⟨rfl, Below.refl _ _⟩
    · have HV := hide (treeV_two (l := l) (by omega) (by omega))
      have hf := half_facts (n := n) h hn
      have HP := hide (l06Half_any n w h hn)
      rw [hl] at HV
      have z1 := tree_size (half n) (l.take (half n)) (by rw [List.length_take]; omega) (by omega) (ha.take _)
      have z2 := tree_size (n - half n) (l.drop (half n)) (by rw [List.length_drop]; omega) (by omega) (ha.drop _)
      have HZ := hide (And.intro z1 z2)
      have H1 : Hid (∀ wx, Below w.heap.size w wx → Calls Tryd.prog 49 #[.slice (some ⟨b, off, none⟩) (half n) cap] wx fun e w' => e = .returned (.string (treeV (l.take (half n)))) ∧ Below wx.heap.size wx w') := hide (fun wx hbx =>
        ih (half n) (by omega) (l.take (half n)) b off cap wx (by rw [List.length_take]; omega) (by omega) (ha.take _) ((hs.take _ (by omega)).below hbx))
      have H2 : Hid (∀ wx, Below w.heap.size w wx → Calls Tryd.prog 49 #[.slice (some ⟨b, off + half n, none⟩) (n - half n) (cap - half n)] wx fun e w' => e = .returned (.string (treeV (l.drop (half n)))) ∧ Below wx.heap.size wx w') := hide (fun wx hbx =>
        ih (n - half n) (by omega) (l.drop (half n)) b (off + half n) (cap - half n) wx (by rw [List.length_drop]; omega) (by omega) (ha.drop _) ((hs.drop _ (by omega)).below hbx))
      clear ih hl ha hs z1 z2
      generalize treeV (l.take (half n)) = t1 at *
      generalize treeV (l.drop (half n)) = t2 at *
      generalize half n = k at *
      have k0 : (0 : Int) ≤ (k : Int) := by omega
      have k1 : (k : Int) ≤ (n : Int) := by omega
      have k2 : (k : Int) ≤ (cap : Int) := by omega
      go_enter Tryd.func49, Tryd.ntmps49
      go_wp2_with fail
      refine (unhide HP).mono ?_
      rintro e w9 ⟨rfl, hw9⟩
      subst w9
      go_wp2_with fail
      go_region_held3 (fun _ => True) (trivial) (first
        | (go_at_call 74; refine (l06Node_any t1 t2 _ (unhide HZ).1 (unhide HZ).2).mono ?_; rintro e w3 ⟨rfl, hb3⟩)
        | (go_at_call 49; refine (unhide H2 _ hb1).mono ?_; rintro e w2 ⟨rfl, hb2'⟩; have hb2 := hb1.trans (hb2'.mono hb1.size))
        | (go_at_call 49; refine (unhide H1 _ ((Below.refl _ w).drew)).mono ?_; rintro e w1 ⟨rfl, hb1'⟩; have hb1 := ((Below.refl _ w).drew).trans hb1'))
      have K := hide (hb2.trans (hb3.mono hb2.size))
      clear hb1' hb1 hb2' hb2 hb3
      rw [← unhide HV]
      go_wp2_with fail
      go_ret
      exact ⟨rfl, unhide K⟩

/-- What TreeHash answers. -/
def treeOut (l : List ByteArray) : Value := if codeL l = 0 then .tuple #[.string (treeV l), .int .i64 0] else .tuple #[.string ⟨#[]⟩, .int .i64 (codeL l)]
end Go.Proofs.YtkojmnlfpccbiaaDoor.Sha
namespace Go.Proofs.YtkojmnlfpccbiaaDoor.Sha
open Go.ChangeShapes Go.WideShapes Go.ChangeAt Go.RowKit
set_option linter.unusedVariables false

/-- The hashes beside the way from a leaf up. -/
def pathV (l : List ByteArray) (p : Nat) : List ByteArray :=
  if h : l.length < 2 ∨ 64 < l.length then []
  else if p < half l.length then pathV (l.take (half l.length)) p ++ [treeV (l.drop (half l.length))]
  else pathV (l.drop (half l.length)) (p - half l.length) ++ [treeV (l.take (half l.length))]
termination_by l.length
decreasing_by
  · exact take_lt h
  · exact drop_lt h
theorem pathV_one {l : List ByteArray} (h : l.length = 1) (p : Nat) : pathV l p = [] := by rw [pathV, dif_pos (by omega)]
theorem pathV_lo {l : List ByteArray} (h : 2 ≤ l.length) (h2 : l.length ≤ 64) {p : Nat} (hp : p < half l.length) : pathV l p = pathV (l.take (half l.length)) p ++ [treeV (l.drop (half l.length))] := by rw [pathV, dif_neg (by omega), if_pos hp]
theorem pathV_hi {l : List ByteArray} (h : 2 ≤ l.length) (h2 : l.length ≤ 64) {p : Nat} (hp : ¬ p < half l.length) : pathV l p = pathV (l.drop (half l.length)) (p - half l.length) ++ [treeV (l.take (half l.length))] := by rw [pathV, dif_neg (by omega), if_neg hp]
theorem path_len : ∀ (n : Nat) (l : List ByteArray) (p : Nat), l.length = n → (pathV l p).length ≤ n := by
  intro n
  induction n using Nat.strongRecOn with
  | ind n ih =>
    intro l p hl
    by_cases h : l.length < 2 ∨ 64 < l.length
    · rw [pathV, dif_pos h]; simp
    · have hf := half_facts (n := l.length) (by omega) (by omega)
      have e1 : (l.take (half l.length)).length = half l.length := by rw [List.length_take]; omega
      have e2 : (l.drop (half l.length)).length = l.length - half l.length := List.length_drop ..
      by_cases hp : p < half l.length
      · rw [pathV_lo (by omega) (by omega) hp]
        have := ih _ (by omega) (l.take (half l.length)) p e1
        simp; omega
      · rw [pathV_hi (by omega) (by omega) hp]
        have := ih _ (by omega) (l.drop (half l.length)) (p - half l.length) e2
        simp; omega
theorem own_noneS (w : World) (B X : Nat) (hX : w.heap.size = X) (hB : B ≤ X) : OwnS B (w.alloc (.cells #[] 9)) (.slice (some ⟨X, 0, none⟩) 0 0) [] :=
  ⟨rfl, .inr ⟨X, 0, #[], rfl, hB, heap_new hX, Nat.le_refl _, by unfold maxLen; omega, rfl, rfl⟩⟩
theorem OwnS.pushed {B g cap n : Nat} {w : World} {l : List ByteArray} {t : ByteArray} (h : w.ownsRow B 9 1 (.slice (some ⟨g, 0, none⟩) n cap) n (l.map Value.string ++ [.string t])) : OwnS B w (.slice (some ⟨g, 0, none⟩) n cap) (l ++ [t]) := by
  have hn : n = (l ++ [t]).length := by have := h.1; simp at this; simp; omega
  unfold OwnS
  rw [← hn]
  simpa using h
theorem OwnS.onB {B B' : Nat} {w : World} {v : Value} {l : List ByteArray} (h : OwnS B w v l) (hB : B' ≤ B) : OwnS B' w v l := by
  obtain ⟨hl, hc⟩ := h
  refine ⟨hl, ?_⟩
  rcases hc with hn | ⟨g, cap, cur, hv, hb, rest⟩
  · exact .inl hn
  · exact .inr ⟨g, cap, cur, hv, by omega, rest⟩

theorem wrapQ {q : Nat} (h : q ≤ 1000000) : IntKind.i64.wrap (q : Int) = (q : Int) := by
  simp [IntKind.wrap, IntKind.bits, IntKind.signed]; omega
set_option maxRecDepth 100000 in
set_option maxHeartbeats 2000000 in
theorem inclusion_any : ∀ (n : Nat) (l : List ByteArray) (p b off cap : Nat) (w : World), l.length = n → 1 ≤ n → n ≤ 64 → p < n → AllH l → SA w b off cap l → Tab w →
    Calls Tryd.prog 67 #[.int .i64 p, .slice (some ⟨b, off, none⟩) n cap] w fun e w' => ∃ v, e = .returned v ∧ OwnS w.heap.size w' v (pathV l p) ∧ Below w.heap.size w w' := by
  intro n
  induction n using Nat.strongRecOn with
  | ind n ih =>
    intro l p b off cap w hl h1 hn hpn ha hs ht
    obtain ⟨i0, hi, hz0, hz1, hz2⟩ := info_parts9
    have HT := hide ht
    have hcap : n ≤ cap := by have := hs.le; omega
    have hcm : cap ≤ 9223372036854775807 := by have := hs.mx; unfold maxLen at this; omega
    rcases (show n = 1 ∨ 2 ≤ n by omega) with h | h
    · have HV := hide (pathV_one (l := l) (by omega) p)
      clear ih hl ha hs ht
      subst h
      go_enter Tryd.func67, Tryd.ntmps67
      go_wp2_with fail
      go_ret
      exact ⟨_, rfl, by rw [unhide HV]; exact OwnS.nil _ _, Below.refl _ _⟩
    have hf := half_facts (n := n) h hn
    have HP := hide (splitPlace_any n w h hn)
    have e1 : (l.take (half n)).length = half n := by rw [List.length_take]; omega
    have e2 : (l.drop (half n)).length = n - half n := by rw [List.length_drop]; omega
    by_cases hp : p < half n
    · have HV := hide (pathV_lo (l := l) (p := p) (by omega) (by omega) (by rw [hl]; exact hp))
      rw [hl] at HV
      have H1 : Hid (∀ wx, Below w.heap.size w wx → Calls Tryd.prog 67 #[.int .i64 (p : Nat), .slice (some ⟨b, off, none⟩) (half n) (cap)] wx fun e w' => ∃ v, e = .returned v ∧ OwnS wx.heap.size w' v (pathV (l.take (half n)) p) ∧ Below wx.heap.size wx w') := hide (fun wx hbx =>
        ih (half n) (by omega) (l.take (half n)) p b off cap wx e1 (by omega) (by omega) hp (ha.take _) ((hs.take _ (by omega)).below hbx) (ht.below hbx))
      have H2 : Hid (∀ wx, Below w.heap.size w wx → Calls Tryd.prog 59 #[.slice (some ⟨b, off + half n, none⟩) (n - half n) (cap - half n)] wx fun e w' => e = .returned (.string (treeV (l.drop (half n)))) ∧ Below wx.heap.size wx w') := hide (fun wx hbx =>
        treeHash_any (n - half n) (l.drop (half n)) b (off + half n) (cap - half n) wx e2 (by omega) (ha.drop _) ((hs.drop _ (by omega)).below hbx) (ht.below hbx))
      have hpl := path_len _ (l.take (half n)) p e1
      clear ih hl ha hs ht e1 e2
      generalize pathV (l.take (half n)) p = p1 at *
      generalize treeV (l.drop (half n)) = t2 at *
      generalize half n = k at *
      have k0 : (0 : Int) ≤ (k : Int) := by omega
      have k1 : (k : Int) ≤ (n : Int) := by omega
      have k2 : (k : Int) ≤ (cap : Int) := by omega
      have k5 : ¬ cap = k := by omega
      have k3 : (p : Int) < (k : Int) := by omega
      go_enter Tryd.func67, Tryd.ntmps67
      go_wp2_with fail
      refine (unhide HP).mono ?_
      rintro e w9 ⟨rfl, hw9⟩
      subst w9
      go_wp2_with fail
      go_region_held3 (fun _ => True) (trivial) (first
        | (refine step_append_lies _ (by rfl) _ _ _ (by rfl) w.heap.size 9 i0 _ 1 16 Tryd.underlying22 hi hz0 hz1 hz2 rfl (by omega) v1 p1.length (p1.map Value.string) (by rfl) (OwnS.below hO2 ((Below.refl w2.heap.size w2).alloc (Nat.le_refl _) (.cells #[.string t2] 9))) ⟨w2.heap.size, 0, none⟩ 1 1 [_] (by rfl) (by rfl) (World.news_of_block (cs := #[_]) (t := 9) (fr := (0, 0)) (heap_alloc_new w2 _)) (by simp [Value.oneCell']) (by omega) (by unfold maxLen; omega) (by omega) (by have := hb2.size; simp; omega) (w2.heap.size + 1) (by simp) ?_; intro gg capg w3 hown3 hgrow3 hat3 hlt3)
        | (go_at_call 59; refine (unhide H2 _ hb1).mono ?_; rintro e w2 ⟨rfl, hb2'⟩; have hb2 := hb1.trans (hb2'.mono hb1.size); have hO2 := hO1.below hb2')
        | (go_at_call 67; refine (unhide H1 _ ((Below.refl _ w).drew)).mono ?_; rintro e w1 ⟨v1, rfl, hO1, hb1'⟩; have hb1 := ((Below.refl _ w).drew).trans hb1'))
      have KO := hide (OwnS.pushed hown3)
      have KB := hide ((hb2.alloc hb2.size (.cells #[.string t2] 9)).grown hgrow3 (by have := hb2.size; simp; omega) (fun r hr => (hO2.lt r hr).1))
      clear hb1' hb1 hb2' hb2 hO1 hO2 hown3 hgrow3 hat3 hlt3
      go_wp2_with fail
      go_ret
      exact ⟨_, rfl, by rw [unhide HV]; exact unhide KO, unhide KB⟩
    · have HV := hide (pathV_hi (l := l) (p := p) (by omega) (by omega) (by rw [hl]; exact hp))
      rw [hl] at HV
      have H1 : Hid (∀ wx, Below w.heap.size w wx → Calls Tryd.prog 67 #[.int .i64 ((p - half n : Nat) : Int), .slice (some ⟨b, off + half n, none⟩) (n - half n) (cap - half n)] wx fun e w' => ∃ v, e = .returned v ∧ OwnS wx.heap.size w' v (pathV (l.drop (half n)) (p - half n)) ∧ Below wx.heap.size wx w') := hide (fun wx hbx =>
        ih (n - half n) (by omega) (l.drop (half n)) (p - half n) b (off + half n) (cap - half n) wx e2 (by omega) (by omega) (by omega) (ha.drop _) ((hs.drop _ (by omega)).below hbx) (ht.below hbx))
      have H2 : Hid (∀ wx, Below w.heap.size w wx → Calls Tryd.prog 59 #[.slice (some ⟨b, off, none⟩) (half n) (cap)] wx fun e w' => e = .returned (.string (treeV (l.take (half n)))) ∧ Below wx.heap.size wx w') := hide (fun wx hbx =>
        treeHash_any (half n) (l.take (half n)) b off cap wx e1 (by omega) (ha.take _) ((hs.take _ (by omega)).below hbx) (ht.below hbx))
      have hpl := path_len _ (l.drop (half n)) (p - half n) e2
      clear ih hl ha hs ht e1 e2
      generalize pathV (l.drop (half n)) (p - half n) = p1 at *
      generalize treeV (l.take (half n)) = t2 at *
      generalize half n = k at *
      have k0 : (0 : Int) ≤ (k : Int) := by omega
      have k1 : (k : Int) ≤ (n : Int) := by omega
      have k2 : (k : Int) ≤ (cap : Int) := by omega
      have k5 : ¬ cap = k := by omega
      have k3 : ¬ (p : Int) < (k : Int) := by omega
      obtain ⟨q, hq⟩ : ∃ q : Nat, q = p - k := ⟨_, rfl⟩
      have k4 : (p : Int) - (k : Int) = (q : Int) := by omega
      rw [← hq] at H1
      clear hq
      have k6 : IntKind.i64.wrap (q : Int) = (q : Int) := wrapQ (by omega)
      go_enter Tryd.func67, Tryd.ntmps67
      go_wp2_with fail
      refine (unhide HP).mono ?_
      rintro e w9 ⟨rfl, hw9⟩
      subst w9
      go_wp2_with fail
      go_region_held3 (fun _ => True) (trivial) (first
        | (refine step_append_lies _ (by rfl) _ _ _ (by rfl) w.heap.size 9 i0 _ 1 16 Tryd.underlying22 hi hz0 hz1 hz2 rfl (by omega) v1 p1.length (p1.map Value.string) (by rfl) (OwnS.below hO2 ((Below.refl w2.heap.size w2).alloc (Nat.le_refl _) (.cells #[.string t2] 9))) ⟨w2.heap.size, 0, none⟩ 1 1 [_] (by rfl) (by rfl) (World.news_of_block (cs := #[_]) (t := 9) (fr := (0, 0)) (heap_alloc_new w2 _)) (by simp [Value.oneCell']) (by omega) (by unfold maxLen; omega) (by omega) (by have := hb2.size; simp; omega) (w2.heap.size + 1) (by simp) ?_; intro gg capg w3 hown3 hgrow3 hat3 hlt3)
        | (go_at_call 59; refine (unhide H2 _ hb1).mono ?_; rintro e w2 ⟨rfl, hb2'⟩; have hb2 := hb1.trans (hb2'.mono hb1.size); have hO2 := hO1.below hb2')
        | (go_at_call 67; refine (unhide H1 _ ((Below.refl _ w).drew)).mono ?_; rintro e w1 ⟨v1, rfl, hO1, hb1'⟩; have hb1 := ((Below.refl _ w).drew).trans hb1'))
      have KO := hide (OwnS.pushed hown3)
      have KB := hide ((hb2.alloc hb2.size (.cells #[.string t2] 9)).grown hgrow3 (by have := hb2.size; simp; omega) (fun r hr => (hO2.lt r hr).1))
      clear hb1' hb1 hb2' hb2 hO1 hO2 hown3 hgrow3 hat3 hlt3
      go_wp2_with fail
      go_ret
      exact ⟨_, rfl, by rw [unhide HV]; exact unhide KO, unhide KB⟩
set_option maxRecDepth 100000 in
set_option maxHeartbeats 2000000 in
theorem l06Path_any : ∀ (n : Nat) (l : List ByteArray) (p b off cap : Nat) (w : World), l.length = n → 1 ≤ n → n ≤ 64 → p < n → AllH l → SA w b off cap l →
    Calls Tryd.prog 36 #[.slice (some ⟨b, off, none⟩) n cap, .int .i64 p] w fun e w' => ∃ v, e = .returned v ∧ OwnS w.heap.size w' v (pathV l p) ∧ Below w.heap.size w w' := by
  intro n
  induction n using Nat.strongRecOn with
  | ind n ih =>
    intro l p b off cap w hl h1 hn hpn ha hs
    obtain ⟨i0, hi, hz0, hz1, hz2⟩ := info_parts9
    have hcap : n ≤ cap := by have := hs.le; omega
    have hcm : cap ≤ 9223372036854775807 := by have := hs.mx; unfold maxLen at this; omega
    rcases (show n = 1 ∨ 2 ≤ n by omega) with h | h
    · have HV := hide (pathV_one (l := l) (by omega) p)
      clear ih hl ha hs
      subst h
      go_enter Tryd.func36, Tryd.ntmps36
      go_wp2_with fail
      go_ret
      exact ⟨_, rfl, by rw [unhide HV]; exact own_noneS w _ _ rfl (Nat.le_refl _), (Below.refl _ _).alloc (Nat.le_refl _) _⟩
    have hf := half_facts (n := n) h hn
    have HP := hide (l06Half_any n w h hn)
    have e1 : (l.take (half n)).length = half n := by rw [List.length_take]; omega
    have e2 : (l.drop (half n)).length = n - half n := by rw [List.length_drop]; omega
    by_cases hp : p < half n
    · have HV := hide (pathV_lo (l := l) (p := p) (by omega) (by omega) (by rw [hl]; exact hp))
      rw [hl] at HV
      have H1 : Hid (∀ wx, Below w.heap.size w wx → Calls Tryd.prog 36 #[.slice (some ⟨b, off, none⟩) (half n) (cap), .int .i64 (p : Nat)] wx fun e w' => ∃ v, e = .returned v ∧ OwnS wx.heap.size w' v (pathV (l.take (half n)) p) ∧ Below wx.heap.size wx w') := hide (fun wx hbx =>
        ih (half n) (by omega) (l.take (half n)) p b off cap wx e1 (by omega) (by omega) hp (ha.take _) ((hs.take _ (by omega)).below hbx))
      have H2 : Hid (∀ wx, Below w.heap.size w wx → Calls Tryd.prog 49 #[.slice (some ⟨b, off + half n, none⟩) (n - half n) (cap - half n)] wx fun e w' => e = .returned (.string (treeV (l.drop (half n)))) ∧ Below wx.heap.size wx w') := hide (fun wx hbx =>
        l06Tree_any (n - half n) (l.drop (half n)) b (off + half n) (cap - half n) wx e2 (by omega) (ha.drop _) ((hs.drop _ (by omega)).below hbx))
      have hpl := path_len _ (l.take (half n)) p e1
      clear ih hl ha hs e1 e2
      generalize pathV (l.take (half n)) p = p1 at *
      generalize treeV (l.drop (half n)) = t2 at *
      generalize half n = k at *
      have k0 : (0 : Int) ≤ (k : Int) := by omega
      have k1 : (k : Int) ≤ (n : Int) := by omega
      have k2 : (k : Int) ≤ (cap : Int) := by omega
      have k5 : ¬ cap = k := by omega
      have k3 : (p : Int) < (k : Int) := by omega
      go_enter Tryd.func36, Tryd.ntmps36
      go_wp2_with fail
      refine (unhide HP).mono ?_
      rintro e w9 ⟨rfl, hw9⟩
      subst w9
      go_wp2_with fail
      go_region_held3 (fun _ => True) (trivial) (first
        | (refine step_append_lies _ (by rfl) _ _ _ (by rfl) w.heap.size 9 i0 _ 1 16 Tryd.underlying22 hi hz0 hz1 hz2 rfl (by omega) v1 p1.length (p1.map Value.string) (by rfl) (OwnS.below hO2 ((Below.refl w2.heap.size w2).alloc (Nat.le_refl _) (.cells #[.string t2] 9))) ⟨w2.heap.size, 0, none⟩ 1 1 [_] (by rfl) (by rfl) (World.news_of_block (cs := #[_]) (t := 9) (fr := (0, 0)) (heap_alloc_new w2 _)) (by simp [Value.oneCell']) (by omega) (by unfold maxLen; omega) (by omega) (by have := hb2.size; simp; omega) (w2.heap.size + 1) (by simp) ?_; intro gg capg w3 hown3 hgrow3 hat3 hlt3)
        | (go_at_call 49; refine (unhide H2 _ hb1).mono ?_; rintro e w2 ⟨rfl, hb2'⟩; have hb2 := hb1.trans (hb2'.mono hb1.size); have hO2 := hO1.below hb2')
        | (go_at_call 36; refine (unhide H1 _ ((Below.refl _ w).drew)).mono ?_; rintro e w1 ⟨v1, rfl, hO1, hb1'⟩; have hb1 := ((Below.refl _ w).drew).trans hb1'))
      have KO := hide (OwnS.pushed hown3)
      have KB := hide ((hb2.alloc hb2.size (.cells #[.string t2] 9)).grown hgrow3 (by have := hb2.size; simp; omega) (fun r hr => (hO2.lt r hr).1))
      clear hb1' hb1 hb2' hb2 hO1 hO2 hown3 hgrow3 hat3 hlt3
      go_wp2_with fail
      go_ret
      exact ⟨_, rfl, by rw [unhide HV]; exact unhide KO, unhide KB⟩
    · have HV := hide (pathV_hi (l := l) (p := p) (by omega) (by omega) (by rw [hl]; exact hp))
      rw [hl] at HV
      have H1 : Hid (∀ wx, Below w.heap.size w wx → Calls Tryd.prog 36 #[.slice (some ⟨b, off + half n, none⟩) (n - half n) (cap - half n), .int .i64 ((p - half n : Nat) : Int)] wx fun e w' => ∃ v, e = .returned v ∧ OwnS wx.heap.size w' v (pathV (l.drop (half n)) (p - half n)) ∧ Below wx.heap.size wx w') := hide (fun wx hbx =>
        ih (n - half n) (by omega) (l.drop (half n)) (p - half n) b (off + half n) (cap - half n) wx e2 (by omega) (by omega) (by omega) (ha.drop _) ((hs.drop _ (by omega)).below hbx))
      have H2 : Hid (∀ wx, Below w.heap.size w wx → Calls Tryd.prog 49 #[.slice (some ⟨b, off, none⟩) (half n) (cap)] wx fun e w' => e = .returned (.string (treeV (l.take (half n)))) ∧ Below wx.heap.size wx w') := hide (fun wx hbx =>
        l06Tree_any (half n) (l.take (half n)) b off cap wx e1 (by omega) (ha.take _) ((hs.take _ (by omega)).below hbx))
      have hpl := path_len _ (l.drop (half n)) (p - half n) e2
      clear ih hl ha hs e1 e2
      generalize pathV (l.drop (half n)) (p - half n) = p1 at *
      generalize treeV (l.take (half n)) = t2 at *
      generalize half n = k at *
      have k0 : (0 : Int) ≤ (k : Int) := by omega
      have k1 : (k : Int) ≤ (n : Int) := by omega
      have k2 : (k : Int) ≤ (cap : Int) := by omega
      have k5 : ¬ cap = k := by omega
      have k3 : ¬ (p : Int) < (k : Int) := by omega
      obtain ⟨q, hq⟩ : ∃ q : Nat, q = p - k := ⟨_, rfl⟩
      have k4 : (p : Int) - (k : Int) = (q : Int) := by omega
      rw [← hq] at H1
      clear hq
      have k6 : IntKind.i64.wrap (q : Int) = (q : Int) := wrapQ (by omega)
      go_enter Tryd.func36, Tryd.ntmps36
      go_wp2_with fail
      refine (unhide HP).mono ?_
      rintro e w9 ⟨rfl, hw9⟩
      subst w9
      go_wp2_with fail
      go_region_held3 (fun _ => True) (trivial) (first
        | (refine step_append_lies _ (by rfl) _ _ _ (by rfl) w.heap.size 9 i0 _ 1 16 Tryd.underlying22 hi hz0 hz1 hz2 rfl (by omega) v1 p1.length (p1.map Value.string) (by rfl) (OwnS.below hO2 ((Below.refl w2.heap.size w2).alloc (Nat.le_refl _) (.cells #[.string t2] 9))) ⟨w2.heap.size, 0, none⟩ 1 1 [_] (by rfl) (by rfl) (World.news_of_block (cs := #[_]) (t := 9) (fr := (0, 0)) (heap_alloc_new w2 _)) (by simp [Value.oneCell']) (by omega) (by unfold maxLen; omega) (by omega) (by have := hb2.size; simp; omega) (w2.heap.size + 1) (by simp) ?_; intro gg capg w3 hown3 hgrow3 hat3 hlt3)
        | (go_at_call 49; refine (unhide H2 _ hb1).mono ?_; rintro e w2 ⟨rfl, hb2'⟩; have hb2 := hb1.trans (hb2'.mono hb1.size); have hO2 := hO1.below hb2')
        | (go_at_call 36; refine (unhide H1 _ ((Below.refl _ w).drew)).mono ?_; rintro e w1 ⟨v1, rfl, hO1, hb1'⟩; have hb1 := ((Below.refl _ w).drew).trans hb1'))
      have KO := hide (OwnS.pushed hown3)
      have KB := hide ((hb2.alloc hb2.size (.cells #[.string t2] 9)).grown hgrow3 (by have := hb2.size; simp; omega) (fun r hr => (hO2.lt r hr).1))
      clear hb1' hb1 hb2' hb2 hO1 hO2 hown3 hgrow3 hat3 hlt3
      go_wp2_with fail
      go_ret
      exact ⟨_, rfl, by rw [unhide HV]; exact unhide KO, unhide KB⟩
/-- What InclusionProof answers: the hashes, the code. -/
def incOut (l : List ByteArray) (p : Int) : List ByteArray × Int := if codeL l = 0 then (if inB p 0 ((l.length : Int) - 1) then (pathV l p.toNat, 0) else ([], 4)) else ([], codeL l)
theorem inc_len (l : List ByteArray) (p : Int) : (incOut l p).1.length ≤ l.length := by
  unfold incOut; split
  · split
    · exact path_len _ l _ rfl
    · simp
  · simp
set_option maxRecDepth 100000 in
set_option maxHeartbeats 1000000 in
theorem implInc_any (l : List ByteArray) (p : Int) (b off cap : Nat) (w : World) (h : SA w b off cap l) (hz : ∀ i, (l.getD i ByteArray.empty).size ≤ 1048576) (ht : Tab w) :
    Calls Tryd.prog 38 #[.slice (some ⟨b, off, none⟩) l.length cap, .int .i64 p] w fun e w' => ∃ v, e = .returned (.tuple #[v, .int .i64 (incOut l p).2]) ∧ OwnS w.heap.size w' v (incOut l p).1 ∧ Below w.heap.size w w' := by
  have hle : l.length ≤ 9223372036854775807 := by have := h.le; have := h.mx; unfold maxLen at this; omega
  have HC := hide (hashesFault_any l b off cap w h hz)
  have HO : Hid (incOut l p = if codeL l = 0 then (if inB p 0 ((l.length : Int) - 1) then (pathV l p.toNat, 0) else ([], 4)) else ([], codeL l)) := rfl
  have HK := hide (fun (hc : codeL l = 0) (q : Nat) (hq : q < l.length) => inclusion_any l.length l q b off cap w rfl (by omega) (codeL_ok hc).1 hq (codeL_ok hc).2 h ht)
  clear h hz ht
  generalize codeL l = c at *
  go_enter Tryd.func38, Tryd.ntmps38
  go_wp2_with fail
  refine (unhide HC).mono ?_
  rintro e w9 ⟨rfl, hw9⟩
  subst w9
  by_cases hc : c = 0
  · have HG := hide (unhide HK hc)
    subst hc
    rw [if_pos rfl] at HO
    have HW := hide (within_any p 0 ((l.length : Int) - 1) w)
    have HI := hide (inB_iff (n := p) (lo := 0) (hi := (l.length : Int) - 1))
    generalize inB p 0 ((l.length : Int) - 1) = bb at *
    go_wp2_with fail
    refine (unhide HW).mono ?_
    rintro e w9 ⟨rfl, hw9⟩
    subst w9
    cases bb
    · rw [if_neg (by simp)] at HO
      go_wp2_with fail
      go_ret2
      exact ⟨_, by rw [unhide HO]; rfl, by rw [unhide HO]; exact OwnS.nil _ _, Below.refl _ _⟩
    · obtain ⟨q0, q1⟩ := (unhide HI).1 rfl
      obtain ⟨q, rfl⟩ : ∃ q : Nat, p = (q : Int) := ⟨p.toNat, by omega⟩
      rw [if_pos rfl, Int.toNat_natCast] at HO
      have HG2 := hide (unhide HG q (by omega))
      go_wp2_with fail
      refine (unhide HG2).mono ?_
      rintro e w2 ⟨v, rfl, hO, hb2⟩
      have K := hide (And.intro hO hb2)
      clear hO hb2
      go_wp2_with fail
      go_ret2
      exact ⟨v, by rw [unhide HO]; rfl, by rw [unhide HO]; exact (unhide K).1, (unhide K).2⟩
  · rw [if_neg hc] at HO
    go_wp2_with fail
    go_ret2
    exact ⟨_, by rw [unhide HO]; rfl, by rw [unhide HO]; exact OwnS.nil _ _, Below.refl _ _⟩
end Go.Proofs.YtkojmnlfpccbiaaDoor.Sha
namespace Go.Proofs.YtkojmnlfpccbiaaDoor.Sha
open Go.ChangeShapes Go.WideShapes Go.ChangeAt Go.RowKit
set_option linter.unusedVariables false

/-- The hashes that lead from the hash of the first p leaves to that of all; kn: the first one is known. -/
def subV (l : List ByteArray) (p : Nat) (kn : Bool) : List ByteArray :=
  if p = l.length then (if kn = true then [] else [treeV l])
  else if h : l.length < 2 ∨ 64 < l.length then []
  else if p ≤ half l.length then subV (l.take (half l.length)) p kn ++ [treeV (l.drop (half l.length))]
  else subV (l.drop (half l.length)) (p - half l.length) false ++ [treeV (l.take (half l.length))]
termination_by l.length
decreasing_by
  · exact take_lt h
  · exact drop_lt h
theorem subV_all {l : List ByteArray} {p : Nat} {kn : Bool} (h : p = l.length) : subV l p kn = if kn = true then [] else [treeV l] := by rw [subV, if_pos h]
theorem subV_lo {l : List ByteArray} {p : Nat} {kn : Bool} (h : 2 ≤ l.length) (h2 : l.length ≤ 64) (hne : ¬ p = l.length) (hp : p ≤ half l.length) : subV l p kn = subV (l.take (half l.length)) p kn ++ [treeV (l.drop (half l.length))] := by rw [subV, if_neg hne, dif_neg (by omega), if_pos hp]
theorem subV_hi {l : List ByteArray} {p : Nat} {kn : Bool} (h : 2 ≤ l.length) (h2 : l.length ≤ 64) (hne : ¬ p = l.length) (hp : ¬ p ≤ half l.length) : subV l p kn = subV (l.drop (half l.length)) (p - half l.length) false ++ [treeV (l.take (half l.length))] := by rw [subV, if_neg hne, dif_neg (by omega), if_neg hp]
theorem sub_len : ∀ (n : Nat) (l : List ByteArray) (p : Nat) (kn : Bool), l.length = n → 1 ≤ n → (subV l p kn).length ≤ n := by
  intro n
  induction n using Nat.strongRecOn with
  | ind n ih =>
    intro l p kn hl h1
    by_cases hpe : p = l.length
    · rw [subV_all hpe]; split
      · simp
      · simp; omega
    · by_cases h : l.length < 2 ∨ 64 < l.length
      · rw [subV, if_neg hpe, dif_pos h]; simp
      · have hf := half_facts (n := l.length) (by omega) (by omega)
        have e1 : (l.take (half l.length)).length = half l.length := by rw [List.length_take]; omega
        have e2 : (l.drop (half l.length)).length = l.length - half l.length := List.length_drop ..
        by_cases hp : p ≤ half l.length
        · rw [subV_lo (by omega) (by omega) hpe hp]
          have := ih _ (by omega) (l.take (half l.length)) p kn e1 (by omega)
          simp; omega
        · rw [subV_hi (by omega) (by omega) hpe hp]
          have := ih _ (by omega) (l.drop (half l.length)) (p - half l.length) false e2 (by omega)
          simp; omega
theorem own_oneS (w : World) (B X : Nat) (hX : w.heap.size = X) (hB : B ≤ X) (t : ByteArray) : OwnS B (w.alloc (.cells #[.string t] 9)) (.slice (some ⟨X, 0, none⟩) 1 1) [t] :=
  ⟨rfl, .inr ⟨X, 1, #[.string t], rfl, hB, heap_new hX, Nat.le_refl _, by unfold maxLen; omega, rfl, rfl⟩⟩
set_option maxRecDepth 100000 in
set_option maxHeartbeats 2000000 in
theorem consistency_any : ∀ (n : Nat) (l : List ByteArray) (p : Nat) (kn : Bool) (b off cap : Nat) (w : World), l.length = n → 1 ≤ n → n ≤ 64 → 1 ≤ p → p ≤ n → AllH l → SA w b off cap l → Tab w →
    Calls Tryd.prog 69 #[.int .i64 p, .bool kn, .slice (some ⟨b, off, none⟩) n cap] w fun e w' => ∃ v, e = .returned v ∧ OwnS w.heap.size w' v (subV l p kn) ∧ Below w.heap.size w w' := by
  intro n
  induction n using Nat.strongRecOn with
  | ind n ih =>
    intro l p kn b off cap w hl h1 hn hp1 hpn ha hs ht
    obtain ⟨i0, hi, hz0, hz1, hz2⟩ := info_parts9
    have hcap : n ≤ cap := by have := hs.le; omega
    have hcm : cap ≤ 9223372036854775807 := by have := hs.mx; unfold maxLen at this; omega
    by_cases hpe : p = n
    · cases kn
      · have HV := hide (subV_all (l := l) (p := p) (kn := false) (by omega))
        have HH := hide (treeHash_any n l b off cap w hl hn ha hs ht)
        clear ih hl ha hs ht
        subst hpe
        go_enter Tryd.func69, Tryd.ntmps69
        go_wp2_with fail
        refine (unhide HH).mono ?_
        rintro e w1 ⟨rfl, hb1⟩
        have O1 := hide (own_oneS w1 w.heap.size w1.heap.size rfl hb1.size (treeV l))
        have K := hide (hb1.alloc hb1.size (.cells #[.string (treeV l)] 9))
        clear hb1
        go_wp2_with fail
        go_ret
        exact ⟨_, rfl, by rw [unhide HV]; exact unhide O1, unhide K⟩
      · have HV := hide (subV_all (l := l) (p := p) (kn := true) (by omega))
        clear ih hl ha hs ht
        subst hpe
        go_enter Tryd.func69, Tryd.ntmps69
        go_wp2_with fail
        go_ret
        exact ⟨_, rfl, by rw [unhide HV]; exact OwnS.nil _ _, Below.refl _ _⟩
    have h : 2 ≤ n := by omega
    have hf := half_facts (n := n) h hn
    have HP := hide (splitPlace_any n w h hn)
    have e1 : (l.take (half n)).length = half n := by rw [List.length_take]; omega
    have e2 : (l.drop (half n)).length = n - half n := by rw [List.length_drop]; omega
    by_cases hp : p ≤ half n
    · have HV := hide (subV_lo (l := l) (p := p) (kn := kn) (by omega) (by omega) (by omega) (by rw [hl]; exact hp))
      rw [hl] at HV
      have H1 : Hid (∀ wx, Below w.heap.size w wx → Calls Tryd.prog 69 #[.int .i64 (p : Nat), .bool kn, .slice (some ⟨b, off, none⟩) (half n) (cap)] wx fun e w' => ∃ v, e = .returned v ∧ OwnS wx.heap.size w' v (subV (l.take (half n)) p kn) ∧ Below wx.heap.size wx w') := hide (fun wx hbx =>
        ih (half n) (by omega) (l.take (half n)) p kn b off cap wx e1 (by omega) (by omega) (by omega) (by omega) (ha.take _) ((hs.take _ (by omega)).below hbx) (ht.below hbx))
      have H2 : Hid (∀ wx, Below w.heap.size w wx → Calls Tryd.prog 59 #[.slice (some ⟨b, off + half n, none⟩) (n - half n) (cap - half n)] wx fun e w' => e = .returned (.string (treeV (l.drop (half n)))) ∧ Below wx.heap.size wx w') := hide (fun wx hbx =>
        treeHash_any (n - half n) (l.drop (half n)) b (off + half n) (cap - half n) wx e2 (by omega) (ha.drop _) ((hs.drop _ (by omega)).below hbx) (ht.below hbx))
      have hpl := sub_len _ (l.take (half n)) p kn e1 (by omega)
      clear ih hl ha hs ht e1 e2
      generalize subV (l.take (half n)) p kn = p1 at *
      generalize treeV (l.drop (half n)) = t2 at *
      generalize half n = k at *
      have k0 : (0 : Int) ≤ (k : Int) := by omega
      have k1 : (k : Int) ≤ (n : Int) := by omega
      have k2 : (k : Int) ≤ (cap : Int) := by omega
      have k5 : ¬ cap = k := by omega
      have k3 : (p : Int) ≤ (k : Int) := by omega
      have k7 : ¬ (p : Int) = (n : Int) := by omega
      go_enter Tryd.func69, Tryd.ntmps69
      go_wp2_with fail
      refine (unhide HP).mono ?_
      rintro e w9 ⟨rfl, hw9⟩
      subst w9
      go_wp2_with fail
      go_region_held3 (fun _ => True) (trivial) (first
        | (refine step_append_lies _ (by rfl) _ _ _ (by rfl) w.heap.size 9 i0 _ 1 16 Tryd.underlying22 hi hz0 hz1 hz2 rfl (by omega) v1 p1.length (p1.map Value.string) (by rfl) (OwnS.below hO2 ((Below.refl w2.heap.size w2).alloc (Nat.le_refl _) (.cells #[.string t2] 9))) ⟨w2.heap.size, 0, none⟩ 1 1 [_] (by rfl) (by rfl) (World.news_of_block (cs := #[_]) (t := 9) (fr := (0, 0)) (heap_alloc_new w2 _)) (by simp [Value.oneCell']) (by omega) (by unfold maxLen; omega) (by omega) (by have := hb2.size; simp; omega) (w2.heap.size + 1) (by simp) ?_; intro gg capg w3 hown3 hgrow3 hat3 hlt3)
        | (go_at_call 59; refine (unhide H2 _ hb1).mono ?_; rintro e w2 ⟨rfl, hb2'⟩; have hb2 := hb1.trans (hb2'.mono hb1.size); have hO2 := hO1.below hb2')
        | (go_at_call 69; refine (unhide H1 _ ((Below.refl _ w).drew)).mono ?_; rintro e w1 ⟨v1, rfl, hO1, hb1'⟩; have hb1 := ((Below.refl _ w).drew).trans hb1'))
      have KO := hide (OwnS.pushed hown3)
      have KB := hide ((hb2.alloc hb2.size (.cells #[.string t2] 9)).grown hgrow3 (by have := hb2.size; simp; omega) (fun r hr => (hO2.lt r hr).1))
      clear hb1' hb1 hb2' hb2 hO1 hO2 hown3 hgrow3 hat3 hlt3
      go_wp2_with fail
      go_ret
      exact ⟨_, rfl, by rw [unhide HV]; exact unhide KO, unhide KB⟩
    · have HV := hide (subV_hi (l := l) (p := p) (kn := kn) (by omega) (by omega) (by omega) (by rw [hl]; exact hp))
      rw [hl] at HV
      have H1 : Hid (∀ wx, Below w.heap.size w wx → Calls Tryd.prog 69 #[.int .i64 ((p - half n : Nat) : Int), .bool false, .slice (some ⟨b, off + half n, none⟩) (n - half n) (cap - half n)] wx fun e w' => ∃ v, e = .returned v ∧ OwnS wx.heap.size w' v (subV (l.drop (half n)) (p - half n) false) ∧ Below wx.heap.size wx w') := hide (fun wx hbx =>
        ih (n - half n) (by omega) (l.drop (half n)) (p - half n) false b (off + half n) (cap - half n) wx e2 (by omega) (by omega) (by omega) (by omega) (ha.drop _) ((hs.drop _ (by omega)).below hbx) (ht.below hbx))
      have H2 : Hid (∀ wx, Below w.heap.size w wx → Calls Tryd.prog 59 #[.slice (some ⟨b, off, none⟩) (half n) (cap)] wx fun e w' => e = .returned (.string (treeV (l.take (half n)))) ∧ Below wx.heap.size wx w') := hide (fun wx hbx =>
        treeHash_any (half n) (l.take (half n)) b off cap wx e1 (by omega) (ha.take _) ((hs.take _ (by omega)).below hbx) (ht.below hbx))
      have hpl := sub_len _ (l.drop (half n)) (p - half n) false e2 (by omega)
      clear ih hl ha hs ht e1 e2
      generalize subV (l.drop (half n)) (p - half n) false = p1 at *
      generalize treeV (l.take (half n)) = t2 at *
      generalize half n = k at *
      have k0 : (0 : Int) ≤ (k : Int) := by omega
      have k1 : (k : Int) ≤ (n : Int) := by omega
      have k2 : (k : Int) ≤ (cap : Int) := by omega
      have k5 : ¬ cap = k := by omega
      have k3 : ¬ (p : Int) ≤ (k : Int) := by omega
      have k7 : ¬ (p : Int) = (n : Int) := by omega
      obtain ⟨q, hq⟩ : ∃ q : Nat, q = p - k := ⟨_, rfl⟩
      have k4 : (p : Int) - (k : Int) = (q : Int) := by omega
      rw [← hq] at H1
      clear hq
      have k6 : IntKind.i64.wrap (q : Int) = (q : Int) := wrapQ (by omega)
      go_enter Tryd.func69, Tryd.ntmps69
      go_wp2_with fail
      refine (unhide HP).mono ?_
      rintro e w9 ⟨rfl, hw9⟩
      subst w9
      go_wp2_with fail
      go_region_held3 (fun _ => True) (trivial) (first
        | (refine step_append_lies _ (by rfl) _ _ _ (by rfl) w.heap.size 9 i0 _ 1 16 Tryd.underlying22 hi hz0 hz1 hz2 rfl (by omega) v1 p1.length (p1.map Value.string) (by rfl) (OwnS.below hO2 ((Below.refl w2.heap.size w2).alloc (Nat.le_refl _) (.cells #[.string t2] 9))) ⟨w2.heap.size, 0, none⟩ 1 1 [_] (by rfl) (by rfl) (World.news_of_block (cs := #[_]) (t := 9) (fr := (0, 0)) (heap_alloc_new w2 _)) (by simp [Value.oneCell']) (by omega) (by unfold maxLen; omega) (by omega) (by have := hb2.size; simp; omega) (w2.heap.size + 1) (by simp) ?_; intro gg capg w3 hown3 hgrow3 hat3 hlt3)
        | (go_at_call 59; refine (unhide H2 _ hb1).mono ?_; rintro e w2 ⟨rfl, hb2'⟩; have hb2 := hb1.trans (hb2'.mono hb1.size); have hO2 := hO1.below hb2')
        | (go_at_call 69; refine (unhide H1 _ ((Below.refl _ w).drew)).mono ?_; rintro e w1 ⟨v1, rfl, hO1, hb1'⟩; have hb1 := ((Below.refl _ w).drew).trans hb1'))
      have KO := hide (OwnS.pushed hown3)
      have KB := hide ((hb2.alloc hb2.size (.cells #[.string t2] 9)).grown hgrow3 (by have := hb2.size; simp; omega) (fun r hr => (hO2.lt r hr).1))
      clear hb1' hb1 hb2' hb2 hO1 hO2 hown3 hgrow3 hat3 hlt3
      go_wp2_with fail
      go_ret
      exact ⟨_, rfl, by rw [unhide HV]; exact unhide KO, unhide KB⟩
set_option maxRecDepth 100000 in
set_option maxHeartbeats 2000000 in
theorem l06Sub_any : ∀ (n : Nat) (l : List ByteArray) (p : Nat) (kn : Bool) (b off cap : Nat) (w : World), l.length = n → 1 ≤ n → n ≤ 64 → 1 ≤ p → p ≤ n → AllH l → SA w b off cap l →
    Calls Tryd.prog 43 #[.slice (some ⟨b, off, none⟩) n cap, .int .i64 p, .bool kn] w fun e w' => ∃ v, e = .returned v ∧ OwnS w.heap.size w' v (subV l p kn) ∧ Below w.heap.size w w' := by
  intro n
  induction n using Nat.strongRecOn with
  | ind n ih =>
    intro l p kn b off cap w hl h1 hn hp1 hpn ha hs
    obtain ⟨i0, hi, hz0, hz1, hz2⟩ := info_parts9
    have hcap : n ≤ cap := by have := hs.le; omega
    have hcm : cap ≤ 9223372036854775807 := by have := hs.mx; unfold maxLen at this; omega
    by_cases hpe : p = n
    · cases kn
      · have HV := hide (subV_all (l := l) (p := p) (kn := false) (by omega))
        have HH := hide (l06Tree_any n l b off cap w hl hn ha hs)
        clear ih hl ha hs
        subst hpe
        go_enter Tryd.func43, Tryd.ntmps43
        go_wp2_with fail
        refine (unhide HH).mono ?_
        rintro e w1 ⟨rfl, hb1⟩
        have O1 := hide (own_oneS w1 w.heap.size w1.heap.size rfl hb1.size (treeV l))
        have K := hide (hb1.alloc hb1.size (.cells #[.string (treeV l)] 9))
        clear hb1
        go_wp2_with fail
        go_ret
        exact ⟨_, rfl, by rw [unhide HV]; exact unhide O1, unhide K⟩
      · have HV := hide (subV_all (l := l) (p := p) (kn := true) (by omega))
        clear ih hl ha hs
        subst hpe
        go_enter Tryd.func43, Tryd.ntmps43
        go_wp2_with fail
        go_ret
        exact ⟨_, rfl, by rw [unhide HV]; exact own_noneS w _ _ rfl (Nat.le_refl _), (Below.refl _ _).alloc (Nat.le_refl _) _⟩
    have h : 2 ≤ n := by omega
    have hf := half_facts (n := n) h hn
    have HP := hide (l06Half_any n w h hn)
    have e1 : (l.take (half n)).length = half n := by rw [List.length_take]; omega
    have e2 : (l.drop (half n)).length = n - half n := by rw [List.length_drop]; omega
    by_cases hp : p ≤ half n
    · have HV := hide (subV_lo (l := l) (p := p) (kn := kn) (by omega) (by omega) (by omega) (by rw [hl]; exact hp))
      rw [hl] at HV
      have H1 : Hid (∀ wx, Below w.heap.size w wx → Calls Tryd.prog 43 #[.slice (some ⟨b, off, none⟩) (half n) (cap), .int .i64 (p : Nat), .bool kn] wx fun e w' => ∃ v, e = .returned v ∧ OwnS wx.heap.size w' v (subV (l.take (half n)) p kn) ∧ Below wx.heap.size wx w') := hide (fun wx hbx =>
        ih (half n) (by omega) (l.take (half n)) p kn b off cap wx e1 (by omega) (by omega) (by omega) (by omega) (ha.take _) ((hs.take _ (by omega)).below hbx))
      have H2 : Hid (∀ wx, Below w.heap.size w wx → Calls Tryd.prog 49 #[.slice (some ⟨b, off + half n, none⟩) (n - half n) (cap - half n)] wx fun e w' => e = .returned (.string (treeV (l.drop (half n)))) ∧ Below wx.heap.size wx w') := hide (fun wx hbx =>
        l06Tree_any (n - half n) (l.drop (half n)) b (off + half n) (cap - half n) wx e2 (by omega) (ha.drop _) ((hs.drop _ (by omega)).below hbx))
      have hpl := sub_len _ (l.take (half n)) p kn e1 (by omega)
      clear ih hl ha hs e1 e2
      generalize subV (l.take (half n)) p kn = p1 at *
      generalize treeV (l.drop (half n)) = t2 at *
      generalize half n = k at *
      have k0 : (0 : Int) ≤ (k : Int) := by omega
      have k1 : (k : Int) ≤ (n : Int) := by omega
      have k2 : (k : Int) ≤ (cap : Int) := by omega
      have k5 : ¬ cap = k := by omega
      have k3 : (p : Int) ≤ (k : Int) := by omega
      have k7 : ¬ (p : Int) = (n : Int) := by omega
      go_enter Tryd.func43, Tryd.ntmps43
      go_wp2_with fail
      refine (unhide HP).mono ?_
      rintro e w9 ⟨rfl, hw9⟩
      subst w9
      go_wp2_with fail
      go_region_held3 (fun _ => True) (trivial) (first
        | (refine step_append_lies _ (by rfl) _ _ _ (by rfl) w.heap.size 9 i0 _ 1 16 Tryd.underlying22 hi hz0 hz1 hz2 rfl (by omega) v1 p1.length (p1.map Value.string) (by rfl) (OwnS.below hO2 ((Below.refl w2.heap.size w2).alloc (Nat.le_refl _) (.cells #[.string t2] 9))) ⟨w2.heap.size, 0, none⟩ 1 1 [_] (by rfl) (by rfl) (World.news_of_block (cs := #[_]) (t := 9) (fr := (0, 0)) (heap_alloc_new w2 _)) (by simp [Value.oneCell']) (by omega) (by unfold maxLen; omega) (by omega) (by have := hb2.size; simp; omega) (w2.heap.size + 1) (by simp) ?_; intro gg capg w3 hown3 hgrow3 hat3 hlt3)
        | (go_at_call 49; refine (unhide H2 _ hb1).mono ?_; rintro e w2 ⟨rfl, hb2'⟩; have hb2 := hb1.trans (hb2'.mono hb1.size); have hO2 := hO1.below hb2')
        | (go_at_call 43; refine (unhide H1 _ ((Below.refl _ w).drew)).mono ?_; rintro e w1 ⟨v1, rfl, hO1, hb1'⟩; have hb1 := ((Below.refl _ w).drew).trans hb1'))
      have KO := hide (OwnS.pushed hown3)
      have KB := hide ((hb2.alloc hb2.size (.cells #[.string t2] 9)).grown hgrow3 (by have := hb2.size; simp; omega) (fun r hr => (hO2.lt r hr).1))
      clear hb1' hb1 hb2' hb2 hO1 hO2 hown3 hgrow3 hat3 hlt3
      go_wp2_with fail
      go_ret
      exact ⟨_, rfl, by rw [unhide HV]; exact unhide KO, unhide KB⟩
    · have HV := hide (subV_hi (l := l) (p := p) (kn := kn) (by omega) (by omega) (by omega) (by rw [hl]; exact hp))
      rw [hl] at HV
      have H1 : Hid (∀ wx, Below w.heap.size w wx → Calls Tryd.prog 43 #[.slice (some ⟨b, off + half n, none⟩) (n - half n) (cap - half n), .int .i64 ((p - half n : Nat) : Int), .bool false] wx fun e w' => ∃ v, e = .returned v ∧ OwnS wx.heap.size w' v (subV (l.drop (half n)) (p - half n) false) ∧ Below wx.heap.size wx w') := hide (fun wx hbx =>
        ih (n - half n) (by omega) (l.drop (half n)) (p - half n) false b (off + half n) (cap - half n) wx e2 (by omega) (by omega) (by omega) (by omega) (ha.drop _) ((hs.drop _ (by omega)).below hbx))
      have H2 : Hid (∀ wx, Below w.heap.size w wx → Calls Tryd.prog 49 #[.slice (some ⟨b, off, none⟩) (half n) (cap)] wx fun e w' => e = .returned (.string (treeV (l.take (half n)))) ∧ Below wx.heap.size wx w') := hide (fun wx hbx =>
        l06Tree_any (half n) (l.take (half n)) b off cap wx e1 (by omega) (ha.take _) ((hs.take _ (by omega)).below hbx))
      have hpl := sub_len _ (l.drop (half n)) (p - half n) false e2 (by omega)
      clear ih hl ha hs e1 e2
      generalize subV (l.drop (half n)) (p - half n) false = p1 at *
      generalize treeV (l.take (half n)) = t2 at *
      generalize half n = k at *
      have k0 : (0 : Int) ≤ (k : Int) := by omega
      have k1 : (k : Int) ≤ (n : Int) := by omega
      have k2 : (k : Int) ≤ (cap : Int) := by omega
      have k5 : ¬ cap = k := by omega
      have k3 : ¬ (p : Int) ≤ (k : Int) := by omega
      have k7 : ¬ (p : Int) = (n : Int) := by omega
      obtain ⟨q, hq⟩ : ∃ q : Nat, q = p - k := ⟨_, rfl⟩
      have k4 : (p : Int) - (k : Int) = (q : Int) := by omega
      rw [← hq] at H1
      clear hq
      have k6 : IntKind.i64.wrap (q : Int) = (q : Int) := wrapQ (by omega)
      go_enter Tryd.func43, Tryd.ntmps43
      go_wp2_with fail
      refine (unhide HP).mono ?_
      rintro e w9 ⟨rfl, hw9⟩
      subst w9
      go_wp2_with fail
      go_region_held3 (fun _ => True) (trivial) (first
        | (refine step_append_lies _ (by rfl) _ _ _ (by rfl) w.heap.size 9 i0 _ 1 16 Tryd.underlying22 hi hz0 hz1 hz2 rfl (by omega) v1 p1.length (p1.map Value.string) (by rfl) (OwnS.below hO2 ((Below.refl w2.heap.size w2).alloc (Nat.le_refl _) (.cells #[.string t2] 9))) ⟨w2.heap.size, 0, none⟩ 1 1 [_] (by rfl) (by rfl) (World.news_of_block (cs := #[_]) (t := 9) (fr := (0, 0)) (heap_alloc_new w2 _)) (by simp [Value.oneCell']) (by omega) (by unfold maxLen; omega) (by omega) (by have := hb2.size; simp; omega) (w2.heap.size + 1) (by simp) ?_; intro gg capg w3 hown3 hgrow3 hat3 hlt3)
        | (go_at_call 49; refine (unhide H2 _ hb1).mono ?_; rintro e w2 ⟨rfl, hb2'⟩; have hb2 := hb1.trans (hb2'.mono hb1.size); have hO2 := hO1.below hb2')
        | (go_at_call 43; refine (unhide H1 _ ((Below.refl _ w).drew)).mono ?_; rintro e w1 ⟨v1, rfl, hO1, hb1'⟩; have hb1 := ((Below.refl _ w).drew).trans hb1'))
      have KO := hide (OwnS.pushed hown3)
      have KB := hide ((hb2.alloc hb2.size (.cells #[.string t2] 9)).grown hgrow3 (by have := hb2.size; simp; omega) (fun r hr => (hO2.lt r hr).1))
      clear hb1' hb1 hb2' hb2 hO1 hO2 hown3 hgrow3 hat3 hlt3
      go_wp2_with fail
      go_ret
      exact ⟨_, rfl, by rw [unhide HV]; exact unhide KO, unhide KB⟩
/-- What ConsistencyProof answers: the hashes, the code. -/
def conOut (l : List ByteArray) (p : Int) : List ByteArray × Int := if codeL l = 0 then (if inB p 1 (l.length : Int) then (subV l p.toNat true, 0) else ([], 4)) else ([], codeL l)
theorem con_len (l : List ByteArray) (p : Int) : (conOut l p).1.length ≤ l.length := by
  unfold conOut; split
  · split
    · rename_i h; have := inB_iff.1 h; exact sub_len _ l _ _ rfl (by omega)
    · simp
  · simp
set_option maxRecDepth 100000 in
set_option maxHeartbeats 1000000 in
theorem implCon_any (l : List ByteArray) (p : Int) (b off cap : Nat) (w : World) (h : SA w b off cap l) (hz : ∀ i, (l.getD i ByteArray.empty).size ≤ 1048576) (ht : Tab w) :
    Calls Tryd.prog 44 #[.slice (some ⟨b, off, none⟩) l.length cap, .int .i64 p] w fun e w' => ∃ v, e = .returned (.tuple #[v, .int .i64 (conOut l p).2]) ∧ OwnS w.heap.size w' v (conOut l p).1 ∧ Below w.heap.size w w' := by
  have hle : l.length ≤ 9223372036854775807 := by have := h.le; have := h.mx; unfold maxLen at this; omega
  have HC := hide (hashesFault_any l b off cap w h hz)
  have HO : Hid (conOut l p = if codeL l = 0 then (if inB p 1 (l.length : Int) then (subV l p.toNat true, 0) else ([], 4)) else ([], codeL l)) := rfl
  have HK := hide (fun (hc : codeL l = 0) (q : Nat) (hq0 : 1 ≤ q) (hq : q ≤ l.length) => consistency_any l.length l q true b off cap w rfl (by omega) (codeL_ok hc).1 hq0 hq (codeL_ok hc).2 h ht)
  clear h hz ht
  generalize codeL l = c at *
  go_enter Tryd.func44, Tryd.ntmps44
  go_wp2_with fail
  refine (unhide HC).mono ?_
  rintro e w9 ⟨rfl, hw9⟩
  subst w9
  by_cases hc : c = 0
  · have HG := hide (unhide HK hc)
    subst hc
    rw [if_pos rfl] at HO
    have HW := hide (within_any p 1 (l.length : Int) w)
    have HI := hide (inB_iff (n := p) (lo := 1) (hi := (l.length : Int)))
    generalize inB p 1 (l.length : Int) = bb at *
    go_wp2_with fail
    refine (unhide HW).mono ?_
    rintro e w9 ⟨rfl, hw9⟩
    subst w9
    cases bb
    · rw [if_neg (by simp)] at HO
      go_wp2_with fail
      go_ret2
      exact ⟨_, by rw [unhide HO]; rfl, by rw [unhide HO]; exact OwnS.nil _ _, Below.refl _ _⟩
    · obtain ⟨q0, q1⟩ := (unhide HI).1 rfl
      obtain ⟨q, rfl⟩ : ∃ q : Nat, p = (q : Int) := ⟨p.toNat, by omega⟩
      rw [if_pos rfl, Int.toNat_natCast] at HO
      have HG2 := hide (unhide HG q (by omega) (by omega))
      go_wp2_with fail
      refine (unhide HG2).mono ?_
      rintro e w2 ⟨v, rfl, hO, hb2⟩
      have K := hide (And.intro hO hb2)
      clear hO hb2
      go_wp2_with fail
      go_ret2
      exact ⟨v, by rw [unhide HO]; rfl, by rw [unhide HO]; exact (unhide K).1, (unhide K).2⟩
  · rw [if_neg hc] at HO
    go_wp2_with fail
    go_ret2
    exact ⟨_, by rw [unhide HO]; rfl, by rw [unhide HO]; exact OwnS.nil _ _, Below.refl _ _⟩
end Go.Proofs.YtkojmnlfpccbiaaDoor.Sha
namespace Go.Proofs.YtkojmnlfpccbiaaDoor
open Go.ChangeShapes Go.WideShapes Go.ChangeAt Go.RowKit
set_option linter.unusedVariables false

def clR : Go.Shelf.Ren := ⟨fun _ => 89, fun t => if t = 37 then 110 else if t = 47 then 148 else t, fun x => x⟩
set_option maxRecDepth 100000 in
theorem clL : LaysPu.n25 Tryd.prog clR where
  mixed := by kernel_rfl
  f25 := by kernel_rfl
  t0 := by kernel_rfl
  a0 := fun w => by kernel_rfl
  z0 := fun w => by kernel_rfl
  v0 := fun w => by kernel_rfl
  i0 := by kernel_rfl
  t3 := by kernel_rfl
  a3 := fun w => by kernel_rfl
  z3 := fun w => by kernel_rfl
  v3 := fun w => by kernel_rfl
  i3 := by kernel_rfl
  t4 := by kernel_rfl
  a4 := fun w => by kernel_rfl
  z4 := fun w => by kernel_rfl
  v4 := fun w => by kernel_rfl
  i4 := by kernel_rfl
  t5 := by kernel_rfl
  a5 := fun w => by kernel_rfl
  z5 := fun w => by kernel_rfl
  v5 := fun w => by kernel_rfl
  i5 := by kernel_rfl
  t9 := by kernel_rfl
  a9 := fun w => by kernel_rfl
  z9 := fun w => by kernel_rfl
  v9 := fun w => by kernel_rfl
  i9 := by kernel_rfl
  t37 := by kernel_rfl
  a37 := fun w => by kernel_rfl
  z37 := fun w => by kernel_rfl
  v37 := fun w => by kernel_rfl
  i37 := by kernel_rfl
  t47 := by kernel_rfl
  a47 := fun w => by kernel_rfl
  z47 := fun w => by kernel_rfl
  v47 := fun w => by kernel_rfl
  i47 := by kernel_rfl
theorem sliteClone_any (s : ByteArray) (w : World) (h : s.size ≤ 1048576) :
    Calls Tryd.prog 89 #[.string s] w fun e w' => e = .returned (.string s) ∧ Below w.heap.size w w' := AnyPu.stringslite_Clone clL s w (by omega)
set_option maxRecDepth 100000 in
theorem strClone_any (s : ByteArray) (w : World) (h : s.size ≤ 1048576) :
    Calls Tryd.prog 61 #[.string s] w fun e w' => e = .returned (.string s) ∧ Below w.heap.size w w' := by
  have H := hide (sliteClone_any s w h)
  go_enter Tryd.func61, Tryd.ntmps61
  go_wp2_with fail
  refine (unhide H).mono ?_
  rintro e w' ⟨rfl, hb⟩
  have HB := hide hb
  clear hb
  go_wp2_with fail
  go_ret
  exact ⟨rfl, unhide HB⟩
end Go.Proofs.YtkojmnlfpccbiaaDoor
namespace Go.Proofs.YtkojmnlfpccbiaaDoor.Sha
open Go.ChangeShapes Go.WideShapes Go.ChangeAt Go.RowKit Go.Deep
set_option linter.unusedVariables false
set_option linter.unusedSimpArgs false
set_option maxRecDepth 100000

theorem allH_allP {l : List ByteArray} (h : allH l = true) : AllH l := fun j hj => allH_at h j hj
theorem ledB_factsP {ls : List ByteArray} {b : Br} {ss : List Se} (h : ledB ls b ss = true) : ls.length ≤ 50 ∧ AllH ls ∧ mapB b = true ∧ sesB ss = true := by
  unfold ledB at h
  simp only [Bool.and_eq_true] at h
  exact ⟨by simpa using h.1.1.1, allH_allP h.1.1.2, h.1.2, h.2⟩
theorem infoStrP : (Tryd.prog.info? 9).map (fun i => (i.zero, i.size, i.bytes)) = some (some (.string ⟨#[]⟩), 1, 16) := by kernel_rfl
set_option maxHeartbeats 4000000 in
theorem ownTexts_any (v : Value) (l : List ByteArray) (w : World) (h : Strs w v l) (hz : ∀ i, (l.getD i ByteArray.empty).size ≤ 1048576) (hl : l.length ≤ 64) :
    Calls Tryd.prog 39 #[v] w fun e w' => ∃ v', e = .returned v' ∧ OwnS w.heap.size w' v' l ∧ Below w.heap.size w w' := by
  obtain ⟨i0, hi, hz0, hz1, hz2⟩ := info_parts infoStrP
  obtain ⟨a, cap, rfl, hm, hc⟩ := h
  have HC := hide hc
  have HZ := hide hz
  clear hc hm hz
  go_enter Tryd.func39, Tryd.ntmps39
  go_wp2_with fail
  go_loopw [3, 8] (fun ov iv wr => ∃ (k : Nat) (ga : Option Addr) (gc : Nat), k ≤ l.length ∧ ov = .slice ga k gc ∧ iv = .int .i64 (k : Int) ∧ OwnS w.heap.size wr (.slice ga k gc) (l.take k) ∧ Below w.heap.size w wr) (fun _ iv _ => l.length - (intOf iv).toNat)
  case atStart => exact ⟨0, none, 0, Nat.zero_le _, rfl, rfl, by rw [List.take_zero]; exact OwnS.nil _ _, Below.refl _ _⟩
  case round =>
    obtain ⟨k, ga, gc, hk, rfl, rfl, hO, hB⟩ := hrel
    by_cases hlt : k < l.length
    · obtain ⟨b, off, rfl, hbl, hsrc⟩ : ∃ b off, a = some ⟨b, off, none⟩ ∧ b < w.heap.size ∧ ∀ i, i < l.length → w.cell? ⟨b, off + i, none⟩ = some (.string (l.getD i ByteArray.empty)) := by
        rcases unhide HC with h0 | h1
        · omega
        · exact h1
      have s1 := (hB.cell (p := ⟨b, off + k, none⟩) hbl).trans (hsrc k hlt)
      have p0 : (0 : Int) ≤ (k : Int) := by omega
      have p1 : (k : Int) < (l.length : Int) := by omega
      have HL := hide (fun wx => strClone_any (l.getD k ByteArray.empty) wx (unhide HZ k))
      have HTK := hide (show (l.take k).map Value.string ++ [.string (l.getD k ByteArray.empty)] = (l.take (k + 1)).map Value.string by
        rw [List.take_add_one, List.map_append, List.getElem?_eq_getElem hlt]; simp [List.getD_eq_getElem?_getD, hlt])
      have HLN := hide (show (l.take k).length = k by simp; omega)
      have HLN1 := hide (show (l.take (k + 1)).length = k + 1 by simp; omega)
      have HO := hide hO
      have KB := hide hB
      clear hsrc hO hB
      generalize l.getD k ByteArray.empty = t at *
      generalize l.take k = pk at *
      go_wp2_with fail
      refine (unhide HL wr).mono ?_
      rintro e w2 ⟨rfl, hb⟩
      have K2 := hide ((unhide KB).trans (hb.mono (unhide KB).size))
      have O2 := hide ((unhide HO).below hb)
      have hs2 := (unhide K2).size
      have hbs := hb.size
      clear hb HL
      have hown0 : (w2.alloc (.cells #[.string t] 9)).ownsRow w.heap.size 9 1 (.slice ga k gc) k (pk.map Value.string) := by
        have h := World.ownsRow.alloc (unhide O2) (.cells #[.string t] 9)
        rw [unhide HLN] at h
        exact h
      have HO0 := hide hown0
      clear hown0
      go_wp2_with (at_builtin; refine wpList_append_lies _ rfl _ _ 22 rfl w.heap.size 9 i0 _ 1 16 Tryd.underlying22 hi hz0 hz1 hz2 rfl (by omega) (.slice ga k gc) k _ rfl (unhide HO0) ⟨w2.heap.size, 0, none⟩ 1 1 [_] rfl rfl (World.news_of_block (cs := #[_]) (t := 9) (fr := (0, 0)) (heap_alloc_new w2 _)) (by simp [Value.oneCell']) (by omega) (by unfold maxLen; omega) (by omega) (by simp; omega) _ rfl ?_; intro g5 cap5 w5 hown5 hgrow5 hat5 hlt5; have R5 := hide (And.intro hown5 (((unhide K2).alloc (unhide K2).size (.cells #[.string t] 9)).grown hgrow5 (by simp; omega) (fun r hr => (World.ownsRow.lt (unhide HO0) r hr).1))); clear hown5 hgrow5 hat5 hlt5)
      refine ⟨⟨k + 1, some ⟨g5, 0, none⟩, cap5, by omega, rfl, by go_num, ?_, (unhide R5).2⟩, ?_⟩
      · have h5 := (unhide R5).1
        rw [unhide HTK] at h5
        unfold OwnS
        rw [unhide HLN1]
        exact h5
      · simp [intOf]; omega
    · obtain rfl : k = l.length := by omega
      have R := hide (And.intro hO hB)
      clear hO hB
      go_wp2_with fail
      go_ret
      refine ⟨_, rfl, ?_, (unhide R).2⟩
      have h := (unhide R).1
      rw [List.take_length] at h
      exact h

theorem pathP_hash : ∀ (n : Nat) (l : List ByteArray) (p : Nat), l.length = n → n ≤ 64 → AllH l → AllH (pathV l p) := by
  intro n
  induction n using Nat.strongRecOn with
  | ind n ih =>
    intro l p hl h64 hA
    by_cases hn : n < 2
    · rw [pathV, dif_pos (by omega)]
      intro j hj
      simp at hj
    · obtain ⟨a1, a2, a3⟩ := half_facts (n := n) (by omega) h64
      have htl : (l.take (half n)).length = half n := by rw [List.length_take]; omega
      have hdl : (l.drop (half n)).length = n - half n := by rw [List.length_drop]; omega
      have push : ∀ (q : List ByteArray) (x : ByteArray), AllH q → x.size = 32 → AllH (q ++ [x]) := fun q x hq hx j hj => by
        rw [List.getD_eq_getElem?_getD]
        rcases Nat.lt_or_ge j q.length with h | h
        · rw [List.getElem?_append_left h, ← List.getD_eq_getElem?_getD]
          exact hq j h
        · have : j = q.length := by rw [List.length_append] at hj; simp at hj; omega
          subst this
          simpa using hx
      by_cases hlt : p < half n
      · have e := pathV_lo (l := l) (by omega) (by omega) (p := p) (by rw [hl]; exact hlt)
        rw [hl] at e
        rw [e]
        exact push _ _ (ih _ a1 _ p htl (by omega) (hA.take _)) (tree_size _ _ rfl (by omega) (hA.drop _))
      · have e := pathV_hi (l := l) (by omega) (by omega) (p := p) (by rw [hl]; exact hlt)
        rw [hl] at e
        rw [e]
        exact push _ _ (ih _ (by omega) _ _ hdl (by omega) (hA.drop _)) (tree_size _ _ rfl (by omega) (hA.take _))
theorem subP_hash : ∀ (n : Nat) (l : List ByteArray) (p : Nat) (kn : Bool), l.length = n → n ≤ 64 → AllH l → AllH (subV l p kn) := by
  intro n
  induction n using Nat.strongRecOn with
  | ind n ih =>
    intro l p kn hl h64 hA
    have push : ∀ (q : List ByteArray) (x : ByteArray), AllH q → x.size = 32 → AllH (q ++ [x]) := fun q x hq hx j hj => by
      rw [List.getD_eq_getElem?_getD]
      rcases Nat.lt_or_ge j q.length with h | h
      · rw [List.getElem?_append_left h, ← List.getD_eq_getElem?_getD]
        exact hq j h
      · have : j = q.length := by rw [List.length_append] at hj; simp at hj; omega
        subst this
        simpa using hx
    by_cases hp : p = l.length
    · rw [subV_all hp]
      split
      · intro j hj; simp at hj
      · intro j hj
        obtain rfl : j = 0 := by simpa using hj
        exact tree_size _ _ rfl (by omega) hA
    · by_cases hn : n < 2
      · rw [subV, if_neg hp, dif_pos (by omega)]
        intro j hj; simp at hj
      · obtain ⟨a1, a2, a3⟩ := half_facts (n := n) (by omega) h64
        have htl : (l.take (half n)).length = half n := by rw [List.length_take]; omega
        have hdl : (l.drop (half n)).length = n - half n := by rw [List.length_drop]; omega
        by_cases hlt : p ≤ half n
        · have e := subV_lo (l := l) (p := p) (kn := kn) (by omega) (by omega) hp (by rw [hl]; exact hlt)
          rw [hl] at e
          rw [e]
          exact push _ _ (ih _ a1 _ p kn htl (by omega) (hA.take _)) (tree_size _ _ rfl (by omega) (hA.drop _))
        · have e := subV_hi (l := l) (p := p) (kn := kn) (by omega) (by omega) hp (by rw [hl]; exact hlt)
          rw [hl] at e
          rw [e]
          exact push _ _ (ih _ (by omega) _ _ false hdl (by omega) (hA.drop _)) (tree_size _ _ rfl (by omega) (hA.take _))
theorem allH_small {l : List ByteArray} (h : AllH l) : ∀ i, (l.getD i ByteArray.empty).size ≤ 1048576 := by
  intro i
  by_cases hi : i < l.length
  · rw [h i hi]; omega
  · rw [List.getD_eq_getElem?_getD, List.getElem?_eq_none (by omega)]; decide
theorem ledB_code {ls : List ByteArray} {b : Br} {ss : List Se} (h : ledB ls b ss = true) : codeL ls = 0 := by
  obtain ⟨h50, _, _, _⟩ := ledB_factsP h
  unfold ledB at h
  simp only [Bool.and_eq_true] at h
  unfold codeL; rw [if_neg (by omega), if_pos ⟨by omega, h.1.1.2⟩]

/-- What ProveEntry answers. -/
def peOut (ls : List ByteArray) (b : Br) (ss : List Se) (p : Int) : List ByteArray × Int := if ledB ls b ss = true then (if inB p 0 ((ls.length : Int) - 1) then (pathV ls p.toNat, 0) else ([], 4)) else ([], 1)
theorem peOut_len (ls : List ByteArray) (b : Br) (ss : List Se) (p : Int) : (peOut ls b ss p).1.length ≤ ls.length := by
  unfold peOut; split
  · split
    · exact path_len _ ls _ rfl
    · simp
  · simp
/-- What ProveGrowth answers. -/
def pgOut (ls : List ByteArray) (b : Br) (ss : List Se) (p : Int) : List ByteArray × Int := if ledB ls b ss = true then (if p = 0 then ([], 0) else if inB p 1 (ls.length : Int) then (subV ls p.toNat true, 0) else ([], 4)) else ([], 1)
theorem pgOut_len (ls : List ByteArray) (b : Br) (ss : List Se) (p : Int) : (pgOut ls b ss p).1.length ≤ ls.length := by
  unfold pgOut; split
  · split
    · simp
    · split
      · rename_i h; have := inB_iff.1 h; exact sub_len _ ls _ _ rfl (by omega)
      · simp
  · simp
set_option maxHeartbeats 2000000 in
theorem implProveEntry_any (ls : List ByteArray) (k v : ByteArray) (a : Int) (ks : List Br) (ss : List Se) (lb lc : Nat) (ka : Option Addr) (kc : Nat) (sx : Addr) (sc : Nat) (p : Int) (w : World)
    (hS : SA w lb 0 lc ls) (h : LedR w (.slice (some ⟨lb, 0, none⟩) ls.length lc) (.slice ka ks.length kc) (.slice (some sx) ss.length sc) ls ks ss) (t1 : ∀ i, (ls.getD i ByteArray.empty).size ≤ 1048576) (zk : k.size ≤ maxLen) (zv : v.size ≤ maxLen) (t3 : ∀ i, (ss.getD i default).vl.size ≤ 1048576) (ht : Tab w) :
    Calls Tryd.prog 13 #[.agg #[.slice (some ⟨lb, 0, none⟩) ls.length lc, .string k, .string v, .int .i64 a, .slice ka ks.length kc, .slice (some sx) ss.length sc], .int .i64 p] w fun e w' => ∃ v', e = .returned (.tuple #[v', .int .i64 (peOut ls (.mk k v a ks) ss p).2]) ∧ OwnS w.heap.size w' v' (peOut ls (.mk k v a ks) ss p).1 ∧ Below w.heap.size w w' := by
  have B0 := hide ((Below.refl w.heap.size w).alloc (Nat.le_refl _) (.cells #[.slice (some ⟨lb, 0, none⟩) ls.length lc, .string k, .string v, .int .i64 a, .slice ka ks.length kc, .slice (some sx) ss.length sc] 39))
  have X0 := hide (Blk.new w #[.slice (some ⟨lb, 0, none⟩) ls.length lc, .string k, .string v, .int .i64 a, .slice ka ks.length kc, .slice (some sx) ss.length sc] 39 w.heap.size rfl)
  have HB := hide (fun wx (hx : Below w.heap.size w wx) => implLedgerOK_any ls k v a ks ss lb 0 lc ka kc sx sc wx (hS.below hx) (h.below hx) t1 zk zv t3 (ht.below hx))
  have HI := hide (fun wx (hx : Below w.heap.size w wx) => implInc_any ls p lb 0 lc wx (hS.below hx) t1 (ht.below hx))
  rcases Bool.eq_false_or_eq_true (ledB ls (.mk k v a ks) ss) with hl | hl
  case inr =>
    have E : peOut ls (.mk k v a ks) ss p = ([], 1) := by unfold peOut; rw [if_neg (by rw [hl]; decide)]
    rw [E]
    rw [hl] at HB
    clear hS h t1 zk zv t3 ht HI E
    go_enter Tryd.func13, Tryd.ntmps13
    go_wp2_with fail
    refine (unhide HB _ (unhide B0)).mono ?_
    rintro e w1 ⟨rfl, hb⟩
    have K1 := hide ((unhide B0).trans (hb.mono (unhide B0).size))
    clear hb
    go_wp2_with fail
    go_ret2
    exact ⟨_, rfl, OwnS.nil _ _, unhide K1⟩
  obtain ⟨h50, hall, _, _⟩ := ledB_factsP hl
  have HOO : peOut ls (.mk k v a ks) ss p = incOut ls p := by
    unfold peOut incOut; rw [if_pos hl, if_pos (ledB_code hl)]
  rw [HOO]
  rw [hl] at HB
  have HAH := hide (show AllH (incOut ls p).1 by
    unfold incOut; rw [if_pos (ledB_code hl)]; split
    · exact pathP_hash _ ls _ rfl (by omega) hall
    · intro j hj; simp at hj)
  have HLN := hide (Nat.le_trans (inc_len ls p) (show ls.length ≤ 64 by omega))
  clear hS h t1 zk zv t3 ht HOO hall h50 hl
  generalize (incOut ls p).1 = pr at *
  generalize (incOut ls p).2 = c at *
  go_enter Tryd.func13, Tryd.ntmps13
  go_wp2_with fail
  generalize w.alloc (.cells #[.slice (some ⟨lb, 0, none⟩) ls.length lc, .string k, .string v, .int .i64 a, .slice ka ks.length kc, .slice (some sx) ss.length sc] 39) = w0 at *
  refine (unhide HB w0 (unhide B0)).mono ?_
  rintro e w1 ⟨rfl, hb⟩
  have K1 := hide ((unhide B0).trans (hb.mono (unhide B0).size))
  have X1 := hide ((unhide X0).below hb)
  have x0 := (unhide X1).cell 0 rfl
  clear hb B0 X0 HB
  go_wp2_with fail
  refine (unhide HI w1 (unhide K1)).mono ?_
  rintro e w2 ⟨pv, rfl, hO, hb⟩
  have K2 := hide ((unhide K1).trans (hb.mono (unhide K1).size))
  have S2 := hide hO.strs
  clear hb hO HI
  go_wp2_with fail
  refine (ownTexts_any pv pr w2 (unhide S2) (allH_small (unhide HAH)) (unhide HLN)).mono ?_
  rintro e w3 ⟨v', rfl, hO, hb⟩
  have K3 := hide ((unhide K2).trans (hb.mono (unhide K2).size))
  have O3 := hide (World.ownsRow.mono hO (unhide K2).size)
  clear hb hO
  go_wp2_with fail
  go_ret2
  exact ⟨_, rfl, unhide O3, unhide K3⟩
set_option maxHeartbeats 2000000 in
theorem implProveGrowth_any (ls : List ByteArray) (k v : ByteArray) (a : Int) (ks : List Br) (ss : List Se) (lb lc : Nat) (ka : Option Addr) (kc : Nat) (sx : Addr) (sc : Nat) (p : Int) (w : World)
    (hS : SA w lb 0 lc ls) (h : LedR w (.slice (some ⟨lb, 0, none⟩) ls.length lc) (.slice ka ks.length kc) (.slice (some sx) ss.length sc) ls ks ss) (t1 : ∀ i, (ls.getD i ByteArray.empty).size ≤ 1048576) (zk : k.size ≤ maxLen) (zv : v.size ≤ maxLen) (t3 : ∀ i, (ss.getD i default).vl.size ≤ 1048576) (ht : Tab w) :
    Calls Tryd.prog 19 #[.agg #[.slice (some ⟨lb, 0, none⟩) ls.length lc, .string k, .string v, .int .i64 a, .slice ka ks.length kc, .slice (some sx) ss.length sc], .int .i64 p] w fun e w' => ∃ v', e = .returned (.tuple #[v', .int .i64 (pgOut ls (.mk k v a ks) ss p).2]) ∧ OwnS w.heap.size w' v' (pgOut ls (.mk k v a ks) ss p).1 ∧ Below w.heap.size w w' := by
  have B0 := hide ((Below.refl w.heap.size w).alloc (Nat.le_refl _) (.cells #[.slice (some ⟨lb, 0, none⟩) ls.length lc, .string k, .string v, .int .i64 a, .slice ka ks.length kc, .slice (some sx) ss.length sc] 39))
  have X0 := hide (Blk.new w #[.slice (some ⟨lb, 0, none⟩) ls.length lc, .string k, .string v, .int .i64 a, .slice ka ks.length kc, .slice (some sx) ss.length sc] 39 w.heap.size rfl)
  have HB := hide (fun wx (hx : Below w.heap.size w wx) => implLedgerOK_any ls k v a ks ss lb 0 lc ka kc sx sc wx (hS.below hx) (h.below hx) t1 zk zv t3 (ht.below hx))
  have HI := hide (fun wx (hx : Below w.heap.size w wx) => implCon_any ls p lb 0 lc wx (hS.below hx) t1 (ht.below hx))
  rcases Bool.eq_false_or_eq_true (ledB ls (.mk k v a ks) ss) with hl | hl
  case inr =>
    have E : pgOut ls (.mk k v a ks) ss p = ([], 1) := by unfold pgOut; rw [if_neg (by rw [hl]; decide)]
    rw [E]
    rw [hl] at HB
    clear hS h t1 zk zv t3 ht HI E
    go_enter Tryd.func19, Tryd.ntmps19
    go_wp2_with fail
    refine (unhide HB _ (unhide B0)).mono ?_
    rintro e w1 ⟨rfl, hb⟩
    have K1 := hide ((unhide B0).trans (hb.mono (unhide B0).size))
    clear hb
    go_wp2_with fail
    go_ret2
    exact ⟨_, rfl, OwnS.nil _ _, unhide K1⟩
  obtain ⟨h50, hall, _, _⟩ := ledB_factsP hl
  by_cases hp0 : p = 0
  · subst hp0
    have E : pgOut ls (.mk k v a ks) ss 0 = ([], 0) := by unfold pgOut; rw [if_pos hl, if_pos rfl]
    rw [E]
    rw [hl] at HB
    clear hS h t1 zk zv t3 ht HI E
    go_enter Tryd.func19, Tryd.ntmps19
    go_wp2_with fail
    refine (unhide HB _ (unhide B0)).mono ?_
    rintro e w1 ⟨rfl, hb⟩
    have K1 := hide ((unhide B0).trans (hb.mono (unhide B0).size))
    clear hb
    go_wp2_with fail
    go_ret2
    exact ⟨_, rfl, OwnS.nil _ _, unhide K1⟩
  have HOO : pgOut ls (.mk k v a ks) ss p = conOut ls p := by
    unfold pgOut conOut; rw [if_pos hl, if_pos (ledB_code hl)]
    rw [if_neg hp0]
  rw [HOO]
  rw [hl] at HB
  have HAH := hide (show AllH (conOut ls p).1 by
    unfold conOut; rw [if_pos (ledB_code hl)]; split
    · exact subP_hash _ ls _ _ rfl (by omega) hall
    · intro j hj; simp at hj)
  have HLN := hide (Nat.le_trans (con_len ls p) (show ls.length ≤ 64 by omega))
  clear hS h t1 zk zv t3 ht HOO hall h50 hl
  generalize (conOut ls p).1 = pr at *
  generalize (conOut ls p).2 = c at *
  go_enter Tryd.func19, Tryd.ntmps19
  go_wp2_with fail
  generalize w.alloc (.cells #[.slice (some ⟨lb, 0, none⟩) ls.length lc, .string k, .string v, .int .i64 a, .slice ka ks.length kc, .slice (some sx) ss.length sc] 39) = w0 at *
  refine (unhide HB w0 (unhide B0)).mono ?_
  rintro e w1 ⟨rfl, hb⟩
  have K1 := hide ((unhide B0).trans (hb.mono (unhide B0).size))
  have X1 := hide ((unhide X0).below hb)
  have x0 := (unhide X1).cell 0 rfl
  clear hb B0 X0 HB
  go_wp2_with fail
  refine (unhide HI w1 (unhide K1)).mono ?_
  rintro e w2 ⟨pv, rfl, hO, hb⟩
  have K2 := hide ((unhide K1).trans (hb.mono (unhide K1).size))
  have S2 := hide hO.strs
  clear hb hO HI
  go_wp2_with fail
  refine (ownTexts_any pv pr w2 (unhide S2) (allH_small (unhide HAH)) (unhide HLN)).mono ?_
  rintro e w3 ⟨v', rfl, hO, hb⟩
  have K3 := hide ((unhide K2).trans (hb.mono (unhide K2).size))
  have O3 := hide (World.ownsRow.mono hO (unhide K2).size)
  clear hb hO
  go_wp2_with fail
  go_ret2
  exact ⟨_, rfl, unhide O3, unhide K3⟩
set_option maxHeartbeats 2000000 in
theorem specProveEntry_any (ls : List ByteArray) (k v : ByteArray) (a : Int) (ks : List Br) (ss : List Se) (lb lc : Nat) (ka : Option Addr) (kc : Nat) (sx : Addr) (sc : Nat) (p : Int) (w : World)
    (hS : SA w lb 0 lc ls) (h : LedR w (.slice (some ⟨lb, 0, none⟩) ls.length lc) (.slice ka ks.length kc) (.slice (some sx) ss.length sc) ls ks ss) (t1 : ∀ i, (ls.getD i ByteArray.empty).size ≤ 1048576) (zk : k.size ≤ maxLen) (zv : v.size ≤ maxLen) (t3 : ∀ i, (ss.getD i default).vl.size ≤ 1048576) :
    Calls Tryd.prog 12 #[.agg #[.slice (some ⟨lb, 0, none⟩) ls.length lc, .string k, .string v, .int .i64 a, .slice ka ks.length kc, .slice (some sx) ss.length sc], .int .i64 p] w fun e w' => ∃ v', e = .returned (.tuple #[v', .int .i64 (peOut ls (.mk k v a ks) ss p).2]) ∧ OwnS w.heap.size w' v' (peOut ls (.mk k v a ks) ss p).1 ∧ Below w.heap.size w w' := by
  have B0 := hide ((Below.refl w.heap.size w).alloc (Nat.le_refl _) (.cells #[.slice (some ⟨lb, 0, none⟩) ls.length lc, .string k, .string v, .int .i64 a, .slice ka ks.length kc, .slice (some sx) ss.length sc] 39))
  have X0 := hide (Blk.new w #[.slice (some ⟨lb, 0, none⟩) ls.length lc, .string k, .string v, .int .i64 a, .slice ka ks.length kc, .slice (some sx) ss.length sc] 39 w.heap.size rfl)
  have HB := hide (fun wx (hx : Below w.heap.size w wx) => specLedgerOK_any ls k v a ks ss lb 0 lc ka kc (some sx) sc wx (hS.below hx) (h.below hx) t1 zk zv t3)
  have HSA := hide (fun wx (hx : Below w.heap.size w wx) => hS.below hx)
  rcases Bool.eq_false_or_eq_true (ledB ls (.mk k v a ks) ss) with hl | hl
  case inr =>
    have E : peOut ls (.mk k v a ks) ss p = ([], 1) := by unfold peOut; rw [if_neg (by rw [hl]; decide)]
    rw [E]
    rw [hl] at HB
    clear hS h t1 zk zv t3 E
    go_enter Tryd.func12, Tryd.ntmps12
    go_wp2_with fail
    refine (unhide HB _ (unhide B0)).mono ?_
    rintro e w1 ⟨rfl, hb⟩
    have K1 := hide ((unhide B0).trans (hb.mono (unhide B0).size))
    clear hb
    go_wp2_with fail
    go_ret2
    exact ⟨_, rfl, own_noneS w1 _ _ rfl (unhide K1).size, (unhide K1).alloc (unhide K1).size _⟩
  obtain ⟨h50, hall, _, _⟩ := ledB_factsP hl
  have hln : ls.length ≤ 9223372036854775807 := by omega
  rw [hl] at HB
  clear hS h t1 zk zv t3
  have HO : Hid (peOut ls (.mk k v a ks) ss p = if inB p 0 ((ls.length : Int) - 1) then (pathV ls p.toNat, 0) else ([], 4)) := hide (by unfold peOut; rw [if_pos hl])
  have HK := hide (fun (q : Nat) (hq : q < ls.length) wx (hx : Below w.heap.size w wx) => l06Path_any ls.length ls q lb 0 lc wx rfl (by omega) (by omega) hq hall (unhide HSA wx hx))
  have HW := hide (fun wx => l01In_any p 0 ((ls.length : Int) - 1) wx)
  have HIB := hide (inB_iff (n := p) (lo := 0) (hi := (ls.length : Int) - 1))
  generalize inB p 0 ((ls.length : Int) - 1) = bb at *
  generalize peOut ls (.mk k v a ks) ss p = out at *
  clear hall hl HSA
  go_enter Tryd.func12, Tryd.ntmps12
  go_wp2_with fail
  generalize w.alloc (.cells #[.slice (some ⟨lb, 0, none⟩) ls.length lc, .string k, .string v, .int .i64 a, .slice ka ks.length kc, .slice (some sx) ss.length sc] 39) = w0 at *
  refine (unhide HB w0 (unhide B0)).mono ?_
  rintro e w1 ⟨rfl, hb⟩
  have K1 := hide ((unhide B0).trans (hb.mono (unhide B0).size))
  have X1 := hide ((unhide X0).below hb)
  have x0 := (unhide X1).cell 0 rfl
  clear hb B0 X0 HB
  go_wp2_with fail
  refine (unhide HW w1).mono ?_
  rintro e w' ⟨rfl, rfl⟩
  cases bb
  · rw [if_neg (by simp)] at HO
    go_wp2_with fail
    go_ret2
    exact ⟨_, by rw [unhide HO]; rfl, by rw [unhide HO]; exact own_noneS w' _ _ rfl (unhide K1).size, (unhide K1).alloc (unhide K1).size _⟩
  · obtain ⟨q0, q1⟩ := (unhide HIB).1 rfl
    obtain ⟨q, rfl⟩ : ∃ q : Nat, p = (q : Int) := ⟨p.toNat, by omega⟩
    rw [if_pos rfl, Int.toNat_natCast] at HO
    have HG := hide (unhide HK q (by omega) w' (unhide K1))
    go_wp2_with fail
    refine (unhide HG).mono ?_
    rintro e w2 ⟨v', rfl, hO, hb⟩
    have K2 := hide ((unhide K1).trans (hb.mono (unhide K1).size))
    have O2 := hide (World.ownsRow.mono hO (unhide K1).size)
    clear hb hO
    go_wp2_with fail
    go_ret2
    exact ⟨v', by rw [unhide HO]; rfl, by rw [unhide HO]; exact unhide O2, unhide K2⟩
set_option maxHeartbeats 2000000 in
theorem specProveGrowth_any (ls : List ByteArray) (k v : ByteArray) (a : Int) (ks : List Br) (ss : List Se) (lb lc : Nat) (ka : Option Addr) (kc : Nat) (sx : Addr) (sc : Nat) (p : Int) (w : World)
    (hS : SA w lb 0 lc ls) (h : LedR w (.slice (some ⟨lb, 0, none⟩) ls.length lc) (.slice ka ks.length kc) (.slice (some sx) ss.length sc) ls ks ss) (t1 : ∀ i, (ls.getD i ByteArray.empty).size ≤ 1048576) (zk : k.size ≤ maxLen) (zv : v.size ≤ maxLen) (t3 : ∀ i, (ss.getD i default).vl.size ≤ 1048576) :
    Calls Tryd.prog 18 #[.agg #[.slice (some ⟨lb, 0, none⟩) ls.length lc, .string k, .string v, .int .i64 a, .slice ka ks.length kc, .slice (some sx) ss.length sc], .int .i64 p] w fun e w' => ∃ v', e = .returned (.tuple #[v', .int .i64 (pgOut ls (.mk k v a ks) ss p).2]) ∧ OwnS w.heap.size w' v' (pgOut ls (.mk k v a ks) ss p).1 ∧ Below w.heap.size w w' := by
  have B0 := hide ((Below.refl w.heap.size w).alloc (Nat.le_refl _) (.cells #[.slice (some ⟨lb, 0, none⟩) ls.length lc, .string k, .string v, .int .i64 a, .slice ka ks.length kc, .slice (some sx) ss.length sc] 39))
  have X0 := hide (Blk.new w #[.slice (some ⟨lb, 0, none⟩) ls.length lc, .string k, .string v, .int .i64 a, .slice ka ks.length kc, .slice (some sx) ss.length sc] 39 w.heap.size rfl)
  have HB := hide (fun wx (hx : Below w.heap.size w wx) => specLedgerOK_any ls k v a ks ss lb 0 lc ka kc (some sx) sc wx (hS.below hx) (h.below hx) t1 zk zv t3)
  have HSA := hide (fun wx (hx : Below w.heap.size w wx) => hS.below hx)
  rcases Bool.eq_false_or_eq_true (ledB ls (.mk k v a ks) ss) with hl | hl
  case inr =>
    have E : pgOut ls (.mk k v a ks) ss p = ([], 1) := by unfold pgOut; rw [if_neg (by rw [hl]; decide)]
    rw [E]
    rw [hl] at HB
    clear hS h t1 zk zv t3 E
    go_enter Tryd.func18, Tryd.ntmps18
    go_wp2_with fail
    refine (unhide HB _ (unhide B0)).mono ?_
    rintro e w1 ⟨rfl, hb⟩
    have K1 := hide ((unhide B0).trans (hb.mono (unhide B0).size))
    clear hb
    go_wp2_with fail
    go_ret2
    exact ⟨_, rfl, own_noneS w1 _ _ rfl (unhide K1).size, (unhide K1).alloc (unhide K1).size _⟩
  obtain ⟨h50, hall, _, _⟩ := ledB_factsP hl
  have hln : ls.length ≤ 9223372036854775807 := by omega
  rw [hl] at HB
  clear hS h t1 zk zv t3
  have HO : Hid (pgOut ls (.mk k v a ks) ss p = if p = 0 then ([], 0) else if inB p 1 (ls.length : Int) then (subV ls p.toNat true, 0) else ([], 4)) := hide (by unfold pgOut; rw [if_pos hl])
  have HK := hide (fun (q : Nat) (h1 : 1 ≤ q) (hq : q ≤ ls.length) wx (hx : Below w.heap.size w wx) => l06Sub_any ls.length ls q true lb 0 lc wx rfl (by omega) (by omega) h1 hq hall (unhide HSA wx hx))
  have HW := hide (fun wx => l01In_any p 0 (ls.length : Int) wx)
  have HIB := hide (inB_iff (n := p) (lo := 0) (hi := (ls.length : Int)))
  have HI1 := hide (inB_iff (n := p) (lo := 1) (hi := (ls.length : Int)))
  have HAL := hide (subV_all (l := ls) (p := ls.length) (kn := true) rfl)
  generalize inB p 0 (ls.length : Int) = bb at *
  generalize inB p 1 (ls.length : Int) = b1 at *
  generalize pgOut ls (.mk k v a ks) ss p = out at *
  clear hall hl HSA
  go_enter Tryd.func18, Tryd.ntmps18
  go_wp2_with fail
  generalize w.alloc (.cells #[.slice (some ⟨lb, 0, none⟩) ls.length lc, .string k, .string v, .int .i64 a, .slice ka ks.length kc, .slice (some sx) ss.length sc] 39) = w0 at *
  refine (unhide HB w0 (unhide B0)).mono ?_
  rintro e w1 ⟨rfl, hb⟩
  have K1 := hide ((unhide B0).trans (hb.mono (unhide B0).size))
  have X1 := hide ((unhide X0).below hb)
  have x0 := (unhide X1).cell 0 rfl
  clear hb B0 X0 HB
  go_wp2_with fail
  refine (unhide HW w1).mono ?_
  rintro e w' ⟨rfl, rfl⟩
  cases bb
  · have hnb : ¬ (0 ≤ p ∧ p ≤ (ls.length : Int)) := fun e => by have := (unhide HIB).2 e; cases this
    have hb1 : ¬ b1 = true := fun e => hnb (by have := (unhide HI1).1 e; omega)
    have E := hide (show out = ([], 4) by rw [unhide HO, if_neg (by omega), if_neg hb1])
    clear hnb hb1 HO
    go_wp2_with fail
    go_ret2
    exact ⟨_, by rw [unhide E]; rfl, by rw [unhide E]; exact own_noneS w' _ _ rfl (unhide K1).size, (unhide K1).alloc (unhide K1).size _⟩
  obtain ⟨q0, q1⟩ := (unhide HIB).1 rfl
  obtain ⟨q, rfl⟩ : ∃ q : Nat, p = (q : Int) := ⟨p.toNat, by omega⟩
  by_cases hq : q = 0 ∨ q = ls.length
  · have E := hide (show out = ([], 0) by
      rw [unhide HO]
      by_cases h0 : q = 0
      · rw [if_pos (by omega)]
      · rw [if_neg (by omega), if_pos ((unhide HI1).2 (by omega)), Int.toNat_natCast]
        obtain rfl : q = ls.length := by omega
        rw [unhide HAL]; rfl)
    clear HO
    by_cases h0 : q = 0
    · subst h0
      go_wp2_with fail
      go_ret2
      exact ⟨_, by rw [unhide E]; rfl, by rw [unhide E]; exact own_noneS w' _ _ rfl (unhide K1).size, (unhide K1).alloc (unhide K1).size _⟩
    · obtain rfl : q = ls.length := by omega
      have h1 : ((ls.length : Int) == 0) = false := by rw [beq_eq_false_iff_ne]; omega
      have h2 : ((ls.length : Int) == (ls.length : Int)) = true := by simp
      go_wp2_with fail
      go_ret2
      exact ⟨_, by rw [unhide E]; rfl, by rw [unhide E]; exact own_noneS w' _ _ rfl (unhide K1).size, (unhide K1).alloc (unhide K1).size _⟩
  · have E := hide (show out = (subV ls q true, 0) by rw [unhide HO, if_neg (by omega), if_pos ((unhide HI1).2 (by omega)), Int.toNat_natCast])
    have HG := hide (unhide HK q (by omega) (by omega) w' (unhide K1))
    have h1 : ((q : Int) == 0) = false := by rw [beq_eq_false_iff_ne]; omega
    have h2 : ((q : Int) == (ls.length : Int)) = false := by rw [beq_eq_false_iff_ne]; omega
    clear HO hq
    go_wp2_with fail
    refine (unhide HG).mono ?_
    rintro e w2 ⟨v', rfl, hO, hb⟩
    have K2 := hide ((unhide K1).trans (hb.mono (unhide K1).size))
    have O2 := hide (World.ownsRow.mono hO (unhide K1).size)
    clear hb hO
    go_wp2_with fail
    go_ret2
    exact ⟨v', by rw [unhide E]; rfl, by rw [unhide E]; exact unhide O2, unhide K2⟩
end Go.Proofs.YtkojmnlfpccbiaaDoor.Sha
