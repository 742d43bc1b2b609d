/- What is hashed on the way up from a leaf: pure; impl.inputsUp. -/
import Derived.Test.YtiiaehajcomfaaaDoorMkV
namespace Go.Proofs.YtiiaehajcomfaaaDoor.Sha
open Go.ChangeShapes Go.WideShapes Go.ChangeAt Go.RowKit
set_option linter.unusedVariables false
set_option linter.unusedSimpArgs false

theorem strs_pushed {B g cap n : Nat} {w : World} {l : List ByteArray} {t : ByteArray} (h : w.ownsRow B 9 1 (.slice (some ⟨g, 0, none⟩) n cap) n (l.map Value.string ++ [.string t])) : OwnS B w (.slice (some ⟨g, 0, none⟩) n cap) (l ++ [t]) := by
  have hn : (l ++ [t]).length = n := by
    have := h.1
    simpa using this
  unfold OwnS
  rw [hn]
  simpa using h
/-- What is hashed on the way up, the lowest first. -/
def inpL : List (Int × ByteArray) → ByteArray → List ByteArray
  | [], _ => []
  | t :: l, h => inV h t :: inpL l (climbV h t)
theorem inpL_len (l : List (Int × ByteArray)) : ∀ h, (inpL l h).length = l.length := by
  induction l with
  | nil => intro h; rfl
  | cons t l ih => intro h; simp [inpL, ih]
theorem inpL_app (a b : List (Int × ByteArray)) : ∀ h, inpL (a ++ b) h = inpL a h ++ inpL b (a.foldl climbV h) := by
  induction a with
  | nil => intro h; rfl
  | cons t a ih => intro h; simp [inpL, ih]
theorem inpL_next (l : List (Int × ByteArray)) (h : ByteArray) (k : Nat) (hk : k < l.length) : inpL (l.take (k + 1)) h = inpL (l.take k) h ++ [inV ((l.take k).foldl climbV h) (l.getD k (0, ByteArray.empty))] := by
  rw [List.take_add_one, inpL_app, List.getElem?_eq_getElem hk, List.getD_eq_getElem?_getD, List.getElem?_eq_getElem hk]
  rfl
theorem inpL_size (l : List (Int × ByteArray)) : ∀ h, h.size = 32 → (∀ i, i < l.length → (l.getD i (0, ByteArray.empty)).2.size = 32) → ∀ i, i < (inpL l h).length → ((inpL l h).getD i ByteArray.empty).size = 65 := by
  induction l with
  | nil => intro h _ _ i hi; simp [inpL] at hi
  | cons t l ih =>
    intro h hh hs i hi
    have ht : t.2.size = 32 := by simpa using hs 0 (by simp)
    cases i with
    | zero => simpa [inpL] using inV_size hh ht
    | succ i =>
      have := ih (climbV h t) (climb_size hh ht) (fun j hj => by simpa using hs (j + 1) (by simpa using hj)) i (by simpa [inpL] using hi)
      simpa [inpL] using this

set_option maxRecDepth 100000 in
set_option maxHeartbeats 2000000 in
theorem inputsUp_any (v : Value) (l : List (Int × ByteArray)) (leaf : ByteArray) (B : Nat) (w : World) (hO : OwnT B w v l) (hll : l.length ≤ 64) (hs : ∀ i, i < l.length → (l.getD i (0, ByteArray.empty)).2.size = 32) (hl : leaf.size = 32) (ht : Tab w) :
    Calls Tryd.prog 46 #[.string leaf, v] w fun e w' => ∃ u, e = .returned u ∧ OwnS w.heap.size w' u (inpL l leaf) ∧ Below w.heap.size w w' := by
  obtain ⟨i0, hi, hz0, hz1, hz2⟩ := info_parts9
  rcases _root_.Go.Proofs.YtiiaehajcomfaaaDoor.own_shape hO with ⟨rfl, h0⟩ | ⟨g, wc, rfl, hB, hlt0, hn, hm⟩
  · obtain rfl := List.eq_nil_of_length_eq_zero h0
    clear hO hs
    go_enter Tryd.func46, Tryd.ntmps46
    go_wp2_with fail
    go_loopw [0, 5, 10] (fun lv ov i wr => lv = .string leaf ∧ ov = .slice none 0 0 ∧ i = .int .i64 0 ∧ wr = w) (fun _ _ _ _ => 0)
    case atStart => exact ⟨rfl, rfl, rfl, rfl⟩
    case round =>
      obtain ⟨rfl, rfl, rfl, hwr⟩ := hrel
      subst wr
      go_wp2_with fail
      go_ret
      exact ⟨_, rfl, OwnS.nil _ _, Below.refl _ _⟩
  have HW := hide hO
  have HS := hide hs
  have HT := hide ht
  have HF := hide (fold_size l leaf hl hs)
  clear hO hs ht
  go_enter Tryd.func46, Tryd.ntmps46
  go_wp2_with fail
  go_loopw [0, 5, 10] (fun lv ov i wr => ∃ k : Nat, k ≤ l.length ∧ i = .int .i64 k ∧ lv = .string ((l.take k).foldl climbV leaf) ∧ OwnS w.heap.size wr ov (inpL (l.take k) leaf) ∧ Below w.heap.size w wr) (fun _ _ i _ => l.length - (intOf i).toNat)
  case atStart => exact ⟨0, Nat.zero_le _, rfl, rfl, OwnS.nil _ _, Below.refl _ _⟩
  case round =>
    obtain ⟨k, hk, rfl, rfl, hOS, hb⟩ := hrel
    by_cases hlt : k < l.length
    · obtain ⟨c0, c1⟩ := ((unhide HW).below hb).cell k hlt
      have hk0 : (0 : Int) ≤ (k : Int) := by omega
      have hk1 : (k : Int) < (l.length : Int) := by omega
      have HE := hide (foldl_next climbV leaf l (0, ByteArray.empty) k hlt)
      have HI := hide (inpL_next l leaf k hlt)
      have z1 := unhide HF k (by omega)
      have z2 := unhide HS k hlt
      have HZ := hide (And.intro z1 z2)
      have HL : Hid ((inpL (l.take k) leaf).length = k) := hide (by rw [inpL_len, List.length_take]; omega)
      have HB := hide hb
      have HO := hide hOS
      have hbs := hb.size
      clear hb z1 z2 hOS
      generalize inpL (l.take k) leaf = pk at *
      generalize (l.take k).foldl climbV leaf = h at *
      generalize l.getD k (0, ByteArray.empty) = t at *
      obtain ⟨s, x⟩ := t
      dsimp only at c0 c1 HE HZ HI
      have B1 := hide ((unhide HB).alloc hbs (.cells #[.int .i64 s, .string x] 106))
      have O1 := hide ((unhide HO).below ((Below.refl wr.heap.size wr).alloc (Nat.le_refl _) (.cells #[.int .i64 s, .string x] 106)))
      have X1 := hide (Blk.new wr #[.int .i64 s, .string x] 106 wr.heap.size rfl)
      have HLT := hide (unhide HO).lt
      clear HB HO
      go_wp2_with fail
      generalize wr.alloc (.cells #[.int .i64 s, .string x] 106) = w1 at *
      refine (input_any h s x w1 (unhide HZ).1 (unhide HZ).2).mono ?_
      rintro e w2 ⟨rfl, hb2⟩
      have B2 := hide ((unhide B1).trans (hb2.mono (unhide B1).size))
      have O2 := hide ((unhide O1).below hb2)
      have X2 := hide ((unhide X1).below hb2)
      clear hb2 B1 O1 X1
      generalize inV h (s, x) = y at *
      have HO3 := hide (show w2.ownsRow w.heap.size 9 1 u5 k (pk.map Value.string) by have := unhide O2; unfold OwnS at this; rw [unhide HL] at this; exact this)
      have d0 := (((Below.refl w2.heap.size w2).alloc (Nat.le_refl _) (.cells #[.string y] 9)).cell (p := ⟨wr.heap.size, 0, none⟩) (unhide X2).1).trans ((unhide X2).cell 0 rfl)
      have d1 := (((Below.refl w2.heap.size w2).alloc (Nat.le_refl _) (.cells #[.string y] 9)).cell (p := ⟨wr.heap.size, 1, none⟩) (unhide X2).1).trans ((unhide X2).cell 1 rfl)
      go_wp2_with (at_builtin; refine wpList_append_lies _ rfl _ _ _ rfl w.heap.size 9 i0 _ 1 16 Tryd.underlying36 hi hz0 hz1 hz2 rfl (by omega) u5 k (pk.map Value.string) rfl (own_kept (T := fun _ => False) (unhide HO3) (Touch.ofBelow ((Below.refl w2.heap.size w2).alloc (Nat.le_refl _) (.cells #[.string y] 9))) (fun _ _ h => h)) ⟨w2.heap.size, 0, none⟩ 1 1 [_] rfl rfl (World.news_of_block (cs := #[_]) (t := 9) (fr := (0, 0)) (heap_alloc_new w2 _)) (by simp [Value.oneCell']) (by omega) (by unfold maxLen; omega) (by omega) (by have := (unhide B2).size; simp; omega) _ rfl ?_; intro g3 cap3 w3 hown3 hgrow3 hat3 hlt3; have R := hide (And.intro (strs_pushed (t := y) hown3) (((unhide B2).alloc (unhide B2).size (.cells #[.string y] 9)).grown hgrow3 (by have := (unhide B2).size; simp; omega) (fun r hr => ((unhide HO3).lt r hr).1))); have X3 := hide (((unhide X2).alloc (.cells #[.string y] 9)).kept (T := fun q => u5.ownBlock = some q) ((Touch.refl _ _).grown hgrow3 (fun q hq _ => hq)) (fun e => by have := (unhide HLT _ e).2; omega)); have e0 := (unhide X3).cell 0 rfl; have e1 := (unhide X3).cell 1 rfl; clear hown3 hgrow3 hat3 hlt3 d0 d1)
      have HC := hide (climb_any h s x w3 (unhide HZ).1 (unhide HZ).2 ((unhide HT).below (unhide R).2))
      refine (unhide HC).mono ?_
      rintro e w4 ⟨rfl, hb4⟩
      have R4 := hide (And.intro ((unhide R).1.below hb4) ((unhide R).2.trans (hb4.mono (unhide R).2.size)))
      clear hb4 R HC
      rw [← unhide HE]
      rw [← unhide HI] at R4
      go_wp2_with fail
      refine ⟨⟨k + 1, by omega, by go_num, rfl, (unhide R4).1, (unhide R4).2⟩, ?_⟩
      simp [intOf]; omega
    · obtain rfl : k = l.length := by omega
      have R := hide (And.intro hOS hb)
      rw [List.take_length] at R
      clear hOS hb
      go_wp2_with fail
      go_ret
      exact ⟨_, rfl, (unhide R).1, (unhide R).2⟩
end Go.Proofs.YtiiaehajcomfaaaDoor.Sha
