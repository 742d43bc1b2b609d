/- For all bytes, laws.FnFrames returns true, and the slices read as they did. No condition. -/
import Derived.Test.YtjkmnnjagcabdaaFrX
import Derived.Test.YtjkmnnjagcabdaaFrR
import Derived.Test.YtjkmnnjagcabdaaFrT
import Derived.Test.YtjkmnnjagcabdaaSameT
import Derived.Test.YtjkmnnjagcabdaaSrcO
import Derived.Test.YtjkmnnjagcabdaaAppB
import Derived.Test.YtjkmnnjagcabdaaLaidI
import Derived.Deep.Onto
namespace Go.Proofs.Ytjkmnnjagcabdaa.fnFrames
open Go.ChangeShapes Go.WideShapes Go.ChangeAt Go.RowKit fnExactCheck32
open Go.ChangeMaps (open_string shut_string)
set_option linter.unusedVariables false
set_option linter.unusedSimpArgs false

theorem own_litE {w : World} {B X n : Nat} {e : TypeId} {cs : Array Value} (h : w.heap[X]? = some (.cells cs e (0, 0))) (hB : B ≤ X) (hn : cs.size = n) (hm : n ≤ maxLen) : w.ownsRow B e 1 (.slice (some ⟨X, 0, none⟩) n n) n cs.toList :=
  ⟨by simp [hn], .inr ⟨X, n, cs, rfl, hB, h, Nat.le_refl _, hm, by simp [hn], by rw [Nat.mul_one, ← hn, ← Array.length_toList, List.take_length]⟩⟩
/-- Rows of different kinds lie apart. -/
theorem own_apart {w : World} {B B' s s' n n' : Nat} {e e' : TypeId} {v v' : Value} {xs xs' : List Value} (h : w.ownsRow B e s v n xs) (h' : w.ownsRow B' e' s' v' n' xs') (hne : e ≠ e') : ∀ k, v.ownBlock = some k → v'.ownBlock ≠ some k := by
  intro k hk hk'
  rcases h.2 with ⟨rfl, _⟩ | ⟨g, cap, cur, rfl, _, hg, _⟩
  · cases hk
  · rcases h'.2 with ⟨rfl, _⟩ | ⟨g', cap', cur', rfl, _, hg', _⟩
    · cases hk'
    · cases hk
      have : g' = g := by simpa [Value.ownBlock] using hk'
      subst this
      rw [hg] at hg'
      simp only [Option.some.injEq, Obj.cells.injEq] at hg'
      exact hne hg'.2.1
theorem own_far {w w' : World} {B s n : Nat} {e : TypeId} {v u : Value} {xs : List Value} (h : w.ownsRow B e s v n xs) (hg : w.grownBy w' u.ownBlock) (hn : ∀ k, v.ownBlock = some k → u.ownBlock ≠ some k) : w'.ownsRow B e s v n xs := by
  obtain ⟨hl, hc⟩ := h
  refine ⟨hl, ?_⟩
  rcases hc with h0 | ⟨g, cap, cur, rfl, hb, hgg, rest⟩
  · exact .inl h0
  · exact .inr ⟨g, cap, cur, rfl, hb, (hg.block g (Array.getElem?_eq_some_iff.1 hgg).1 (fun e => hn g rfl e.symm)).trans hgg, rest⟩
def endsL (ds : List (List Int)) : List Int := (List.range (ds.length + 1)).map fun j => ((flat (ds.take j)).length : Int)
theorem endsL_len (ds : List (List Int)) : (endsL ds).length = ds.length + 1 := by simp [endsL]
theorem endsL_get (ds : List (List Int)) (j : Nat) (h : j ≤ ds.length) : (endsL ds).getD j 0 = ((flat (ds.take j)).length : Int) := by
  simp [endsL, List.getD_eq_getElem?_getD, show j < ds.length + 1 by omega]
theorem endsL_snoc (ds : List (List Int)) (d : List Int) : endsL (ds ++ [d]) = endsL ds ++ [((flat ds).length + (frameL d).length : Int)] := by
  apply List.ext_getElem?
  intro j
  by_cases h : j < ds.length + 1
  · rw [List.getElem?_append_left (by rw [endsL_len]; exact h)]
    simp only [endsL, List.length_append, List.length_cons, List.length_nil, List.getElem?_map]
    rw [List.getElem?_range (by omega), List.getElem?_range h]
    simp only [Option.map_some]
    rw [List.take_append_of_le_length (by omega)]
  · rw [List.getElem?_append_right (by rw [endsL_len]; omega), endsL_len]
    by_cases h2 : j = ds.length + 1
    · subst h2
      simp [endsL]
      rw [List.take_of_length_le (by simp), flat_snoc, List.length_append]
      omega
    · rw [List.getElem?_eq_none (by rw [endsL_len]; simp; omega), List.getElem?_eq_none (by simp; omega)]
/-- What the loop has gathered. -/
def GoodL (ds : List (List Int)) : Prop := ∀ d ∈ ds, Good d ∧ d.length ≤ 21
theorem GoodL.len {ds : List (List Int)} (h : GoodL ds) : (flat ds).length ≤ 27 * ds.length := by
  induction ds with
  | nil => simp [flat]
  | cons d t ih =>
    have h1 := h d (by simp)
    have h2 := ih (fun x hx => h x (by simp [hx]))
    have e : flat (d :: t) = frameL d ++ flat t := by simp [flat]
    rw [e, List.length_append, frameL_len]
    simp only [List.length_cons]
    omega
theorem flat_range {ds : List (List Int)} (h : GoodL ds) : ∀ i, 0 ≤ (flat ds).getD i 0 ∧ (flat ds).getD i 0 ≤ 255 := by
  induction ds with
  | nil => intro i; simp [flat]
  | cons d t ih =>
    have e : flat (d :: t) = frameL d ++ flat t := by simp [flat]
    rw [e]
    refine range_append ?_ (ih (fun x hx => h x (by simp [hx])))
    unfold frameL
    exact range_append (range_append (encN_range _ _) (encN_range _ _)) (h d (by simp)).1.2.2

theorem RdV.cut {w : World} {b : Nat} {a : Option Addr} {cap : Nat} {l : List Int} (h : RdV w b (.slice a l.length cap) l) (c : Nat) (hc : c ≤ l.length) : RdV w b (.slice a (l.take c).length cap) (l.take c) := by
  have hl : (l.take c).length = c := by rw [List.length_take]; omega
  obtain ⟨a', cap', e, h1, h2, h3, h4⟩ := h
  cases e
  refine ⟨a, cap, rfl, by omega, h2, ?_, range_take c h4⟩
  rcases h3 with h0 | ⟨x, off, ha, hlt, hcell⟩
  · exact .inl h0
  · exact .inr ⟨x, off, ha, hlt, fun i hi => by rw [hl] at hi; rw [getD_take hi]; exact hcell i (by omega)⟩
theorem split_at (ds : List (List Int)) (k : Nat) (hk : k < ds.length) : flat ds = flat (ds.take k) ++ (frameL (ds.getD k []) ++ flat (ds.drop (k + 1))) ∧ (flat (ds.take (k + 1))).length = (flat (ds.take k)).length + (6 + (ds.getD k []).length) := by
  have e : ds = ds.take k ++ (ds.getD k [] :: ds.drop (k + 1)) := by
    have h1 := (List.take_append_drop k ds).symm
    rw [List.drop_eq_getElem_cons hk] at h1
    rw [List.getD_eq_getElem?_getD, List.getElem?_eq_getElem hk]
    exact h1
  constructor
  · conv => lhs; rw [e]
    simp [flat]
  · have e2 : ds.take (k + 1) = ds.take k ++ [ds.getD k []] := by
      rw [List.take_succ_eq_append_getElem hk, List.getD_eq_getElem?_getD, List.getElem?_eq_getElem hk]; rfl
    rw [e2, flat_snoc, List.length_append, frameL_len]
theorem good_take {ds : List (List Int)} (h : GoodL ds) (k : Nat) : ∀ x ∈ ds.take k, Good x := fun x hx => (h x (List.mem_of_mem_take hx)).1
theorem good_get {ds : List (List Int)} (h : GoodL ds) (k : Nat) (hk : k < ds.length) : Good (ds.getD k []) ∧ (ds.getD k []).length ≤ 21 := by
  rw [List.getD_eq_getElem?_getD, List.getElem?_eq_getElem hk]; exact h _ (List.getElem_mem hk)
theorem cut_at {ds : List (List Int)} (h : GoodL ds) (hs : ds.length ≤ 5) (k c : Nat) (hk : k < ds.length) (h1 : (flat (ds.take k)).length ≤ c) (h2 : c < (flat (ds.take (k + 1))).length) :
    rfOut ((flat ds).take c) = (ds.take k, (flat (ds.take k)).length, if c = (flat (ds.take k)).length then 0 else 16) := by
  obtain ⟨e, e2⟩ := split_at ds k hk
  have hl := h.len
  have hg := good_get h k hk
  have et : (flat ds).take c = flat (ds.take k) ++ (frameL (ds.getD k [])).take (c - (flat (ds.take k)).length) := by
    rw [e, List.take_append, List.take_append]
    have t1 : (flat (ds.take k)).take c = flat (ds.take k) := List.take_of_length_le h1
    have t2 : c - (flat (ds.take k)).length - (frameL (ds.getD k [])).length = 0 := by rw [frameL_len]; omega
    rw [t1, t2]; simp
  unfold rfOut
  rw [if_neg (by rw [List.length_take]; omega), et, fr_cut (ds.take k) _ _ (good_take h k) hg.1 (by omega)]
  by_cases hz : c = (flat (ds.take k)).length
  · rw [if_pos hz, if_pos (by omega)]
  · rw [if_neg hz, if_neg (by omega)]
theorem bad_at {ds : List (List Int)} (h : GoodL ds) (hs : ds.length ≤ 5) (j q : Nat) (y : Int) (hj : j < ds.length) (hq : 2 ≤ q) (hq2 : q < 6 + (ds.getD j []).length) (hy0 : 0 ≤ y) (hy1 : y ≤ 255) (hne : (flat ds).getD ((flat (ds.take j)).length + q) 0 ≠ y) :
    rfOut ((flat ds).set ((flat (ds.take j)).length + q) y) = (ds.take j, (flat (ds.take j)).length, 8) := by
  obtain ⟨e, e2⟩ := split_at ds j hj
  have hl := h.len
  have hg := good_get h j hj
  have hq3 : q < (frameL (ds.getD j [])).length := by rw [frameL_len]; exact hq2
  have et : (flat ds).set ((flat (ds.take j)).length + q) y = flat (ds.take j) ++ ((frameL (ds.getD j [])).set q y ++ flat (ds.drop (j + 1))) := by
    conv => lhs; rw [e]
    rw [List.set_append_right _ _ (by omega), Nat.add_sub_cancel_left, List.set_append_left _ _ hq3]
  have hne2 : (frameL (ds.getD j [])).getD q 0 ≠ y := by
    rw [e, List.getD_eq_getElem?_getD, List.getElem?_append_right (by omega), Nat.add_sub_cancel_left, List.getElem?_append_left hq3, ← List.getD_eq_getElem?_getD] at hne
    exact hne
  unfold rfOut
  rw [if_neg (by rw [List.length_set]; omega), et]
  exact fr_bad (ds.take j) _ _ q y (good_take h j) hg.1 hq hq2 hy0 hy1 hne2
theorem OwnS.cut {B : Nat} {w : World} {g cap n : Nat} {ds : List (List Int)} (h : OwnS B w (.slice (some ⟨g, 0, none⟩) n cap) (ds.map strOfNums)) (k : Nat) (hk : k ≤ ds.length) (hl : ds.length ≤ maxLen) : Strs w (.slice (some ⟨g, 0, none⟩) k cap) ((ds.take k).map strOfNums) := by
  have hlen : ((ds.take k).map strOfNums).length = k := by simp; omega
  have hlt := (h.lt g rfl).2
  refine ⟨some ⟨g, 0, none⟩, cap, by rw [hlen], by rw [hlen]; omega, .inr ⟨g, 0, rfl, hlt, fun i hi => ?_⟩⟩
  rw [hlen] at hi
  rw [Nat.zero_add, h.cell i (by simp; omega)]
  rw [List.getD_eq_getElem?_getD, List.getD_eq_getElem?_getD, List.getElem?_map, List.getElem?_map, List.getElem?_take, if_pos hi]
theorem u8_xor (a b : Nat) (ha : a < 256) (hb : b < 256) : bits BinOp.xor IntKind.u8 (a : Int) (b : Int) = ((a ^^^ b : Nat) : Int) := by
  have h : a ^^^ b < 256 := Nat.xor_lt_two_pow (n := 8) ha hb
  have e : ∀ n : Nat, n < 256 → (BitVec.ofInt 64 (n : Int)).toNat = n := fun n hn => by
    rw [BitVec.ofInt_natCast, BitVec.toNat_ofNat]; omega
  have e8 : ∀ n : Nat, n < 256 → (BitVec.ofInt 8 (n : Int)).toNat = n := fun n hn => by
    rw [BitVec.ofInt_natCast, BitVec.toNat_ofNat]; omega
  first
    | (show IntKind.u8.wrap ((BitVec.ofInt 8 (a : Int) ^^^ BitVec.ofInt 8 (b : Int)).toNat : Int) = _
       rw [BitVec.toNat_xor, e8 a ha, e8 b hb]
       generalize a ^^^ b = n at *
       simp only [IntKind.wrap, IntKind.bits, IntKind.signed]
       simp; omega)
    | (show IntKind.u8.wrap ((BitVec.ofInt 64 (a : Int) ^^^ BitVec.ofInt 64 (b : Int)).toNat : Int) = _
       rw [BitVec.toNat_xor, e a ha, e b hb]
       generalize a ^^^ b = n at *
       simp only [IntKind.wrap, IntKind.bits, IntKind.signed]
       simp; omega)
theorem wrap8 (n : Int) (h0 : 0 ≤ n) (h1 : n < 256) : IntKind.u8.wrap n = n := by
  simp only [IntKind.wrap, IntKind.bits, IntKind.signed]
  simp
  omega
/-- The byte in a cell. -/
def Gb (gb : Nat) (wx : World) (p : Nat) : Int := match wx.cell? ⟨gb, p, none⟩ with | some (.int .u8 x) => x | _ => 0
theorem Gb_of {gb p : Nat} {wx : World} {x : Int} (h : wx.cell? ⟨gb, p, none⟩ = some (.int .u8 x)) : Gb gb wx p = x := by unfold Gb; rw [h]
theorem Gb_all {w : World} {gb L : Nat} {F : Nat → Int} (h : ∀ p, p < L → w.cell? ⟨gb, p, none⟩ = some (.int .u8 (F p))) : ∀ p, p < L → w.cell? ⟨gb, p, none⟩ = some (.int .u8 (Gb gb w p)) := fun p hp => by rw [Gb_of (h p hp)]; exact h p hp
theorem Gb_set {w : World} {gb pp L : Nat} {F : Nat → Int} {v : Int} (h : ∀ p, p < L → w.cell? ⟨gb, p, none⟩ = some (.int .u8 (F p))) (hp : pp < L) : ∀ p, p < L → (w.setCell ⟨gb, pp, none⟩ (.int .u8 v)).cell? ⟨gb, p, none⟩ = some (.int .u8 (Gb gb (w.setCell ⟨gb, pp, none⟩ (.int .u8 v)) p)) :=
  Gb_all (F := fun p => if p = pp then v else F p) fun p hpl => by
    by_cases e : p = pp
    · subst e; rw [if_pos rfl]; exact World.cell?_setCell_same _ _ _ (h p hp)
    · rw [if_neg e, World.cell?_setCell_other _ _ _ _ (fun x => e (by have := congrArg Addr.off x; simpa using this.symm))]; exact h p hpl
/-- A byte changed by a number from 1 to 255 is another byte. -/
theorem u8_changed {x r : Int} (hx0 : 0 ≤ x) (hx1 : x ≤ 255) (hr0 : 1 ≤ r) (hr1 : r ≤ 255) : ∃ y : Int, bits BinOp.xor IntKind.u8 x r = y ∧ 0 ≤ y ∧ y ≤ 255 ∧ x ≠ y := by
  obtain ⟨a, rfl⟩ := Int.eq_ofNat_of_zero_le hx0
  obtain ⟨b, rfl⟩ := Int.eq_ofNat_of_zero_le (show 0 ≤ r by omega)
  have h := u8_xor a b (by omega) (by omega)
  have hl : a ^^^ b < 256 := Nat.xor_lt_two_pow (n := 8) (by omega) (by omega)
  refine ⟨_, h, by omega, by omega, fun e => ?_⟩
  have e2 : a = a ^^^ b := by omega
  have e3 : a ^^^ a = a ^^^ (a ^^^ b) := congrArg (fun z => a ^^^ z) e2
  rw [← Nat.xor_assoc, Nat.xor_self, Nat.zero_xor] at e3
  omega
theorem flat_ge (ds : List (List Int)) (h : GoodL ds) : 7 * ds.length ≤ (flat ds).length := by
  induction ds with
  | nil => simp
  | cons d t ih =>
    have h1 := (h d (by simp)).1.1
    have h2 := ih (fun x hx => h x (by simp [hx]))
    have e : flat (d :: t) = frameL d ++ flat t := by simp [flat]
    rw [e, List.length_append, frameL_len]
    simp only [List.length_cons]
    omega
theorem OwnB.rdv2 {B b : Nat} {w : World} {v : Value} {l : List Int} (h : OwnB B w v l) (hb : w.heap.size ≤ b) : ∃ a cap, v = .slice a l.length cap ∧ RdV w b (.slice a l.length cap) l := by
  rcases own_shape h.1 with ⟨rfl, h0⟩ | ⟨g, cap, rfl, hB, hlt, hn, hm⟩
  · obtain rfl := List.eq_nil_of_length_eq_zero h0
    exact ⟨none, 0, rfl, RdV.nil _ _⟩
  · exact ⟨_, _, rfl, _, _, rfl, hn, hm, .inr ⟨g, 0, rfl, by omega, fun i hi => by rw [Nat.zero_add]; exact h.cell i hi⟩, h.2⟩

theorem OwnB.changed {B : Nat} {w : World} {g cap n p : Nat} {l : List Int} {y : Int} (h : OwnB B w (.slice (some ⟨g, 0, none⟩) n cap) l) (hn : n = l.length) (hp : p < l.length) (h0 : 0 ≤ y) (h1 : y ≤ 255) : OwnB B (w.setCell ⟨g, p, none⟩ (.int .u8 y)) (.slice (some ⟨g, 0, none⟩) n cap) (l.set p y) := by
  subst hn
  refine ⟨?_, fun i => ?_⟩
  · have := (World.ownsRow.stored h.1 p (.int .u8 y)).1
    rw [List.length_set, List.map_set]; exact this
  · rw [List.getD_eq_getElem?_getD, List.getElem?_set]
    by_cases e : p = i
    · subst e
      simp [hp]; omega
    · simp only [e, if_false]
      rw [← List.getD_eq_getElem?_getD]; exact h.2 i

set_option maxRecDepth 100000 in
set_option maxHeartbeats 2400000 in
theorem walk (a0 : Option Addr) (len0 cap0 : Nat) (z0 : List Int) (a1 : Option Addr) (len1 cap1 : Nat) (z1 : List Int) (w : World) (w0 : IsRow .u8 w a0 len0 cap0 z0) (w1 : IsRow .u8 w a1 len1 cap1 z1) :
    Calls Try.prog 4 #[.slice a0 len0 cap0, .slice a1 len1 cap1] w fun e w' => e = .returned (.bool true) ∧ Below w.heap.size w w' := by
  have hA0 := bytes_of_row w0
  have hB0 := bytes_of_row w1
  have e0 : len0 = (z0.take len0).length := by obtain ⟨_, _, hv, _⟩ := id hA0; simp only [Value.slice.injEq] at hv; exact hv.2.1
  have e1 : len1 = (z1.take len1).length := by obtain ⟨_, _, hv, _⟩ := id hB0; simp only [Value.slice.injEq] at hv; exact hv.2.1
  have hl0 : len0 ≤ 9223372036854775807 := by rcases w0 with ⟨_, h, _⟩ | ⟨_, _, h, h2, _⟩ <;> (try unfold maxLen at h2) <;> omega
  have hl1 : len1 ≤ 9223372036854775807 := by rcases w1 with ⟨_, h, _⟩ | ⟨_, _, h, h2, _⟩ <;> (try unfold maxLen at h2) <;> omega
  have HA := hide hA0
  have HB := hide hB0
  clear w0 w1 hA0 hB0
  generalize z0.take len0 = l0 at *
  generalize z1.take len1 = l1 at *
  subst e0
  subst e1
  by_cases hA : 1048576 < l0.length
  · go_enter Try.func4, Try.ntmps4
    go_wp2_with fail
    go_ret
    exact ⟨rfl, Below.refl _ _⟩
  by_cases hB : 1048576 < l1.length
  · go_enter Try.func4, Try.ntmps4
    go_wp2_with fail
    go_ret
    exact ⟨rfl, Below.refl _ _⟩
  go_enter Try.func4, Try.ntmps4
  go_wp2_with fail
  have B0 := hide ((((Below.refl w.heap.size w).alloc (Nat.le_refl _) (.cells #[] 9)).alloc (by simp) (.cells #[] 5)).alloc (by simp; omega) (.cells #[.int .i64 0] 3))
  have L0 : Hid (OwnS w.heap.size (((w.alloc (.cells #[] 9)).alloc (.cells #[] 5)).alloc (.cells #[.int .i64 0] 3)) (.slice (some ⟨w.heap.size, 0, none⟩) 0 0) []) := hide (own_litE (((heap_old (by simp; omega)).trans (heap_old (by simp))).trans (heap_new rfl)) (Nat.le_refl _) rfl (by unfold maxLen; omega))
  have T0 : Hid (OwnB w.heap.size (((w.alloc (.cells #[] 9)).alloc (.cells #[] 5)).alloc (.cells #[.int .i64 0] 3)) (.slice (some ⟨w.heap.size + 1, 0, none⟩) 0 0) []) := hide ⟨own_litE ((heap_old (by simp)).trans (heap_new (by simp))) (by omega) rfl (by unfold maxLen; omega), fun i => by simp⟩
  have E0 : Hid (OwnI w.heap.size (((w.alloc (.cells #[] 9)).alloc (.cells #[] 5)).alloc (.cells #[.int .i64 0] 3)) (.slice (some ⟨w.heap.size + 1 + 1, 0, none⟩) 1 1) [0]) := hide (own_litE (heap_new (by simp)) (by omega) rfl (by unfold maxLen; omega))
  generalize ((w.alloc (.cells #[] 9)).alloc (.cells #[] 5)).alloc (.cells #[.int .i64 0] 3) = w0 at *
  obtain ⟨i5, hi5, hz50, hz51, hz52⟩ := info_parts info5
  obtain ⟨i9, hi9, hz90, hz91, hz92⟩ := info_parts info9
  obtain ⟨i3, hi3, hz30, hz31, hz32⟩ := info_parts info3
  go_loopw [5, 6, 7, 8] (fun lv bv ev iv wr => ∃ (n : Nat) (ds : List (List Int)), iv = .int .i64 n ∧ ds.length = n ∧ n ≤ 5 ∧ GoodL ds ∧ OwnS w.heap.size wr lv (ds.map strOfNums) ∧ OwnB w.heap.size wr bv (flat ds) ∧ OwnI w.heap.size wr ev (endsL ds) ∧ Below w.heap.size w wr) (fun _ _ _ iv _ => 6 - (intOf iv).toNat)
  case atStart => exact ⟨0, [], rfl, rfl, by omega, (fun d h => by cases h), unhide L0, unhide T0, unhide E0, unhide B0⟩
  case round =>
    obtain ⟨n, ds, rfl, hdl, hn5, hgd, hL, hT, hE, hb⟩ := hrel
    have HL := hide hL
    have HT := hide hT
    have HE := hide hE
    have HW := hide hb
    have HG := hide hgd
    clear hL hT hE hb hgd B0 L0 T0 E0
    go_wp2_with fail
    refine (at_all _ l1 0 5 _ ((unhide HB).below (unhide HW)) (by omega) (by omega) (by omega) (by omega)).mono ?_
    rintro e w2 ⟨r, rfl, hr0, hr1, d2, rfl⟩
    have HL2 := hide ((unhide HL).drewN d2)
    have HT2 := hide ((unhide HT).drewN d2)
    have HE2 := hide ((unhide HE).drewN d2)
    have HW2 := hide (below_drewN (unhide HW) d2)
    clear HL HT HE HW
    generalize wr.drewN d2 = w2 at *
    by_cases hlt : (n : Int) < 1 + r
    · have hsz2 := (unhide HW2).size
      have hby : IntKind.u8.wrap (n : Int) = (n : Int) := by simp [IntKind.wrap, IntKind.bits, IntKind.signed]; omega
      have HA2 := hide (((unhide HA).below (unhide HW2)).below ((Below.refl w2.heap.size w2).alloc (Nat.le_refl _) (.cells #[.int .u8 (n : Int)] 5)))
      go_wp2_with (at_builtin; refine wpList_append_bytes _ rfl _ _ _ rfl w2.heap.size 5 i5 Try.underlying22 hi5 hz50 hz51 hz52 _ 1 _ rfl (own_lit (heap_new rfl) (Nat.le_refl _) rfl (by unfold maxLen; omega)) _ l0 rfl (unhide HA2) (by omega) (by omega) (by simp) ?_; intro g3 cap3 w3 hown3 hgrow3 hlt3 hbg3)
      have K3 := hide (((Below.refl w2.heap.size w2).alloc (Nat.le_refl _) (.cells #[.int .u8 (n : Int)] 5)).grown hgrow3 (by simp) (fun k hk => by cases hk; exact Nat.le_refl _))
      have hlen3 : ((n : Int) :: l0).length = 1 + l0.length := by simp; omega
      have V3 : OwnB w2.heap.size w3 (.slice (some ⟨g3, 0, none⟩) (1 + l0.length) cap3) ((n : Int) :: l0) := ⟨by rw [hlen3]; exact hown3, by
        obtain ⟨_, _, _, _, _, hr⟩ := unhide HA
        intro i
        cases i with
        | zero => simp; omega
        | succ i => simpa using hr i⟩
      have hz3 := (unhide K3).size
      have HBO := hide (bytesOfO_any 20 (some ⟨g3, 0, none⟩) cap3 ((n : Int) :: l0) w3 (by rw [hlen3]; exact V3.bytes) (by simp; omega) (by omega))
      rw [hlen3] at HBO
      clear hown3 hgrow3 hlt3 hbg3 V3 HA2
      refine (unhide HBO).mono ?_
      rintro e w4 ⟨g4, c4, ns, rfl, hnl, hB4, hb4, hg4, hO4⟩
      have K4 := hide ((unhide K3).trans (hb4.mono (by omega)))
      have O4 := hide hO4
      have hz4 := hb4.size
      clear hB4 hb4 hO4 HBO K3
      go_wp2_with (at_builtin; refine wpList_append_lies _ rfl _ _ _ rfl w3.heap.size 5 i5 _ 1 1 Try.underlying22 hi5 hz50 hz51 hz52 rfl (by omega) _ ns.length _ rfl ((unhide O4).1.alloc _) ⟨w4.heap.size, 0, none⟩ 1 1 [_] rfl rfl (World.news_of_block (cs := #[_]) (t := 5) (fr := (0, 0)) (heap_alloc_new w4 _)) (by simp [Value.oneCell']) (by omega) (by unfold maxLen; omega) (by omega) (by simp; omega) _ rfl ?_; intro g5 cap5 w5 hown5 hgrow5 hat5 hlt5)
      have K5 := hide ((unhide K4).trans (((Below.refl w2.heap.size w4).alloc (by omega) (.cells #[.int .u8 (n : Int)] 5)).grown hgrow5 (by simp; omega) (fun k hk => by have := ((unhide O4).lt k hk).1; omega)))
      have V5 : OwnB w3.heap.size w5 (.slice (some ⟨g5, 0, none⟩) (ns.length + 1) cap5) (ns ++ [(n : Int)]) := ⟨by simpa using hown5, range_snoc (unhide O4).2 (by omega) (by omega)⟩
      have hdl5 : (ns ++ [(n : Int)]).length = ns.length + 1 := by simp
      have hgd5 : Good (ns ++ [(n : Int)]) := ⟨by omega, by omega, V5.2⟩
      have hfo : frOut (ns ++ [(n : Int)]) = (frameL (ns ++ [(n : Int)]), 0) := by unfold frOut; rw [if_neg (by omega), if_pos (by rw [inB_iff]; omega)]
      have HO5 := hide V5
      have HG5 := hide hgd5
      have hz5 := (unhide K5).size
      have hg5b := (own_shape V5.1)
      clear hown5 hgrow5 hat5 hlt5 V5 O4 K4 hg5b hgd5
      generalize hdd : ns ++ [(n : Int)] = d at *
      clear hdd
      rw [← hdl5] at HO5 ⊢
      have HDL := hide hdl5
      have hd21 : d.length ≤ 21 := by omega
      clear hdl5 hnl
      have HIF := hide (implFrameBytes_any (.slice (some ⟨g5, 0, none⟩) d.length cap5) d w5 (unhide HO5).bytes)
      rw [hfo] at HIF
      go_wp2_with fail
      refine (unhide HIF).mono ?_
      rintro e w6 ⟨vf, rfl, hOf, hb6⟩
      have K6 := hide ((unhide K5).trans (hb6.mono (by omega)))
      have OF6 := hide hOf
      have HO6 := hide ((unhide HO5).below hb6)
      have hz6 := hb6.size
      clear hOf hb6 HIF K5 HO5
      have HSF := hide (specFrameBytes_any (.slice (some ⟨g5, 0, none⟩) d.length cap5) d w6 (unhide HO6).bytes)
      rw [hfo] at HSF
      go_wp2_with fail
      refine (unhide HSF).mono ?_
      rintro e w7 ⟨vw, rfl, hOw, hb7⟩
      have K7 := hide ((unhide K6).trans (hb7.mono (by omega)))
      have OW7 := hide hOw
      have OF7 := hide ((unhide OF6).below hb7)
      have HO7 := hide ((unhide HO6).below hb7)
      have hz7 := hb7.size
      clear hOw hb7 HSF K6 OF6 HO6
      have cv1 := conv_own (P := Try.prog) 22 9 5 Try.underlying22 Try.underlying5 Try.underlying9 (unhide OF7).1
      have cv2 := conv_own (P := Try.prog) 22 9 5 Try.underlying22 Try.underlying5 Try.underlying9 (unhide OW7).1
      have cv3 := conv_own (P := Try.prog) 22 9 5 Try.underlying22 Try.underlying5 Try.underlying9 (unhide HO7).1
      generalize strOfNums (frameL d) = sf at *
      have L7 := hide ((unhide HL2).below (unhide K7))
      have T7 := hide ((unhide HT2).below (unhide K7))
      have E7 := hide ((unhide HE2).below (unhide K7))
      have W7 := hide ((unhide HW2).trans ((unhide K7).mono hsz2))
      have hw7 := (unhide W7).size
      have hfl := (unhide HG).len
      have hfll := frameL_len d
      clear HL2 HT2 HE2 HW2 K7
      go_wp2_with (first
        | (at_builtin; refine wpList_append_lies _ rfl _ _ _ rfl w.heap.size 3 i3 _ 1 8 Try.underlying39 hi3 hz30 hz31 hz32 rfl (by omega) u7 (endsL ds).length _ rfl ((unhide E9).alloc _) ⟨w9.heap.size, 0, none⟩ 1 1 [_] rfl rfl (World.news_of_block (cs := #[_]) (t := 3) (fr := (0, 0)) (heap_alloc_new w9 _)) (by simp [Value.oneCell']) (by omega) (by unfold maxLen; rw [endsL_len]; omega) (by rw [endsL_len]; omega) (by simp; omega) _ rfl ?_; intro g10 cap10 w10 hown10 hgrow10 hat10 hlt10)
        | (at_builtin; refine wpList_append_bytes _ rfl _ _ _ rfl w.heap.size 5 i5 Try.underlying22 hi5 hz50 hz51 hz52 u6 (flat ds).length _ rfl (unhide T8).1 vf (frameL d) rfl (unhide F8).bytes (by omega) (by omega) (by omega) ?_; intro g9 cap9 w9 hown9 hgrow9 hlt9 hbg9; have E9 := hide (own_far (unhide E8) hgrow9 (own_apart (unhide E8) (unhide T8).1 (by decide))); have L9 := hide (own_far (unhide L8) hgrow9 (own_apart (unhide L8) (unhide T8).1 (by decide))); have W9 := hide ((unhide W8).grown hgrow9 hw8 (fun k hk => ((unhide T8).1.lt k hk).1)); have R9 := hide hown9; have hw9 := (unhide W9).size; clear hown9 hgrow9 hlt9 hbg9)
        | (at_builtin; refine wpList_append_lies _ rfl _ _ _ rfl w.heap.size 9 i9 _ 1 16 Try.underlying38 hi9 hz90 hz91 hz92 rfl (by omega) u5 (ds.map strOfNums).length _ rfl ((unhide L7).alloc _) ⟨w7.heap.size, 0, none⟩ 1 1 [_] rfl rfl (World.news_of_block (cs := #[_]) (t := 9) (fr := (0, 0)) (heap_alloc_new w7 _)) (by simp [Value.oneCell']) (by omega) (by unfold maxLen; simp; omega) (by simp; omega) (by simp; omega) _ rfl ?_; intro g8 cap8 w8 hown8 hgrow8 hat8 hlt8; have T8 : Hid (OwnB w.heap.size w8 u6 (flat ds)) := hide ⟨own_far ((unhide T7).1.alloc _) hgrow8 (own_apart ((unhide T7).1) (unhide L7) (by decide)), (unhide T7).2⟩; have F8 : Hid (OwnB w5.heap.size w8 vf (frameL d)) := hide ⟨own_far ((unhide OF7).1.alloc _) hgrow8 (own_apart ((unhide OF7).1) (unhide L7) (by decide)), (unhide OF7).2⟩; have E8 := hide (own_far (World.ownsRow.alloc (unhide E7) (.cells #[.string (strOfNums d)] 9)) hgrow8 (own_apart (unhide E7) (unhide L7) (by decide))); have W8 := hide (((unhide W7).alloc hw7 (.cells #[.string (strOfNums d)] 9)).grown hgrow8 (by simp; omega) (fun k hk => ((unhide L7).lt k hk).1)); have L8 := hide hown8; have hw8 := (unhide W8).size; clear hown8 hgrow8 hat8 hlt8))
      have hLs : OwnS w.heap.size w10 (.slice (some ⟨g8, 0, none⟩) (n + 1) cap8) ((ds ++ [d]).map strOfNums) := by
        have h := own_far (World.ownsRow.alloc (unhide L9) _) hgrow10 (own_apart (unhide L9) (unhide E9) (by decide))
        rw [List.length_map, hdl] at h
        unfold OwnS
        rw [List.map_append, List.map_append, List.length_append, List.length_map, hdl]
        exact h
      have hTs : OwnB w.heap.size w10 (.slice (some ⟨g9, 0, none⟩) ((flat ds).length + (6 + d.length)) cap9) (flat (ds ++ [d])) := by
        have h := own_far (World.ownsRow.alloc (unhide R9) _) hgrow10 (own_apart (unhide R9) (unhide E9) (by decide))
        rw [hfll] at h
        refine ⟨?_, ?_⟩
        · rw [flat_snoc, List.map_append, List.length_append, hfll]; exact h
        · rw [flat_snoc]; exact range_append (unhide T8).2 (unhide F8).2
      have hEs : OwnI w.heap.size w10 (.slice (some ⟨g10, 0, none⟩) ((endsL ds).length + 1) cap10) (endsL (ds ++ [d])) := by
        unfold OwnI
        rw [endsL_snoc, List.map_append, List.length_append, hfll]
        have e : ((flat ds).length : Int) + ((6 + d.length : Nat) : Int) = ((flat ds).length : Int) + (6 + (d.length : Int)) := by omega
        rw [e]
        exact hown10
      have hWs := ((unhide W9).alloc hw9 (.cells #[.int .i64 (((flat ds).length : Int) + (6 + (d.length : Int)))] 3)).grown hgrow10 (by simp; omega) (fun k hk => ((unhide E9).lt k hk).1)
      refine ⟨⟨n + 1, ds ++ [d], by go_num, by simp [hdl], by omega, fun x hx => ?_, hLs, hTs, hEs, hWs⟩, ?_⟩
      · rcases List.mem_append.1 hx with h | h
        · exact unhide HG x h
        · rw [List.mem_singleton] at h; subst h; exact ⟨unhide HG5, hd21⟩
      · simp [intOf]; omega
    · have hn1 : 1 ≤ n := by omega
      have hfl := (unhide HG).len
      have hflp : n * 7 ≤ (flat ds).length := by
        have := flat_ge ds (unhide HG)
        omega
      obtain ⟨ab, capb, hub, hRd⟩ := OwnB.rdv2 (unhide HT2) (Nat.le_refl _)
      have HRd := hide hRd
      have hcapb : (flat ds).length ≤ capb ∧ capb ≤ maxLen := by obtain ⟨_, _, e, h1, h2, _⟩ := hRd; simp only [Value.slice.injEq] at e; omega
      subst hub
      have HRF := hide (implReadFrames_any ab capb (flat ds) w2 hRd)
      have hro : rfOut (flat ds) = (ds, (flat ds).length, 0) := by unfold rfOut; rw [if_neg (by omega)]; exact fr_all ds (fun x hx => (unhide HG x hx).1)
      rw [hro] at HRF
      clear hRd hro
      go_wp2_with fail
      refine (unhide HRF).mono ?_
      rintro e w3 ⟨va, rfl, hOa, hb3⟩
      have A3 := hide (World.ownsRow.mono hOa (unhide HW2).size)
      have L3 := hide ((unhide HL2).below hb3)
      have T3 := hide ((unhide HT2).below hb3)
      have E3 := hide ((unhide HE2).below hb3)
      have W3 := hide ((unhide HW2).trans (hb3.mono (unhide HW2).size))
      clear hOa hb3 HRF HL2 HT2 HE2 HW2
      have hST := hide (sameTexts_any va u5 (ds.map strOfNums) w3 (OwnS.strs (unhide A3)) (unhide L3).strs (by simp; omega))
      go_wp2_with fail
      refine (unhide hST).mono ?_
      rintro e w4 ⟨rfl, d4, rfl⟩
      have L4 := hide ((unhide L3).drewN d4)
      have T4 := hide ((unhide T3).drewN d4)
      have E4 := hide ((unhide E3).drewN d4)
      have W4 := hide (below_drewN (unhide W3) d4)
      clear L3 T3 E3 W3 A3 hST
      generalize w3.drewN d4 = w4 at *
      have HAT := hide (at_all _ l1 1 (flat ds).length w4 ((unhide HB).below (unhide W4)) (by omega) (by omega) (by omega) (by omega))
      go_wp2_with fail
      refine (unhide HAT).mono ?_
      rintro e w5 ⟨ci, rfl, hc0, hc1, d5, rfl⟩
      have L5 := hide ((unhide L4).drewN d5)
      have T5 := hide ((unhide T4).drewN d5)
      have E5 := hide ((unhide E4).drewN d5)
      have W5 := hide (below_drewN (unhide W4) d5)
      clear L4 T4 E4 W4 HAT
      generalize w4.drewN d5 = w5 at *
      obtain ⟨c, rfl⟩ : ∃ c : Nat, ci = (c : Int) := ⟨ci.toNat, by omega⟩
      have hcL : c < (flat ds).length := by omega
      obtain ⟨ab', capb', hub', hRd5⟩ := OwnB.rdv2 (unhide T5) (Nat.le_refl _)
      cases hub'
      have hlc : ((flat ds).take c).length = c := by rw [List.length_take]; omega
      have HRF5 := hide (implReadFrames_any ab capb ((flat ds).take c) w5 (RdV.cut hRd5 c (by omega)))
      rw [hlc] at HRF5
      obtain ⟨q, hq⟩ : ∃ q, q = rfOut ((flat ds).take c) := ⟨_, rfl⟩
      rw [← hq] at HRF5
      have HQ := hide hq
      clear hq hRd5 hlc
      obtain ⟨dsx, mx, ex⟩ := q
      have hc2 : (c : Int) ≤ (capb : Int) := by omega
      have hc3 : c ≤ capb := by omega
      go_wp2_with fail
      refine (unhide HRF5).mono ?_
      rintro e w6 ⟨vs, rfl, hOs, hb6⟩
      have S6 := hide (World.ownsRow.mono hOs (unhide W5).size)
      have L6 := hide ((unhide L5).below hb6)
      have T6 := hide ((unhide T5).below hb6)
      have E6 := hide ((unhide E5).below hb6)
      have W6 := hide ((unhide W5).trans (hb6.mono (unhide W5).size))
      clear hOs hb6 HRF5 L5 T5 E5 W5
      rcases own_shape (unhide E6) with ⟨_, h0⟩ | ⟨ge, cape, hu7, _, hgel, _, _⟩
      · rw [endsL_len] at h0; omega
      rcases own_shape (unhide L6) with ⟨_, h0⟩ | ⟨gl, capl, hu5, _, hgll, hcl1, hcl2⟩
      · rw [List.length_map] at h0; omega
      rw [endsL_len, hdl] at hu7
      rw [List.length_map, hdl] at hu5 hcl1
      subst hu7
      subst hu5
      have CE : Hid (∀ j, j ≤ n → w6.cell? ⟨ge, j, none⟩ = some (.int .i64 ((flat (ds.take j)).length : Int))) := hide (fun j hj => by
        have h1 := OwnI.ints (unhide E6)
        obtain ⟨a', cap', e, _, hc⟩ := h1
        simp only [Value.slice.injEq] at e
        rcases hc with h0 | ⟨b', off', ha, _, hc⟩
        · rw [endsL_len] at h0; omega
        · rw [ha] at e
          simp only [Option.some.injEq, Addr.mk.injEq, and_true] at e
          have := hc j (by rw [endsL_len]; omega)
          rw [← e.1.1, ← e.1.2, Nat.zero_add, endsL_get ds j (by omega)] at this
          exact this)
      go_wp2_with fail
      go_loop [21] (fun kv => ∃ k : Nat, kv = .int .i64 k ∧ k ≤ n ∧ (flat (ds.take k)).length ≤ c) (fun kv => n - (intOf kv).toNat)
      case atStart => exact ⟨0, rfl, by omega, by simp [flat]⟩
      case round =>
        obtain ⟨k, rfl, hkn, hkc⟩ := hrel
        have hkn2 : k < n := by
          by_cases h : k = n
          · rw [h, ← hdl, List.take_length] at hkc; omega
          · omega
        have ck := unhide CE k hkn
        have ck1 := unhide CE (k + 1) (by omega)
        have p0 : (0 : Int) ≤ (k : Int) + 1 := by omega
        have p1 : (k : Int) + 1 < (n : Int) + 1 := by omega
        by_cases hin : (flat (ds.take (k + 1))).length ≤ c
        · have hin2 : ((flat (ds.take (k + 1))).length : Int) ≤ (c : Int) := by omega
          have HI := hide hin
          obtain ⟨x1, hx1⟩ : ∃ x1, x1 = (flat (ds.take (k + 1))).length := ⟨_, rfl⟩
          rw [← hx1] at ck1 hin2
          clear hin hkc hx1
          go_wp2_with fail
          go_round
          case rel => exact ⟨k + 1, by go_num, by omega, unhide HI⟩
          case measure => simp [intOf]; omega
        · have hq := (unhide HQ).trans (cut_at (unhide HG) (by omega) k c (by omega) hkc (by omega))
          simp only [Prod.mk.injEq] at hq
          obtain ⟨rfl, rfl, hex⟩ := hq
          have hin2 : ¬ ((flat (ds.take (k + 1))).length : Int) ≤ (c : Int) := by omega
          have hST2 := hide (sameTexts_any vs (.slice (some ⟨gl, 0, none⟩) k capl) ((ds.take k).map strOfNums) w6 (OwnS.strs (unhide S6)) (OwnS.cut (unhide L6) k (by omega) (by unfold maxLen; omega)) (by simp; omega))
          have p2 : (k : Int) ≤ (capl : Int) := by omega
          have p3 : (0 : Int) ≤ (k : Int) := by omega
          obtain ⟨b0, hb01, hb02⟩ : ∃ b0 : Bool, (ex == 0) = b0 ∧ ((c : Int) == ((flat (ds.take k)).length : Int)) = b0 := by
            by_cases hz : c = (flat (ds.take k)).length
            · rw [if_pos hz] at hex
              exact ⟨true, by rw [hex]; rfl, by rw [beq_iff_eq]; omega⟩
            · rw [if_neg hz] at hex
              exact ⟨false, by rw [hex]; rfl, by rw [beq_eq_false_iff_ne]; omega⟩
          obtain ⟨x1, hx1⟩ : ∃ x1, x1 = (flat (ds.take (k + 1))).length := ⟨_, rfl⟩
          obtain ⟨x0, hx0⟩ : ∃ x0, x0 = (flat (ds.take k)).length := ⟨_, rfl⟩
          rw [← hx1] at ck1 hin2
          rw [← hx0] at ck hb02 ⊢
          clear hin hex hx1 hx0 hkc
          go_wp2_with fail
          refine (unhide hST2).mono ?_
          rintro e w7 ⟨rfl, d7, rfl⟩
          have ck7 : (w6.drewN d7).cell? ⟨ge, k, none⟩ = some (.int .i64 x0) := ck
          have L7 := hide ((unhide L6).drewN d7)
          have T7 := hide ((unhide T6).drewN d7)
          have E7 := hide ((unhide E6).drewN d7)
          have W7 := hide (below_drewN (unhide W6) d7)
          have CE7 : Hid (∀ j, j ≤ n → (w6.drewN d7).cell? ⟨ge, j, none⟩ = some (.int .i64 ((flat (ds.take j)).length : Int))) := hide (unhide CE)
          clear L6 T6 E6 W6 hST2 CE S6 ck ck1
          generalize w6.drewN d7 = w7 at *
          go_wp2_with fail
          refine (at_all _ l1 2 n w7 ((unhide HB).below (unhide W7)) (by omega) (by omega) (by omega) (by omega)).mono ?_
          rintro e w8 ⟨ji, rfl, hj0, hj1, d8, rfl⟩
          obtain ⟨j, rfl⟩ : ∃ j : Nat, ji = (j : Int) := ⟨ji.toNat, by omega⟩
          have hjn : j < n := by omega
          have L8 := hide ((unhide L7).drewN d8)
          have T8 := hide ((unhide T7).drewN d8)
          have E8 := hide ((unhide E7).drewN d8)
          have W8 := hide (below_drewN (unhide W7) d8)
          have cj : (w7.drewN d8).cell? ⟨ge, j, none⟩ = some (.int .i64 ((flat (ds.take j)).length : Int)) := unhide CE7 j (by omega)
          have cj1 : (w7.drewN d8).cell? ⟨ge, j + 1, none⟩ = some (.int .i64 ((flat (ds.take (j + 1))).length : Int)) := unhide CE7 (j + 1) (by omega)
          clear L7 T7 E7 W7 CE7 ck7
          generalize w7.drewN d8 = w8 at *
          have hsp := split_at ds j (by omega)
          have hgj := good_get (unhide HG) j (by omega)
          have hbad := hide (bad_at (unhide HG) (by omega) j)
          have hLj : (flat (ds.take j)).length + (6 + (ds.getD j []).length) ≤ (flat ds).length := by
            have h1 := congrArg List.length hsp.1
            rw [List.length_append, List.length_append, frameL_len] at h1
            omega
          have hx1j := hsp.2
          have hgl1 := hgj.1.1
          have hgl2 := hgj.2
          clear hsp hgj
          obtain ⟨yj, hyj⟩ : ∃ yj, yj = (flat (ds.take j)).length := ⟨_, rfl⟩
          obtain ⟨yj1, hyj1⟩ : ∃ yj1, yj1 = (flat (ds.take (j + 1))).length := ⟨_, rfl⟩
          obtain ⟨dj, hdj⟩ : ∃ dj, dj = (ds.getD j []).length := ⟨_, rfl⟩
          rw [← hyj] at cj hbad hLj hx1j
          rw [← hyj1] at cj1 hx1j
          rw [← hdj] at hbad hLj hx1j hgl1 hgl2
          have HY := hide (And.intro hyj (And.intro hyj1 hdj))
          clear hyj hyj1 hdj
          rcases own_shape (unhide T8).1 with ⟨_, h0⟩ | ⟨gb, capb2, hub, hgb0, hgb1, _, _⟩
          · omega
          cases hub
          obtain ⟨z2, hz2⟩ : ∃ z2 : Nat, (yj : Int) + 2 = (z2 : Int) := ⟨yj + 2, by omega⟩
          obtain ⟨s6, hs6⟩ : ∃ s6 : Nat, (yj1 : Int) - (yj : Int) = (s6 : Int) := ⟨6 + dj, by omega⟩
          obtain ⟨s4, hs4⟩ : ∃ s4 : Nat, (s6 : Int) - 2 = (s4 : Int) := ⟨4 + dj, by omega⟩
          have n1 : IntKind.i64.wrap (z2 : Int) = (z2 : Int) := wrapI _ (by omega) (by omega)
          have n2 : IntKind.i64.wrap (s6 : Int) = (s6 : Int) := wrapI _ (by omega) (by omega)
          have n3 : IntKind.i64.wrap (s4 : Int) = (s4 : Int) := wrapI _ (by omega) (by omega)
          have HAR := hide (And.intro hx1j (And.intro hz2 (And.intro hs6 hs4)))
          have hs4p : 5 ≤ s4 := by omega
          have hs4q : s4 ≤ 25 := by omega
          have hz2q : z2 + s4 ≤ (flat ds).length := by omega
          have hLs : (flat ds).length ≤ 135 := by omega
          have n4 : (0 : Int) ≤ (j : Int) + 1 := by omega
          have n5 : (j : Int) + 1 < (n : Int) + 1 := by omega
          have n6 : (j : Int) < (n : Int) + 1 := by omega
          have n7 : IntKind.i64.wrap ((j : Int) + 1) = (j : Int) + 1 := wrapI _ (by omega) (by omega)
          have CB := hide (fun (p : Nat) (hp : p < (flat ds).length) => And.intro ((unhide T8).cell p hp) ((unhide T8).1.frozenAt p))
          have RB := hide (unhide T8).2
          have FB := hide (fun (p : Nat) => (unhide T8).1.frozenAt p)
          have B8 := hide ((unhide HB).below (unhide W8))
          have B8d := hide ((unhide B8).below ((Below.refl w8.heap.size w8).drew))
          go_wp2_with fail
          clear hx1j hb01 hb02 hin2 hkn hkn2 p0 p1 p2 p3 hlt hc2 hc3 hc0 hc1 hcL hA hB hl0 hl1 hfl hflp
          have CB1 := hide (fun (p : Nat) (hp : p < (flat ds).length) => (unhide CB p hp).1)
          have hge : gb ≠ ge := fun e => own_apart (unhide T8).1 (unhide E8) (by decide) gb rfl (by rw [e]; rfl)
          have hne0 : (⟨gb, 0, none⟩ : Addr).block ≠ ge := hge
          have HN1 := hide (fun (p q : Nat) => (show (⟨gb, p, none⟩ : Addr) ≠ ⟨ge, q, none⟩ from fun e => hge (by have := congrArg Addr.block e; simpa using this)))
          clear hne0
          refine wp_region_noPanic ?_
          refine wp_region_held_drew (S := (fun wx => wx.cell? ⟨ge, j, none⟩ = some (.int .i64 (yj : Int)) ∧ wx.cell? ⟨ge, j + 1, none⟩ = some (.int .i64 (yj1 : Int)) ∧ (∀ p, p < (flat ds).length → wx.cell? ⟨gb, p, none⟩ = some (.int .u8 (Gb gb wx p))) ∧ ∀ p, wx.frozen? ⟨gb, p, none⟩ = false)) (by kernel_rfl) ?_ (fun hHeld => ?_)
          · exact ⟨cj, cj1, Gb_all (F := fun p => (flat ds).getD p 0) (fun p hp => unhide CB1 p hp), fun p => unhide FB p⟩
          refine wpAnyH_take (i := 0) (oi := _) (v := ?_) rfl (by kernel_rfl) (by kernel_rfl) (by kernel_rfl) (fun _ _ _ h => h) (Or.inl ⟨by rfl, ?_⟩) (by assumption) ?_
          rotate_left 1
          · (intro wq hSw; (try dsimp only at hSw); (try simp only [List.getElem_toArray, List.getElem_cons_succ, List.getElem_cons_zero]); go_simp; try with_reducible rfl)
          (try simp only [Act.put, List.getElem_toArray, List.getElem_cons_succ, List.getElem_cons_zero, List.setIfInBounds_toArray, List.set_cons_zero, List.set_cons_succ])
          refine wpAnyH_take (i := 1) (oi := _) (v := ?_) rfl (by kernel_rfl) (by kernel_rfl) (by kernel_rfl) (fun _ _ _ h => h) (Or.inl ⟨by rfl, ?_⟩) (by assumption) ?_
          rotate_left 1
          · (intro wq hSw; (try dsimp only at hSw); (try simp only [List.getElem_toArray, List.getElem_cons_succ, List.getElem_cons_zero]); go_simp; try with_reducible rfl)
          (try simp only [Act.put, List.getElem_toArray, List.getElem_cons_succ, List.getElem_cons_zero, List.setIfInBounds_toArray, List.set_cons_zero, List.set_cons_succ])
          refine wpAnyH_take (i := 2) (oi := _) (v := ?_) rfl (by kernel_rfl) (by kernel_rfl) (by kernel_rfl) (fun _ _ _ h => h) (Or.inl ⟨by rfl, ?_⟩) (by assumption) ?_
          rotate_left 1
          · (intro wq hSw; (try dsimp only at hSw); (try simp only [List.getElem_toArray, List.getElem_cons_succ, List.getElem_cons_zero]); go_simp; try with_reducible rfl)
          (try simp only [Act.put, List.getElem_toArray, List.getElem_cons_succ, List.getElem_cons_zero, List.setIfInBounds_toArray, List.set_cons_zero, List.set_cons_succ])
          refine wpAnyH_take (i := 3) (oi := _) (v := ?_) rfl (by kernel_rfl) (by kernel_rfl) (by kernel_rfl) (fun _ _ _ h => h) (Or.inl ⟨by rfl, ?_⟩) (by assumption) ?_
          rotate_left 1
          · (intro wq hSw; (try dsimp only at hSw); (try simp only [List.getElem_toArray, List.getElem_cons_succ, List.getElem_cons_zero]); go_simp; try with_reducible rfl)
          (try simp only [Act.put, List.getElem_toArray, List.getElem_cons_succ, List.getElem_cons_zero, List.setIfInBounds_toArray, List.set_cons_zero, List.set_cons_succ])
          refine wpAnyH_take (i := 4) (oi := _) (v := ?_) rfl (by kernel_rfl) (by kernel_rfl) (by kernel_rfl) (fun _ _ _ h => h) (Or.inl ⟨by rfl, ?_⟩) (by assumption) ?_
          rotate_left 1
          · (intro wq hSw; (try dsimp only at hSw); (try simp only [List.getElem_toArray, List.getElem_cons_succ, List.getElem_cons_zero]); go_simp; try with_reducible rfl)
          (try simp only [Act.put, List.getElem_toArray, List.getElem_cons_succ, List.getElem_cons_zero, List.setIfInBounds_toArray, List.set_cons_zero, List.set_cons_succ])
          refine wpAnyH_take (i := 5) (oi := _) (v := ?_) rfl (by kernel_rfl) (by kernel_rfl) (by kernel_rfl) (fun _ _ _ h => h) (Or.inl ⟨by rfl, ?_⟩) (by assumption) ?_
          rotate_left 1
          · (intro wq hSw; (try dsimp only at hSw); (try simp only [List.getElem_toArray, List.getElem_cons_succ, List.getElem_cons_zero]); go_simp; try with_reducible rfl)
          (try simp only [Act.put, List.getElem_toArray, List.getElem_cons_succ, List.getElem_cons_zero, List.setIfInBounds_toArray, List.set_cons_zero, List.set_cons_succ])
          refine wpAnyH_take (i := 6) (oi := _) (v := ?_) rfl (by kernel_rfl) (by kernel_rfl) (by kernel_rfl) (fun _ _ _ h => h) (Or.inl ⟨by rfl, ?_⟩) (by assumption) ?_
          rotate_left 1
          · (intro wq hSw; (try dsimp only at hSw); (try simp only [List.getElem_toArray, List.getElem_cons_succ, List.getElem_cons_zero]); go_simp; try with_reducible rfl)
          (try simp only [Act.put, List.getElem_toArray, List.getElem_cons_succ, List.getElem_cons_zero, List.setIfInBounds_toArray, List.set_cons_zero, List.set_cons_succ])
          refine wpAnyH_take (i := 7) (oi := _) (v := ?_) rfl (by kernel_rfl) (by kernel_rfl) (by kernel_rfl) (fun _ _ _ h => h) (Or.inl ⟨by rfl, ?_⟩) (by assumption) ?_
          rotate_left 1
          · (intro wq hSw; (try dsimp only at hSw); (try simp only [List.getElem_toArray, List.getElem_cons_succ, List.getElem_cons_zero]); go_simp; try with_reducible rfl)
          (try simp only [Act.put, List.getElem_toArray, List.getElem_cons_succ, List.getElem_cons_zero, List.setIfInBounds_toArray, List.set_cons_zero, List.set_cons_succ])
          refine wpAnyH_take (i := 8) (oi := _) (v := ?_) rfl (by kernel_rfl) (by kernel_rfl) (by kernel_rfl) (fun _ _ _ h => h) (Or.inl ⟨by rfl, ?_⟩) (by assumption) ?_
          rotate_left 1
          · (intro wq hSw; (try dsimp only at hSw); (try simp only [List.getElem_toArray, List.getElem_cons_succ, List.getElem_cons_zero]); go_simp; try with_reducible rfl)
          (try simp only [Act.put, List.getElem_toArray, List.getElem_cons_succ, List.getElem_cons_zero, List.setIfInBounds_toArray, List.set_cons_zero, List.set_cons_succ])
          refine wpAnyH_take (i := 9) (oi := _) (v := ?_) rfl (by kernel_rfl) (by kernel_rfl) (by kernel_rfl) (fun _ _ _ h => h) (Or.inl ⟨by rfl, ?_⟩) (by assumption) ?_
          rotate_left 1
          · (intro wq hSw; (try dsimp only at hSw); (try simp only [List.getElem_toArray, List.getElem_cons_succ, List.getElem_cons_zero]); go_simp; try with_reducible rfl)
          (try simp only [Act.put, List.getElem_toArray, List.getElem_cons_succ, List.getElem_cons_zero, List.setIfInBounds_toArray, List.set_cons_zero, List.set_cons_succ])
          refine wpAnyH_take (i := 10) (oi := _) (v := ?_) rfl (by kernel_rfl) (by kernel_rfl) (by kernel_rfl) (fun _ _ _ h => h) (Or.inl ⟨by rfl, ?_⟩) (by assumption) ?_
          rotate_left 1
          · (intro wq hSw; (try dsimp only at hSw); (try simp only [List.getElem_toArray, List.getElem_cons_succ, List.getElem_cons_zero]); go_simp; try with_reducible rfl)
          (try simp only [Act.put, List.getElem_toArray, List.getElem_cons_succ, List.getElem_cons_zero, List.setIfInBounds_toArray, List.set_cons_zero, List.set_cons_succ])
          refine wpAnyH_take (i := 11) (oi := _) (v := ?_) rfl (by kernel_rfl) (by kernel_rfl) (by kernel_rfl) (fun _ _ _ h => h) (Or.inl ⟨by rfl, ?_⟩) (by assumption) ?_
          rotate_left 1
          · (intro wq hSw; (try dsimp only at hSw); (try simp only [List.getElem_toArray, List.getElem_cons_succ, List.getElem_cons_zero]); go_simp; try with_reducible rfl)
          (try simp only [Act.put, List.getElem_toArray, List.getElem_cons_succ, List.getElem_cons_zero, List.setIfInBounds_toArray, List.set_cons_zero, List.set_cons_succ])
          refine wpAnyH_take (i := 12) (oi := _) (v := ?_) rfl (by kernel_rfl) (by kernel_rfl) (by kernel_rfl) (fun _ _ _ h => h) (Or.inl ⟨by rfl, ?_⟩) (by assumption) ?_
          rotate_left 1
          · (intro wq hSw; (try dsimp only at hSw); (try simp only [List.getElem_toArray, List.getElem_cons_succ, List.getElem_cons_zero]); go_simp; try with_reducible rfl)
          (try simp only [Act.put, List.getElem_toArray, List.getElem_cons_succ, List.getElem_cons_zero, List.setIfInBounds_toArray, List.set_cons_zero, List.set_cons_succ])
          refine wpAnyH_take (i := 13) (oi := _) (v := ?_) rfl (by kernel_rfl) (by kernel_rfl) (by kernel_rfl) (fun _ _ _ h => h) (Or.inl ⟨by rfl, ?_⟩) (by assumption) ?_
          rotate_left 1
          · (intro wq hSw; (try dsimp only at hSw); (try simp only [List.getElem_toArray, List.getElem_cons_succ, List.getElem_cons_zero]); go_simp; try with_reducible rfl)
          (try simp only [Act.put, List.getElem_toArray, List.getElem_cons_succ, List.getElem_cons_zero, List.setIfInBounds_toArray, List.set_cons_zero, List.set_cons_succ])
          refine wpAnyH_take (i := 14) (oi := _) (v := ?_) rfl (by kernel_rfl) (by kernel_rfl) (by kernel_rfl) (fun _ _ _ h => h) (Or.inl ⟨by rfl, ?_⟩) (by assumption) ?_
          rotate_left 1
          · (intro wq hSw; (try dsimp only at hSw); (try simp only [List.getElem_toArray, List.getElem_cons_succ, List.getElem_cons_zero]); go_simp; try with_reducible rfl)
          (try simp only [Act.put, List.getElem_toArray, List.getElem_cons_succ, List.getElem_cons_zero, List.setIfInBounds_toArray, List.set_cons_zero, List.set_cons_succ])
          refine wpAnyH_take (i := 15) (oi := _) (v := ?_) rfl (by kernel_rfl) (by kernel_rfl) (by kernel_rfl) (fun _ _ _ h => h) (Or.inl ⟨by rfl, ?_⟩) (by assumption) ?_
          rotate_left 1
          · (intro wq hSw; (try dsimp only at hSw); (try simp only [List.getElem_toArray, List.getElem_cons_succ, List.getElem_cons_zero]); go_simp; try with_reducible rfl)
          (try simp only [Act.put, List.getElem_toArray, List.getElem_cons_succ, List.getElem_cons_zero, List.setIfInBounds_toArray, List.set_cons_zero, List.set_cons_succ])
          refine wpAnyH_take (i := 16) (oi := _) (v := ?_) rfl (by kernel_rfl) (by kernel_rfl) (by kernel_rfl) (fun _ _ _ h => h) (Or.inl ⟨by rfl, ?_⟩) (by assumption) ?_
          rotate_left 1
          · (intro wq hSw; (try dsimp only at hSw); (try simp only [List.getElem_toArray, List.getElem_cons_succ, List.getElem_cons_zero]); go_simp; try with_reducible rfl)
          (try simp only [Act.put, List.getElem_toArray, List.getElem_cons_succ, List.getElem_cons_zero, List.setIfInBounds_toArray, List.set_cons_zero, List.set_cons_succ])
          refine wpAnyH_take (i := 17) (oi := _) (v := ?_) rfl (by kernel_rfl) (by kernel_rfl) (by kernel_rfl) (fun _ _ _ h => h) (Or.inl ⟨by rfl, ?_⟩) (by assumption) ?_
          rotate_left 1
          · (intro wq hSw; (try dsimp only at hSw); (try simp only [List.getElem_toArray, List.getElem_cons_succ, List.getElem_cons_zero]); go_simp; try with_reducible rfl)
          (try simp only [Act.put, List.getElem_toArray, List.getElem_cons_succ, List.getElem_cons_zero, List.setIfInBounds_toArray, List.set_cons_zero, List.set_cons_succ])
          refine wpAnyH_take (i := 22) (oi := _) (v := ?_) rfl (by kernel_rfl) (by kernel_rfl) (by kernel_rfl) (fun _ _ _ h => h) (Or.inl ⟨by rfl, ?_⟩) (by assumption) ?_
          rotate_left 1
          · (intro wq hSw; (try dsimp only at hSw); (try simp only [List.getElem_toArray, List.getElem_cons_succ, List.getElem_cons_zero]); go_simp; try with_reducible rfl)
          (try simp only [Act.put, List.getElem_toArray, List.getElem_cons_succ, List.getElem_cons_zero, List.setIfInBounds_toArray, List.set_cons_zero, List.set_cons_succ])
          refine wpAnyH_ready (rs := [18]) (by kernel_rfl) (by simp) ?_
          refine AllReadyH.cons (o := _) rfl (fun K hK => ?_) AllReadyH.nil
          go_simp
          refine (at_all _ l1 4 s4 _ (unhide B8d) (by omega) (by omega) (by omega) (by omega)).mono ?_
          rintro e w9 ⟨r4, rfl, h40, h41, d4b, rfl⟩
          obtain ⟨q4, rfl⟩ : ∃ q4 : Nat, r4 = (q4 : Int) := ⟨r4.toNat, by omega⟩
          obtain ⟨pp, hpp⟩ : ∃ pp : Nat, (z2 : Int) + (q4 : Int) = (pp : Int) := ⟨z2 + q4, by omega⟩
          have n8 : IntKind.i64.wrap (pp : Int) = (pp : Int) := wrapI _ (by omega) (by omega)
          have n9 : (pp : Int) < ((flat ds).length : Int) := by omega
          have n9b : pp < (flat ds).length := by omega
          have hxx0 := (unhide RB pp).1
          have hxx1 := (unhide RB pp).2
          go_wp2_with fail
          refine hK.out _ _ ?_ (fun hHeld => ?_)
          · exact ⟨cj, cj1, Gb_all (F := fun p => (flat ds).getD p 0) (fun p hp => unhide CB1 p hp), fun p => unhide FB p⟩
          clear hK K
          (try simp only [Act.put, List.getElem_toArray, List.getElem_cons_succ, List.getElem_cons_zero, List.setIfInBounds_toArray, List.set_cons_zero, List.set_cons_succ])
          refine wpAnyH_take (i := 19) (oi := _) (v := ?_) rfl (by kernel_rfl) (by kernel_rfl) (by kernel_rfl) (fun _ _ _ h => h) (Or.inl ⟨by rfl, ?_⟩) (by assumption) ?_
          rotate_left 1
          · (intro wq hSw; (try dsimp only at hSw); (try simp only [List.getElem_toArray, List.getElem_cons_succ, List.getElem_cons_zero]); go_simp; try with_reducible rfl)
          (try simp only [Act.put, List.getElem_toArray, List.getElem_cons_succ, List.getElem_cons_zero, List.setIfInBounds_toArray, List.set_cons_zero, List.set_cons_succ])
          refine wpAnyH_take (i := 20) (oi := _) (v := ?_) rfl (by kernel_rfl) (by kernel_rfl) (by kernel_rfl) (fun _ _ _ h => h) (Or.inl ⟨by rfl, ?_⟩) (by assumption) ?_
          rotate_left 1
          · (intro wq hSw; (try dsimp only at hSw); (try simp only [List.getElem_toArray, List.getElem_cons_succ, List.getElem_cons_zero]); go_simp; try with_reducible rfl)
          (try simp only [Act.put, List.getElem_toArray, List.getElem_cons_succ, List.getElem_cons_zero, List.setIfInBounds_toArray, List.set_cons_zero, List.set_cons_succ])
          --TAIL
          have CP := unhide CB1 pp n9b
          refine wpAnyH_ready (rs := [21, 23]) (by kernel_rfl) (by simp) ?_
          refine AllReadyH.cons (o := _) rfl (fun K hK => ?_) (AllReadyH.cons (o := _) rfl (fun K hK => ?_) AllReadyH.nil)
          · go_simp
            refine hK.out _ _ ?_ (fun hHeld => ?_)
            · exact ⟨cj, cj1, Gb_all (F := fun p => (flat ds).getD p 0) (fun p hp => unhide CB1 p hp), fun p => unhide FB p⟩
            clear hK K
            (try simp only [Act.put, List.getElem_toArray, List.getElem_cons_succ, List.getElem_cons_zero, List.setIfInBounds_toArray, List.set_cons_zero, List.set_cons_succ])
            refine wpAnyH_ready (rs := [23]) (by kernel_rfl) (by simp) ?_
            refine AllReadyH.cons (o := _) rfl (fun K hK => ?_) AllReadyH.nil
            go_simp
            refine (at_all _ l1 3 255 (w8.drewN (1 + d4b)) ((unhide B8).below (below_drewN (Below.refl w8.heap.size w8) (1 + d4b))) (by omega) (by omega) (by omega) (by omega)).mono ?_
            rintro e w10 ⟨r3, rfl, h30, h31, d3b, rfl⟩
            obtain ⟨q3, rfl⟩ : ∃ q3 : Nat, r3 = (q3 : Int) := ⟨r3.toNat, by omega⟩
            obtain ⟨q3p, hq3⟩ : ∃ q3p : Nat, (1 : Int) + (q3 : Int) = (q3p : Int) := ⟨1 + q3, by omega⟩
            have m1 : IntKind.i64.wrap (q3p : Int) = (q3p : Int) := wrapI _ (by omega) (by omega)
            have m2 : IntKind.u8.wrap (q3p : Int) = (q3p : Int) := wrap8 _ (by omega) (by omega)
            go_wp2_with fail
            refine hK.out _ _ ?_ (fun hHeld => ?_)
            · exact ⟨cj, cj1, Gb_all (F := fun p => (flat ds).getD p 0) (fun p hp => unhide CB1 p hp), fun p => unhide FB p⟩
            clear hK K
            (try simp only [Act.put, List.getElem_toArray, List.getElem_cons_succ, List.getElem_cons_zero, List.setIfInBounds_toArray, List.set_cons_zero, List.set_cons_succ])
            refine wpAnyH_take (i := 24) (oi := _) (v := ?_) rfl (by kernel_rfl) (by kernel_rfl) (by kernel_rfl) (fun _ _ _ h => h) (Or.inl ⟨by rfl, ?_⟩) (by assumption) ?_
            rotate_left 1
            · (intro wq hSw; (try dsimp only at hSw); (try simp only [List.getElem_toArray, List.getElem_cons_succ, List.getElem_cons_zero]); go_simp; try with_reducible rfl)
            (try simp only [Act.put, List.getElem_toArray, List.getElem_cons_succ, List.getElem_cons_zero, List.setIfInBounds_toArray, List.set_cons_zero, List.set_cons_succ])
            refine wpAnyH_take (i := 25) (oi := _) (v := ?_) rfl (by kernel_rfl) (by kernel_rfl) (by kernel_rfl) (fun _ _ _ h => h) (Or.inl ⟨by rfl, ?_⟩) (by assumption) ?_
            rotate_left 1
            · (intro wq hSw; (try dsimp only at hSw); (try simp only [List.getElem_toArray, List.getElem_cons_succ, List.getElem_cons_zero]); go_simp; try with_reducible rfl)
            (try simp only [Act.put, List.getElem_toArray, List.getElem_cons_succ, List.getElem_cons_zero, List.setIfInBounds_toArray, List.set_cons_zero, List.set_cons_succ])
            refine wpAnyH_take (i := 26) (oi := _) (v := ?_) rfl (by kernel_rfl) (by kernel_rfl) (by kernel_rfl) (fun _ _ _ h => h) (Or.inl ⟨by rfl, ?_⟩) (by assumption) ?_
            rotate_left 1
            · (intro wq hSw; (try dsimp only at hSw); (try simp only [List.getElem_toArray, List.getElem_cons_succ, List.getElem_cons_zero]); go_simp; try with_reducible rfl)
            (try simp only [Act.put, List.getElem_toArray, List.getElem_cons_succ, List.getElem_cons_zero, List.setIfInBounds_toArray, List.set_cons_zero, List.set_cons_succ])
            refine wpAnyH_take (i := 27) (oi := _) (v := ?_) rfl (by kernel_rfl) (by kernel_rfl) (by kernel_rfl) (fun _ _ _ h => h) (Or.inl ⟨by rfl, ?_⟩) (by assumption) ?_
            rotate_left 1
            · (intro wq hSw; (try dsimp only at hSw); (try simp only [List.getElem_toArray, List.getElem_cons_succ, List.getElem_cons_zero]); go_simp; try with_reducible rfl)
            (try simp only [Act.put, List.getElem_toArray, List.getElem_cons_succ, List.getElem_cons_zero, List.setIfInBounds_toArray, List.set_cons_zero, List.set_cons_succ])
            refine wpAnyH_ready (rs := [28]) (by kernel_rfl) (by simp) ?_
            refine AllReadyH.cons (o := _) rfl (fun K hK => ?_) AllReadyH.nil
            go_simp
            refine hK.out _ _ ?_ (fun hHeld => ?_)
            · exact ⟨(World.cell?_setCell_other _ _ _ _ (unhide HN1 _ _)).trans cj, (World.cell?_setCell_other _ _ _ _ (unhide HN1 _ _)).trans cj1, Gb_set (F := fun p => (flat ds).getD p 0) (fun p hp => unhide CB1 p hp) n9b, fun p => (World.frozen?_setCell _ _ _ _).trans (unhide FB p)⟩
            clear hK K
            (try simp only [Act.put, List.getElem_toArray, List.getElem_cons_succ, List.getElem_cons_zero, List.setIfInBounds_toArray, List.set_cons_zero, List.set_cons_succ])
            refine wpAnyH_done (by kernel_rfl) (NoPanic.normal ?_) _
            have hG : Gb gb (w8.drewN (1 + d4b)) pp = (flat ds).getD pp 0 := Gb_of CP
            rw [hG]
            clear hG
            obtain ⟨y, hy, hy0, hy1, hyn⟩ := u8_changed hxx0 hxx1 (r := (q3p : Int)) (by omega) (by omega)
            rw [hy]
            clear hy
            have T9 := hide (OwnB.changed ((unhide T8).drewN (1 + d4b + d3b)) rfl n9b hy0 hy1)
            have L9 : Hid (OwnS w.heap.size ((w8.drewN (1 + d4b + d3b)).setCell ⟨gb, pp, none⟩ (.int .u8 y)) (.slice (some ⟨gl, 0, none⟩) n capl) (ds.map strOfNums)) := hide (own_kept (T := fun k => k = gb) ((unhide L8).drewN (1 + d4b + d3b)) ((Touch.refl _ _).setCell ⟨gb, pp, none⟩ (.int .u8 y) (fun _ => rfl)) (fun k hk e => own_apart (unhide T8).1 (unhide L8) (by decide) gb rfl (by rw [← e]; exact hk)))
            have cj9 : ((w8.drewN (1 + d4b + d3b)).setCell ⟨gb, pp, none⟩ (.int .u8 y)).cell? ⟨ge, j, none⟩ = some (.int .i64 (yj : Int)) := (World.cell?_setCell_other _ _ _ _ (unhide HN1 _ _)).trans cj
            have W9 := hide (Below.setCell (below_drewN (unhide W8) (1 + d4b + d3b)) (p := ⟨gb, pp, none⟩) hgb0 (.int .u8 y))
            have hge9 : ge < ((w8.drewN (1 + d4b + d3b)).setCell ⟨gb, pp, none⟩ (.int .u8 y)).heap.size := by
              have h := (World.ownsRow.lt (unhide E8) ge rfl).2
              simpa using h
            clear cj cj1 CP HN1 CB CB1 RB FB B8 B8d T8 L8 E8 W8 hHeld
            generalize (w8.drewN (1 + d4b + d3b)).setCell ⟨gb, pp, none⟩ (.int .u8 y) = w9 at *
            have hl9 : ((flat ds).set pp y).length = (flat ds).length := List.length_set ..
            obtain ⟨ab9, capb9, hub9, hRd9⟩ := OwnB.rdv2 (unhide T9) (Nat.le_refl _)
            rw [hl9] at hub9
            cases hub9
            have hpq : pp = yj + (2 + q4) := by
              have h := unhide HAR
              omega
            have hrf := unhide hbad (2 + q4) y (by omega) (by omega) (by have h := unhide HAR; omega) hy0 hy1 (by rw [← hpq]; exact hyn)
            rw [← hpq] at hrf
            have HRF9 := hide (implReadFrames_any _ _ ((flat ds).set pp y) w9 hRd9)
            rw [hrf, hl9] at HRF9
            dsimp only at HRF9
            clear hrf hRd9 hl9 hbad
            have HPQ := hide hpq
            clear hpq hyn
            go_wp2_with fail
            refine (unhide HRF9).mono ?_
            rintro e w11 ⟨vx, rfl, hOx, hb11⟩
            have cj11 : w11.cell? ⟨ge, j, none⟩ = some (.int .i64 (yj : Int)) := (World.cell?_of_block (w := w9) (hb11.block ge hge9)).trans cj9
            have L11 := hide ((unhide L9).below hb11)
            have W11 := hide ((unhide W9).trans (hb11.mono (unhide W9).size))
            have p2 : (j : Int) ≤ (capl : Int) := by omega
            have p3 : (0 : Int) ≤ (j : Int) := by omega
            have hST3 := hide (sameTexts_any vx (.slice (some ⟨gl, 0, none⟩) j capl) ((ds.take j).map strOfNums) w11 (OwnS.strs hOx) (OwnS.cut (unhide L11) j (by omega) (by unfold maxLen; omega)) (by simp; omega))
            clear hOx hb11 cj9 hge9 L9 W9 T9 HRF9
            go_wp2_with fail
            refine (unhide hST3).mono ?_
            rintro e w12 ⟨rfl, d12, rfl⟩
            have W12 := hide (below_drewN (unhide W11) d12)
            clear hST3 L11 W11
            go_wp2_with fail
            go_ret
            exact ⟨rfl, unhide W12⟩
          · go_simp
            refine (at_all _ l1 3 255 (w8.drewN (1 + d4b)) ((unhide B8).below (below_drewN (Below.refl w8.heap.size w8) (1 + d4b))) (by omega) (by omega) (by omega) (by omega)).mono ?_
            rintro e w10 ⟨r3, rfl, h30, h31, d3b, rfl⟩
            obtain ⟨q3, rfl⟩ : ∃ q3 : Nat, r3 = (q3 : Int) := ⟨r3.toNat, by omega⟩
            obtain ⟨q3p, hq3⟩ : ∃ q3p : Nat, (1 : Int) + (q3 : Int) = (q3p : Int) := ⟨1 + q3, by omega⟩
            have m1 : IntKind.i64.wrap (q3p : Int) = (q3p : Int) := wrapI _ (by omega) (by omega)
            have m2 : IntKind.u8.wrap (q3p : Int) = (q3p : Int) := wrap8 _ (by omega) (by omega)
            go_wp2_with fail
            refine hK.out _ _ ?_ (fun hHeld => ?_)
            · exact ⟨cj, cj1, Gb_all (F := fun p => (flat ds).getD p 0) (fun p hp => unhide CB1 p hp), fun p => unhide FB p⟩
            clear hK K
            (try simp only [Act.put, List.getElem_toArray, List.getElem_cons_succ, List.getElem_cons_zero, List.setIfInBounds_toArray, List.set_cons_zero, List.set_cons_succ])
            refine wpAnyH_take (i := 24) (oi := _) (v := ?_) rfl (by kernel_rfl) (by kernel_rfl) (by kernel_rfl) (fun _ _ _ h => h) (Or.inl ⟨by rfl, ?_⟩) (by assumption) ?_
            rotate_left 1
            · (intro wq hSw; (try dsimp only at hSw); (try simp only [List.getElem_toArray, List.getElem_cons_succ, List.getElem_cons_zero]); go_simp; try with_reducible rfl)
            (try simp only [Act.put, List.getElem_toArray, List.getElem_cons_succ, List.getElem_cons_zero, List.setIfInBounds_toArray, List.set_cons_zero, List.set_cons_succ])
            refine wpAnyH_take (i := 25) (oi := _) (v := ?_) rfl (by kernel_rfl) (by kernel_rfl) (by kernel_rfl) (fun _ _ _ h => h) (Or.inl ⟨by rfl, ?_⟩) (by assumption) ?_
            rotate_left 1
            · (intro wq hSw; (try dsimp only at hSw); (try simp only [List.getElem_toArray, List.getElem_cons_succ, List.getElem_cons_zero]); go_simp; try with_reducible rfl)
            (try simp only [Act.put, List.getElem_toArray, List.getElem_cons_succ, List.getElem_cons_zero, List.setIfInBounds_toArray, List.set_cons_zero, List.set_cons_succ])
            refine wpAnyH_ready (rs := [21]) (by kernel_rfl) (by simp) ?_
            refine AllReadyH.cons (o := _) rfl (fun K hK => ?_) AllReadyH.nil
            go_simp
            refine hK.out _ _ ?_ (fun hHeld => ?_)
            · exact ⟨cj, cj1, Gb_all (F := fun p => (flat ds).getD p 0) (fun p hp => unhide CB1 p hp), fun p => unhide FB p⟩
            clear hK K
            (try simp only [Act.put, List.getElem_toArray, List.getElem_cons_succ, List.getElem_cons_zero, List.setIfInBounds_toArray, List.set_cons_zero, List.set_cons_succ])
            refine wpAnyH_take (i := 26) (oi := _) (v := ?_) rfl (by kernel_rfl) (by kernel_rfl) (by kernel_rfl) (fun _ _ _ h => h) (Or.inl ⟨by rfl, ?_⟩) (by assumption) ?_
            rotate_left 1
            · (intro wq hSw; (try dsimp only at hSw); (try simp only [List.getElem_toArray, List.getElem_cons_succ, List.getElem_cons_zero]); go_simp; try with_reducible rfl)
            (try simp only [Act.put, List.getElem_toArray, List.getElem_cons_succ, List.getElem_cons_zero, List.setIfInBounds_toArray, List.set_cons_zero, List.set_cons_succ])
            refine wpAnyH_take (i := 27) (oi := _) (v := ?_) rfl (by kernel_rfl) (by kernel_rfl) (by kernel_rfl) (fun _ _ _ h => h) (Or.inl ⟨by rfl, ?_⟩) (by assumption) ?_
            rotate_left 1
            · (intro wq hSw; (try dsimp only at hSw); (try simp only [List.getElem_toArray, List.getElem_cons_succ, List.getElem_cons_zero]); go_simp; try with_reducible rfl)
            (try simp only [Act.put, List.getElem_toArray, List.getElem_cons_succ, List.getElem_cons_zero, List.setIfInBounds_toArray, List.set_cons_zero, List.set_cons_succ])
            refine wpAnyH_ready (rs := [28]) (by kernel_rfl) (by simp) ?_
            refine AllReadyH.cons (o := _) rfl (fun K hK => ?_) AllReadyH.nil
            go_simp
            refine hK.out _ _ ?_ (fun hHeld => ?_)
            · exact ⟨(World.cell?_setCell_other _ _ _ _ (unhide HN1 _ _)).trans cj, (World.cell?_setCell_other _ _ _ _ (unhide HN1 _ _)).trans cj1, Gb_set (F := fun p => (flat ds).getD p 0) (fun p hp => unhide CB1 p hp) n9b, fun p => (World.frozen?_setCell _ _ _ _).trans (unhide FB p)⟩
            clear hK K
            (try simp only [Act.put, List.getElem_toArray, List.getElem_cons_succ, List.getElem_cons_zero, List.setIfInBounds_toArray, List.set_cons_zero, List.set_cons_succ])
            refine wpAnyH_done (by kernel_rfl) (NoPanic.normal ?_) _
            have hG : Gb gb (w8.drewN (1 + d4b + d3b)) pp = (flat ds).getD pp 0 := Gb_of CP
            rw [hG]
            clear hG
            obtain ⟨y, hy, hy0, hy1, hyn⟩ := u8_changed hxx0 hxx1 (r := (q3p : Int)) (by omega) (by omega)
            rw [hy]
            clear hy
            have T9 := hide (OwnB.changed ((unhide T8).drewN (1 + d4b + d3b)) rfl n9b hy0 hy1)
            have L9 : Hid (OwnS w.heap.size ((w8.drewN (1 + d4b + d3b)).setCell ⟨gb, pp, none⟩ (.int .u8 y)) (.slice (some ⟨gl, 0, none⟩) n capl) (ds.map strOfNums)) := hide (own_kept (T := fun k => k = gb) ((unhide L8).drewN (1 + d4b + d3b)) ((Touch.refl _ _).setCell ⟨gb, pp, none⟩ (.int .u8 y) (fun _ => rfl)) (fun k hk e => own_apart (unhide T8).1 (unhide L8) (by decide) gb rfl (by rw [← e]; exact hk)))
            have cj9 : ((w8.drewN (1 + d4b + d3b)).setCell ⟨gb, pp, none⟩ (.int .u8 y)).cell? ⟨ge, j, none⟩ = some (.int .i64 (yj : Int)) := (World.cell?_setCell_other _ _ _ _ (unhide HN1 _ _)).trans cj
            have W9 := hide (Below.setCell (below_drewN (unhide W8) (1 + d4b + d3b)) (p := ⟨gb, pp, none⟩) hgb0 (.int .u8 y))
            have hge9 : ge < ((w8.drewN (1 + d4b + d3b)).setCell ⟨gb, pp, none⟩ (.int .u8 y)).heap.size := by
              have h := (World.ownsRow.lt (unhide E8) ge rfl).2
              simpa using h
            clear cj cj1 CP HN1 CB CB1 RB FB B8 B8d T8 L8 E8 W8 hHeld
            generalize (w8.drewN (1 + d4b + d3b)).setCell ⟨gb, pp, none⟩ (.int .u8 y) = w9 at *
            have hl9 : ((flat ds).set pp y).length = (flat ds).length := List.length_set ..
            obtain ⟨ab9, capb9, hub9, hRd9⟩ := OwnB.rdv2 (unhide T9) (Nat.le_refl _)
            rw [hl9] at hub9
            cases hub9
            have hpq : pp = yj + (2 + q4) := by
              have h := unhide HAR
              omega
            have hrf := unhide hbad (2 + q4) y (by omega) (by omega) (by have h := unhide HAR; omega) hy0 hy1 (by rw [← hpq]; exact hyn)
            rw [← hpq] at hrf
            have HRF9 := hide (implReadFrames_any _ _ ((flat ds).set pp y) w9 hRd9)
            rw [hrf, hl9] at HRF9
            dsimp only at HRF9
            clear hrf hRd9 hl9 hbad
            have HPQ := hide hpq
            clear hpq hyn
            go_wp2_with fail
            refine (unhide HRF9).mono ?_
            rintro e w11 ⟨vx, rfl, hOx, hb11⟩
            have cj11 : w11.cell? ⟨ge, j, none⟩ = some (.int .i64 (yj : Int)) := (World.cell?_of_block (w := w9) (hb11.block ge hge9)).trans cj9
            have L11 := hide ((unhide L9).below hb11)
            have W11 := hide ((unhide W9).trans (hb11.mono (unhide W9).size))
            have p2 : (j : Int) ≤ (capl : Int) := by omega
            have p3 : (0 : Int) ≤ (j : Int) := by omega
            have hST3 := hide (sameTexts_any vx (.slice (some ⟨gl, 0, none⟩) j capl) ((ds.take j).map strOfNums) w11 (OwnS.strs hOx) (OwnS.cut (unhide L11) j (by omega) (by unfold maxLen; omega)) (by simp; omega))
            clear hOx hb11 cj9 hge9 L9 W9 T9 HRF9
            go_wp2_with fail
            refine (unhide hST3).mono ?_
            rintro e w12 ⟨rfl, d12, rfl⟩
            have W12 := hide (below_drewN (unhide W11) d12)
            clear hST3 L11 W11
            go_wp2_with fail
            go_ret
            exact ⟨rfl, unhide W12⟩

theorem own : ownKnob Try.prog.godebug = none := by kernel_rfl
theorem laidOut : laidOutB Try.prog = true := by kernel_rfl
set_option maxRecDepth 100000 in
theorem lifted (os : Os) (started : os.Started) (H : Type) (enc : TypeId × Value → H) :
    ReturnsInHanded {} Try.checked os 4 .any (Rows.fnFramesSpec.pre6 enc Try.prog Try.f4 Rows.fnFramesRow.domain false) (Rows.fnFramesSpec.post enc Try.prog Try.f4 false true false false) := by
  refine returnsInHanded_of_change (C := Try.checked) own started (by kernel_rfl) Try.func4
    (ChangeSpec.witness6 (enc := enc) (C := Try.checked) false ⟨#[], #[.slice none 0 0, .slice none 0 0], []⟩ 8 (by kernel_rfl) (by kernel_rfl) (by kernel_rfl) (by kernel_rfl)) ?_
  intro W base args ds gs before hval0 hW hcnd _
  have hval : ∀ (j : Nat) t v, Try.f4.params[j]? = some t → args[j]? = some v → Value.okWide Try.prog W .any base t v := hval0
  have hW' := hW
  obtain ⟨p, q, hA0, hV, rfl, hfz, hnd⟩ := hW
  have hA : DataW.TrodAll enc Try.prog W 0 (fun _ => true) true Try.f4.params.toList args.toList ds p := hA0
  rw [Try.params4] at hA hval
  obtain ⟨v0, vs0, d0, ds0, p0, q0, hargs, rfl, rfl, h0, r0⟩ := trodAll_cons hA
  obtain ⟨v1, vs1, d1, ds1, p1, q1, rfl, rfl, rfl, h1, r1⟩ := trodAll_cons r0
  obtain ⟨rfl, rfl, rfl⟩ := trodAll_nil r1
  obtain rfl : args = #[v0, v1] := by cases args; simp_all
  obtain ⟨rfl, rfl⟩ := trodVars_none hV
  have k0 := h0
  have lt0 : ∀ x ∈ p0, x.block < W.heap.size := by obtain ⟨m, hm⟩ := k0; exact DataW.trod_lt m _ _ _ hm
  obtain ⟨a0, len0, cap0, rfl⟩ := okWide_slice Try.underlying22 (hval 0 22 v0 rfl rfl)
  obtain ⟨z0, w0⟩ : ∃ zs, IsRow .u8 W a0 len0 cap0 zs := by
    obtain ⟨fuel, hf⟩ := h0
    rcases open_ints Try.underlying22 Try.underlying5 (by kernel_rfl) hf with ⟨hcs, _⟩ | ⟨x, l, c, zs, hcs, _, hl, hm, hz, _, hcell, hwz⟩
    · simp [Value.cells] at hcs
      obtain ⟨rfl, rfl, rfl⟩ := hcs
      exact ⟨[], .inl ⟨rfl, rfl, rfl, rfl⟩⟩
    · simp [Value.cells] at hcs
      obtain ⟨rfl, rfl, rfl⟩ := hcs
      exact ⟨zs, .inr ⟨_, rfl, hl, hm, by simpa using hz, hcell, hwz⟩⟩
  have k1 := h1
  have lt1 : ∀ x ∈ p1, x.block < W.heap.size := by obtain ⟨m, hm⟩ := k1; exact DataW.trod_lt m _ _ _ hm
  obtain ⟨a1, len1, cap1, rfl⟩ := okWide_slice Try.underlying22 (hval 1 22 v1 rfl rfl)
  obtain ⟨z1, w1⟩ : ∃ zs, IsRow .u8 W a1 len1 cap1 zs := by
    obtain ⟨fuel, hf⟩ := h1
    rcases open_ints Try.underlying22 Try.underlying5 (by kernel_rfl) hf with ⟨hcs, _⟩ | ⟨x, l, c, zs, hcs, _, hl, hm, hz, _, hcell, hwz⟩
    · simp [Value.cells] at hcs
      obtain ⟨rfl, rfl, rfl⟩ := hcs
      exact ⟨[], .inl ⟨rfl, rfl, rfl, rfl⟩⟩
    · simp [Value.cells] at hcs
      obtain ⟨rfl, rfl, rfl⟩ := hcs
      exact ⟨zs, .inr ⟨_, rfl, hl, hm, by simpa using hz, hcell, hwz⟩⟩
  clear hA0 hval0
  refine (walk a0 len0 cap0 z0 a1 len1 cap1 z1 W w0 w1).mono fun e W' ⟨he, bel⟩ => ?_
  subst he
  exact ⟨_, rfl, _, _, _, [], _, [], hW', trodAll_mk1 (shut_bool Try.underlying4 _), (trodAll_cons_mk (Below.trod laidOut (by kernel_rfl) (of_decide_eq_true (by kernel_rfl)) k0 bel lt0) (trodAll_cons_mk (Below.trod laidOut (by kernel_rfl) (of_decide_eq_true (by kernel_rfl)) k1 bel lt1) trodAll_mk0)), rfl, bel.frame _, fun h => by cases h⟩

theorem over : Rows.fnFramesRow.holds Try.pinned (OpenSpec.ofChange Rows.fnFramesSpec) :=
  OpenClaim.holds_of_wide 4 Try.f4 rfl rfl rfl rfl rfl rfl rfl ⟨rfl, rfl, rfl, rfl, rfl⟩ rfl rfl rfl rfl rfl (by kernel_rfl) Try.func4 (by kernel_rfl)
    (of_decide_eq_true (by kernel_rfl)) (by unfold Func.isWrapper; first | (rw [if_pos (by decide +kernel)]; kernel_rfl) | (rw [if_neg (by decide +kernel)]; exact ⟨rfl, rfl⟩))
    (fun os started H enc _ => lifted os started H enc)

end Go.Proofs.Ytjkmnnjagcabdaa.fnFrames
namespace Go.Proofs.Ytjkmnnjagcabdaa
theorem fnFrames_holds : Rows.FnFramesSaid := fnFrames.over
#print axioms fnFrames_holds
end Go.Proofs.Ytjkmnnjagcabdaa
