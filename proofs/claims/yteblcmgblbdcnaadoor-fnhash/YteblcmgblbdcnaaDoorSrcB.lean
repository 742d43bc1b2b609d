/- The source of choices of the laws: bytes, and BytesOf. -/
import Derived.Test.YteblcmgblbdcnaaDoorSrc
namespace Go.Proofs.YteblcmgblbdcnaaDoor
open Go.ChangeShapes Go.WideShapes Go.ChangeAt Go.RowKit
set_option linter.unusedVariables false

theorem owns_made' {base e : Nat} (w : World) (b : Nat) (hb : b = w.heap.size) (hB : base ≤ w.heap.size) : (w.alloc (.cells #[] e)).ownsRow base e 1 (.slice (some ⟨b, 0, none⟩) 0 0) 0 [] := by
  subst hb
  exact World.ownsRow_made w #[] 0 hB (by unfold maxLen; omega) rfl
theorem Src.lt {w : World} {b : Nat} {a : Option Addr} {cap : Nat} {l : List Int} {M : Int} (h : Src w b a cap l M) : b < w.heap.size := by
  obtain ⟨_, _, _, _, _, _, _, _, _, _, h, _⟩ := h; exact h
theorem Src.len {w : World} {b : Nat} {a : Option Addr} {cap : Nat} {l : List Int} {M : Int} (h : Src w b a cap l M) : l.length ≤ 2097152 := by
  obtain ⟨_, _, _, _, _, _, _, _, _, _, _, _, _, h⟩ := h; exact h
theorem Src.alloc {w : World} {b : Nat} {a : Option Addr} {cap : Nat} {l : List Int} {M : Int} (h : Src w b a cap l M) (o : Obj) : Src (w.alloc o) b a cap l M := h.grown (World.grownBy_alloc w o none) (fun k e => by cases e)
/-- What a slice of the call's own holds is read as bytes. -/
theorem bytes_of_own {w : World} {base g n c : Nat} {ns : List Int} (h : w.ownsRow base 5 1 (.slice (some ⟨g, 0, none⟩) n c) n (ns.map (Value.int .u8))) (hr : ∀ i, 0 ≤ ns.getD i 0 ∧ ns.getD i 0 ≤ 255) (hn : n ≤ maxLen) : Bytes w (.slice (some ⟨g, 0, none⟩) ns.length c) ns := by
  have hl : ns.length = n := by simpa using h.1
  subst hl
  refine ⟨_, _, rfl, hn, .inr ⟨g, 0, rfl, (h.lt g rfl).2, fun i hi => ?_⟩, hr⟩
  rw [Nat.zero_add, h.cellAt i (by omega)]
  simp [List.getD, hi]
theorem range_snoc {ns : List Int} {x : Int} (h : ∀ i, 0 ≤ ns.getD i 0 ∧ ns.getD i 0 ≤ 255) (h0 : 0 ≤ x) (h1 : x ≤ 255) : ∀ i, 0 ≤ (ns ++ [x]).getD i 0 ∧ (ns ++ [x]).getD i 0 ≤ 255 := by
  intro i
  by_cases hi : i < ns.length
  · rw [List.getD_eq_getElem?_getD, List.getElem?_append_left hi, ← List.getD_eq_getElem?_getD]; exact h i
  · by_cases hi2 : i = ns.length
    · subst hi2; rw [List.getD_eq_getElem?_getD, List.getElem?_append_right (by omega)]; simp; omega
    · rw [List.getD_eq_getElem?_getD, List.getElem?_eq_none (by simp; omega)]; simp
theorem own_onlyAt {b base e n : Nat} {v : Value} {xs : List Value} {w w' : World} (h : w.ownsRow base e 1 v n xs) (hO : OnlyAt b w w') (hb : b < base) : w'.ownsRow base e 1 v n xs := by
  obtain ⟨hl, ⟨rfl, rfl⟩ | ⟨g, cap, cur, rfl, hbg, hg, hn, hc, hz, ht⟩⟩ := h
  · exact ⟨hl, .inl ⟨rfl, rfl⟩⟩
  · have hlt : g < w.heap.size := (World.ownsRow.lt ⟨hl, .inr ⟨g, cap, cur, rfl, hbg, hg, hn, hc, hz, ht⟩⟩ g rfl).2
    exact ⟨hl, .inr ⟨g, cap, cur, rfl, hbg, (hO.2.block g hlt (fun e => by cases e; omega)).trans hg, hn, hc, hz, ht⟩⟩

set_option maxRecDepth 100000 in
set_option maxHeartbeats 1000000 in
theorem l00Source_any (a : Option Addr) (cap : Nat) (l : List Int) (w : World) (h : Bytes w (.slice a l.length cap) l) (hl : l.length ≤ 2097152) :
    Calls Tryd.prog 13 #[.slice a l.length cap] w fun e w' => e = .returned (.pointer (some ⟨w.heap.size, 0, none⟩)) ∧ Src w' w.heap.size a cap l 0 ∧ Below w.heap.size w w' := by
  obtain ⟨a', cap', hv, hm, hc, hr⟩ := h
  simp only [Value.slice.injEq] at hv
  obtain ⟨rfl, _, rfl⟩ := hv
  have HC := hide hc
  have HR := hide hr
  clear hc hr hm
  go_enter Tryd.func13, Tryd.ntmps13
  go_wp2_with fail
  go_ret
  have hb : Below w.heap.size w (w.alloc (Obj.cells #[Value.slice a l.length cap, Value.int IntKind.i64 0, Value.int IntKind.i64 ((l.length : Int) % 1000)] 49)) := (Below.refl _ _).alloc (Nat.le_refl _) _
  refine ⟨rfl, ⟨0, (l.length : Int) % 1000, by omega, by omega, by omega, by omega, ?_, ?_, ?_, fun j => by simp, by simp, ?_, unhide HR, hl⟩, hb⟩
  · rw [World.cell?_alloc_at _ _ _ _ rfl]; rfl
  · rw [World.cell?_alloc_at _ _ _ _ rfl]; rfl
  · rw [World.cell?_alloc_at _ _ _ _ rfl]; rfl
  · rcases unhide HC with h0 | ⟨c, off, ha, hlt, hcell⟩
    · exact .inl h0
    · exact .inr ⟨c, off, ha, hlt, fun i hi => (hb.cell (p := ⟨c, off + i, none⟩) hlt).trans (hcell i hi)⟩

set_option maxRecDepth 100000 in
set_option maxHeartbeats 1000000 in
theorem srcBytes_any (n : Nat) (w : World) (b : Nat) (a : Option Addr) (cap : Nat) (l : List Int) (M : Int) (h : Src w b a cap l M) (hM : M ≤ 100000000) (hn : n < 60000) :
    Calls Tryd.prog 14 #[.pointer (some ⟨b, 0, none⟩), .int .i64 n] w fun e w' => ∃ g c ns, e = .returned (.slice (some ⟨g, 0, none⟩) ns.length c) ∧ ns.length ≤ n ∧ Bytes w' (.slice (some ⟨g, 0, none⟩) ns.length c) ns ∧ Src w' b a cap l (M + 3 + 3 * n) ∧ Below b w w' ∧ w.heap.size ≤ g := by
  have hbl : b < w.heap.size := h.lt
  obtain ⟨i0, hi, hz0, hz1, hz2⟩ := info_parts info5
  have H := hide h
  clear h
  go_enter Tryd.func14, Tryd.ntmps14
  have HO := hide (owns_made' (base := w.heap.size) (e := 5) w w.heap.size rfl (Nat.le_refl _))
  have HS := hide ((unhide H).alloc (Obj.cells #[] 5))
  have HB : Hid (Below b w (w.alloc (Obj.cells #[] 5))) := hide ((Below.refl _ _).alloc (by omega) _)
  go_wp2_with fail
  refine (srcNext_any ((n : Int) + 1) _ b a cap l M (unhide HS) (by omega) (by omega) (by omega)).mono ?_
  rintro e w1 ⟨x, rfl, hx0, hx1, hS1, hO1⟩
  have Z := hide (And.intro hS1 (And.intro (own_onlyAt (unhide HO) hO1 hbl) (hO1.below (unhide HB) (Nat.le_refl _) (by simp; omega))))
  have hsz : w.heap.size < w1.heap.size := by have := hO1.1; simp at this; omega
  clear hS1 hO1 HO HS HB
  go_wp2_with fail
  go_loopw [5, 6] (fun v i wr => ∃ (k m : Nat) (ns : List Int), i = .int .i64 k ∧ k + m ≤ n ∧ v ≠ .slice none 0 0 ∧ ns.length = m ∧ (∀ i, 0 ≤ ns.getD i 0 ∧ ns.getD i 0 ≤ 255) ∧ wr.ownsRow w.heap.size 5 1 v m (ns.map (Value.int .u8)) ∧ Src wr b a cap l (M + 3 + 3 * m) ∧ Below b w wr ∧ w.heap.size < wr.heap.size)
    (fun _ i _ => (intOf i).toNat)
  case atStart =>
    refine ⟨x.toNat, 0, [], ?_, by omega, by simp, rfl, by simp, (unhide Z).2.1, (unhide Z).1.mono (by omega), (unhide Z).2.2, hsz⟩
    rw [Int.toNat_of_nonneg hx0]
  case round =>
    clear Z hsz hx0 hx1
    obtain ⟨k, m, ns, rfl, hkm, hnn, hnl, hrg, hown, hS, hbel, hsz⟩ := hrel
    by_cases hk : k = 0
    · subst hk
      rcases hown.2 with ⟨e, _⟩ | ⟨g, c, cur, rfl, hbg, _⟩
      · exact absurd e hnn
      · have Z := hide (And.intro (bytes_of_own hown hrg (by unfold maxLen; omega)) (And.intro hS hbel))
        subst hnl
        clear hown hS hbel hrg
        go_wp2_with fail
        go_ret
        exact ⟨g, c, ns, rfl, by omega, (unhide Z).1, (unhide Z).2.1.mono (by omega), (unhide Z).2.2, hbg⟩
    · have hk0 : (0 : Int) < (k : Int) := by omega
      have Z := hide (And.intro hS (And.intro hown (And.intro hbel hrg)))
      clear hown hS hbel hrg
      go_wp2_with fail
      refine (srcNext_any 256 _ b a cap l _ (unhide Z).1 (by omega) (by omega) (by omega)).mono ?_
      rintro e w2 ⟨y, rfl, hy0, hy1, hS1, hO1⟩
      have hown2 := own_onlyAt (unhide Z).2.1 hO1 hbl
      have hsz2 : w.heap.size < w2.heap.size := by have := hO1.1; omega
      have hbel2 := hide (hO1.below (unhide Z).2.2.1 (Nat.le_refl _) (by omega))
      have HS2 := hide hS1
      have HR := hide (unhide Z).2.2.2
      clear hS1 hO1 Z
      have m1 : IntKind.u8.wrap y = y := by simp [IntKind.wrap, IntKind.bits, IntKind.signed]; omega
      go_wp2_with (at_builtin; refine wpList_append_own _ rfl _ _ 22 rfl w.heap.size 5 i0 (.int .u8 0) 1 1 Tryd.underlying22 hi hz0 hz1 hz2 rfl (by decide) _ _ _ rfl (hown2.alloc _) ⟨w2.heap.size, 0, none⟩ 1 1 [_] rfl rfl (World.news_of_block (cs := #[_]) (t := 5) (fr := (0, 0)) (heap_alloc_new w2 _)) (by simp [Value.oneCell']) (by unfold maxLen; omega) (by omega) (by simp; omega) ?_; intro v' w3 hown1 hgrow hnil)
      have hS3 := ((unhide HS2).alloc (Obj.cells #[.int .u8 y] 5)).grown hgrow (fun k hk => by have := (hown2.lt k hk).1; omega)
      have hb3 : Below b w w3 := ((unhide hbel2).alloc (by omega) _).grown hgrow (by simp; omega) (fun k hk => by have := (hown2.lt k hk).1; omega)
      have hz3 : w.heap.size < w3.heap.size := by have := hgrow.size; simp at this; omega
      have hr3 := range_snoc (unhide HR) hy0 (by omega : y ≤ 255)
      refine ⟨⟨k - 1, m + 1, ns ++ [y], by go_num, by omega, fun e => hnn (hnil.1 e).1, by simp [hnl], hr3, ?_, hS3.mono (by omega), hb3, hz3⟩, ?_⟩
      · simpa using hown1
      · simp [intOf]; omega

set_option maxRecDepth 100000 in
set_option maxHeartbeats 1000000 in
theorem bytesOf_any (n : Nat) (a : Option Addr) (cap : Nat) (l : List Int) (w : World) (h : Bytes w (.slice a l.length cap) l) (hl : l.length ≤ 2097152) (hn : n < 60000) :
    Calls Tryd.prog 4 #[.slice a l.length cap, .int .i64 n] w fun e w' => ∃ g c ns, e = .returned (.slice (some ⟨g, 0, none⟩) ns.length c) ∧ ns.length ≤ n ∧ Bytes w' (.slice (some ⟨g, 0, none⟩) ns.length c) ns ∧ Below w.heap.size w w' ∧ w.heap.size ≤ g := by
  have H := hide h
  clear h
  go_enter Tryd.func4, Tryd.ntmps4
  go_wp2_with fail
  refine (l00Source_any a cap l w (unhide H) hl).mono ?_
  rintro e w1 ⟨rfl, hS, hb⟩
  have Z := hide (And.intro hS hb)
  clear hS hb
  go_wp2_with fail
  refine (srcBytes_any n w1 w.heap.size a cap l 0 (unhide Z).1 (by omega) hn).mono ?_
  rintro e w2 ⟨g, c, ns, rfl, hnl, hB, hS, hb2, hg⟩
  have Z2 := hide (And.intro hB hb2)
  have hlt := (unhide Z).1.lt
  clear hB hb2 hS
  go_wp2_with fail
  go_ret
  exact ⟨g, c, ns, rfl, hnl, (unhide Z2).1, (unhide Z).2.trans (unhide Z2).2, by omega⟩
end Go.Proofs.YteblcmgblbdcnaaDoor
