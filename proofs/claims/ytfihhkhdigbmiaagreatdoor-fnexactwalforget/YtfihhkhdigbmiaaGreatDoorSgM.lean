/- A segment's methods: headed, number, records; the number that is next. -/
import Derived.Test.YtfihhkhdigbmiaaGreatDoorSgO
namespace Go.Proofs.YtfihhkhdigbmiaaGreatDoor
open Go.ChangeShapes Go.WideShapes Go.ChangeAt Go.RowKit
set_option linter.unusedVariables false

theorem Rd.new (v : Value) (l : List Int) (w : World) (h : RdV w w.heap.size v l) (t : TypeId) : Rd (w.alloc (.cells #[v, .bool false] t)) w.heap.size (some l) := by
  have hB := Blk.new w #[v, .bool false] t w.heap.size rfl
  exact ⟨⟨v, hB.cell 0 rfl, h.kept (T := fun _ => False) (Nat.le_refl _) ((Touch.refl _ _).alloc _) (fun _ _ h => h)⟩, hB.cell 1 rfl, hB.2.2, hB.1⟩
def hdB (ts : List ByteArray) : Bool := decide (0 < ts.length) && decide ((ts.getD 0 ByteArray.empty).size = 4)
set_option maxRecDepth 100000 in
set_option maxHeartbeats 1000000 in
theorem headed_any (n : ByteArray) (sz : Int) (v : Value) (wh bh : Int) (ts : List ByteArray) (B : Nat) (w : World) (h : OwnS B w v ts) (hl : ts.length ≤ 1048576) (hz : (ts.getD 0 ByteArray.empty).size ≤ 1048576) :
    Calls Tryz.prog 54 #[.agg #[.string n, .int .i64 sz, v, .int .i64 wh, .int .i64 bh]] w fun e w' => e = .returned (.bool (hdB ts)) ∧ Below w.heap.size w w' := by
  rcases own_shape h with ⟨rfl, h0⟩ | ⟨g, cap, rfl, hB, hlt, hn, hm⟩
  · have E := hide (show hdB ts = false by simp [hdB, h0])
    have B0 := hide ((Below.refl w.heap.size w).alloc (Nat.le_refl _) (.cells #[.string n, .int .i64 sz, .slice none 0 0, .int .i64 wh, .int .i64 bh] 50))
    clear h
    go_enter Tryz.func54, Tryz.ntmps54
    go_wp2_with fail
    go_ret
    exact ⟨ret_bool (unhide E).symm, unhide B0⟩
  · by_cases hp : 0 < ts.length
    · have B0 := hide ((Below.refl w.heap.size w).alloc (Nat.le_refl _) (.cells #[.string n, .int .i64 sz, .slice (some ⟨g, 0, none⟩) ts.length cap, .int .i64 wh, .int .i64 bh] 50))
      have c0 := ((unhide B0).cell (p := ⟨g, 0, none⟩) hlt).trans (h.cell 0 hp)
      have E := hide (show hdB ts = decide ((ts.getD 0 ByteArray.empty).size = 4) by simp [hdB, hp])
      have hpi : (0 : Int) < (ts.length : Int) := by omega
      generalize ts.getD 0 ByteArray.empty = t0 at *
      clear h
      go_enter Tryz.func54, Tryz.ntmps54
      go_wp2_with fail
      go_ret
      exact ⟨ret_bool (by rw [unhide E, Bool.eq_iff_iff]; simp; omega), unhide B0⟩
    · obtain rfl : ts = [] := List.eq_nil_of_length_eq_zero (by omega)
      have E := hide (show hdB [] = false by simp [hdB])
      have B0 := hide ((Below.refl w.heap.size w).alloc (Nat.le_refl _) (.cells #[.string n, .int .i64 sz, .slice (some ⟨g, 0, none⟩) 0 cap, .int .i64 wh, .int .i64 bh] 50))
      clear h
      rw [List.length_nil]
      go_enter Tryz.func54, Tryz.ntmps54
      go_wp2_with fail
      go_ret
      exact ⟨ret_bool (unhide E).symm, unhide B0⟩
set_option maxRecDepth 100000 in
set_option maxHeartbeats 1000000 in
theorem next_log (first : Int) (a : Option Addr) (n cap : Nat) (nv sv : Value) (torn : Int) (w : World) (hf : 0 ≤ first) (hf2 : first < 4294967296) (hn : n ≤ 1048576)
    (hnv : ∃ a2 n2 c2, nv = .slice a2 n2 c2) (hsv : ∃ a2 n2 c2, sv = .slice a2 n2 c2) :
    Calls Tryz.prog 75 #[.agg #[.int .i64 first, .slice a n cap, nv, .int .i64 torn, sv]] w fun e w' => e = .returned (.int .i64 (first + n)) ∧ Below w.heap.size w w' := by
  obtain ⟨a2, n2, c2, rfl⟩ := hnv
  obtain ⟨a3, n3, c3, rfl⟩ := hsv
  have m := wrapSg (first + n) (by omega) (by omega)
  go_enter Tryz.func75, Tryz.ntmps75
  go_wp2_with fail
  go_ret
  exact ⟨rfl, (Below.refl _ _).alloc (Nat.le_refl _) _⟩
set_option maxRecDepth 100000 in
set_option maxHeartbeats 1000000 in
theorem number_seg (n : ByteArray) (sz : Int) (v : Value) (wh bh : Int) (ts : List ByteArray) (B : Nat) (w : World) (h : OwnS B w v ts) (hp : 0 < ts.length) (hz : (ts.getD 0 ByteArray.empty).size ≤ 1048576) (hl : ts.length ≤ 1048576) :
    Calls Tryz.prog 55 #[.agg #[.string n, .int .i64 sz, v, .int .i64 wh, .int .i64 bh]] w fun e w' => e = .returned (.int .i64 (numP 4 (some (bytesI (ts.getD 0 ByteArray.empty)))).1) ∧ Below w.heap.size w w' := by
  rcases own_shape h with ⟨rfl, h0⟩ | ⟨g, cap, rfl, hB, hlt, hn, hm⟩
  · omega
  · have B0 := hide ((Below.refl w.heap.size w).alloc (Nat.le_refl _) (.cells #[.string n, .int .i64 sz, .slice (some ⟨g, 0, none⟩) ts.length cap, .int .i64 wh, .int .i64 bh] 50))
    have X0 := hide (Blk.new w #[.string n, .int .i64 sz, .slice (some ⟨g, 0, none⟩) ts.length cap, .int .i64 wh, .int .i64 bh] 50 w.heap.size rfl)
    have c0 := ((unhide B0).cell (p := ⟨g, 0, none⟩) hlt).trans (h.cell 0 hp)
    have hpi : (0 : Int) < (ts.length : Int) := by omega
    generalize ts.getD 0 ByteArray.empty = t0 at *
    clear h
    go_enter Tryz.func55, Tryz.ntmps55
    obtain ⟨cap1, w1, hcv, hRd, hb1⟩ := str_bytes t0 (w.alloc (.cells #[.string n, .int .i64 sz, .slice (some ⟨g, 0, none⟩) ts.length cap, .int .i64 wh, .int .i64 bh] 50)) (by unfold maxLen; omega)
    have HRd := hide hRd
    have B1 := hide ((unhide B0).trans (hb1.mono (unhide B0).size))
    have hsz : (w.alloc (.cells #[.string n, .int .i64 sz, .slice (some ⟨g, 0, none⟩) ts.length cap, .int .i64 wh, .int .i64 bh] 50)).heap.size = w.heap.size + 1 := by simp
    rw [hsz] at HRd hRd hcv
    have R2 := hide (Rd.new _ (bytesI t0) w1 hRd 100)
    have B2 := hide ((unhide B1).alloc (unhide B1).size (.cells #[.slice (some ⟨w.heap.size + 1, 0, none⟩) (bytesI t0).length cap1, .bool false] 100))
    have hz1 := (unhide B1).size
    go_wp2_with fail
    clear hcv hRd hb1 HRd c0
    generalize w1.alloc (.cells #[.slice (some ⟨w.heap.size + 1, 0, none⟩) (bytesI t0).length cap1, .bool false] 100) = w2 at *
    generalize w1.heap.size = rb at *
    refine (implNumber_any 4 4 rfl rb _ w2 (unhide R2) (by omega)).mono ?_
    rintro e w3 ⟨rfl, hR3, hT3, hz3⟩
    have B3 := hide ((unhide B2).trans (hT3.below (unhide B2).size (fun k hk e => by omega)))
    clear hR3 hT3 hz3
    obtain ⟨x, hx⟩ : ∃ x, x = (numP 4 (some (bytesI t0))).1 := ⟨_, rfl⟩
    rw [← hx]
    have HX := hide hx
    clear hx
    go_wp2_with fail
    go_ret
    exact ⟨ret_int (unhide HX), unhide B3⟩
set_option maxRecDepth 100000 in
set_option maxHeartbeats 1000000 in
theorem records_any (n : ByteArray) (sz : Int) (v : Value) (wh bh : Int) (ts : List ByteArray) (B : Nat) (w : World) (h : OwnS B w v ts) (hp : 0 < ts.length) (hl : ts.length ≤ 1048576) :
    Calls Tryz.prog 76 #[.agg #[.string n, .int .i64 sz, v, .int .i64 wh, .int .i64 bh]] w fun e w' => ∃ rv, e = .returned rv ∧ Strs w' rv (ts.drop 1) ∧ Below w.heap.size w w' := by
  rcases own_shape h with ⟨rfl, h0⟩ | ⟨g, cap, rfl, hB, hlt, hn, hm⟩
  · omega
  · have B0 := hide ((Below.refl w.heap.size w).alloc (Nat.le_refl _) (.cells #[.string n, .int .i64 sz, .slice (some ⟨g, 0, none⟩) ts.length cap, .int .i64 wh, .int .i64 bh] 50))
    have HC := hide (fun i (hi : i < ts.length) => ((unhide B0).cell (p := ⟨g, i, none⟩) hlt).trans (h.cell i hi))
    have q0 : (1 : Int) ≤ (ts.length : Int) := by omega
    have q1 : (ts.length : Int) ≤ (cap : Int) := by omega
    have hgz := (unhide B0).size
    clear h
    unfold maxLen at hm
    go_enter Tryz.func76, Tryz.ntmps76
    go_wp2_with fail
    · have h1 : ts.length = 1 := by omega
      have hd : (ts.drop 1).length = 0 := by rw [List.length_drop]; omega
      go_ret
      refine ⟨.slice (some ⟨g, 0, none⟩) 0 0, rfl, ?_, ?_⟩
      · rw [← List.drop_one]
        exact ⟨_, _, by rw [hd], by rw [hd]; unfold maxLen; omega, .inl hd⟩
      · have := unhide B0
        rw [h1] at this
        exact this
    · have hd : (ts.drop 1).length = ts.length - 1 := List.length_drop ..
      go_ret
      refine ⟨.slice (some ⟨g, 1, none⟩) (ts.length - 1) (ts.length - 1), rfl, ?_, unhide B0⟩
      rw [← List.drop_one]
      refine ⟨_, _, by rw [hd], by rw [hd]; unfold maxLen; omega, .inr ⟨g, 1, rfl, by omega, fun i hi => ?_⟩⟩
      rw [hd] at hi
      rw [unhide HC (1 + i) (by omega)]
      rw [List.getD_eq_getElem?_getD, List.getD_eq_getElem?_getD, List.getElem?_drop]
end Go.Proofs.YtfihhkhdigbmiaaGreatDoor
