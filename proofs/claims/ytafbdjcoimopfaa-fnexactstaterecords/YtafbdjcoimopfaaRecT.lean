/- impl.recordText, walked. -/
import Derived.Test.YtafbdjcoimopfaaRecV
import Derived.Test.YtafbdjcoimopfaaEntB
import Derived.Test.YtafbdjcoimopfaaWrR
import Derived.Deep.DeepCutAuto
import Derived.Handy
namespace Go.Proofs.Ytafbdjcoimopfaa
open Go.ChangeShapes Go.WideShapes Go.ChangeAt Go.RowKit
set_option linter.unusedVariables false

/-- A record's bytes. -/
def recT : Rc → List Int
  | .T a b => 84 :: (encN a 4 ++ encN (b + 1) 1)
  | .C k => 67 :: encN k 4
  | .E e => 69 :: entBytes e.t e.k e.d
def rcGood : Rc → Prop
  | .T a b => 0 ≤ a ∧ a ≤ 1000000 ∧ -1 ≤ b ∧ b ≤ 6
  | .C k => 0 ≤ k ∧ k ≤ 60
  | .E e => entOK e.t e.k e.d = true ∧ e.d.size ≤ 1048576

theorem wrapSg2 (n : Int) (h0 : -9223372036854775808 ≤ n) (h1 : n < 9223372036854775808) : IntKind.i64.wrap n = n := by
  simp only [IntKind.wrap, IntKind.bits, IntKind.signed]
  simp
  omega
/-- One byte, in a list that was laid just now. -/
theorem raw_new1 (b : Nat) (v : Value) (xs : List Int) (n : Int) (w : World) (h : Wr w b v xs) (Lb : Nat) (hLb : w.heap.size = Lb) (h0 : 0 ≤ n) (h1 : n ≤ 255) (hxl : xs.length ≤ 70000) :
    Calls Try.prog 111 #[.pointer (some ⟨b, 0, none⟩), .slice (some ⟨Lb, 0, none⟩) 1 1] (w.alloc (.cells #[.int .u8 n] 5)) fun e w' => e = .returned (.tuple #[]) ∧ ∃ v', Wr w' b v' (xs ++ [n]) ∧ Touch (WT b v) w w' ∧ Lies v v' w.heap.size := by
  subst hLb
  refine (raw_any b v xs [n] w.heap.size 0 1 _ (h.alloc _) (by simp) (fun i hi => ?_) (one_range h0 h1) (by simp) (by simp) hxl).mono ?_
  · have hi0 : i = 0 := by simpa using hi
    subst hi0
    rw [World.cell?_alloc_at _ _ _ _ rfl]; rfl
  · rintro e w' ⟨rfl, v', hW, hT, hL⟩
    refine ⟨rfl, v', hW, ((Touch.refl (WT b v) w).alloc _).trans hT (fun _ _ h => h), fun k hk => ?_⟩
    rcases hL k hk with e | e
    · exact .inl e
    · right; simp at e; omega

set_option maxRecDepth 100000 in
theorem kindT_any (x1 x2 : Int) (w : World) :
    Calls Try.prog 157 #[.agg #[.int .i64 x1, .int .i64 x2]] w fun e w' => e = .returned (.int .i64 0) ∧ w' = w.alloc (.cells #[.int .i64 x1, .int .i64 x2] 147) := by
  go_enter Try.func157, Try.ntmps157
  go_wp2_with fail
  go_ret
  exact ⟨rfl, rfl⟩
set_option maxRecDepth 100000 in
theorem kindC_any (k : Int) (w : World) :
    Calls Try.prog 158 #[.agg #[.int .i64 k]] w fun e w' => e = .returned (.int .i64 1) ∧ w' = w.alloc (.cells #[.int .i64 k] 150) := by
  go_enter Try.func158, Try.ntmps158
  go_wp2_with fail
  go_ret
  exact ⟨rfl, rfl⟩
set_option maxRecDepth 100000 in
theorem kindE_any (t k : Int) (d : ByteArray) (w : World) :
    Calls Try.prog 159 #[.agg #[.int .i64 t, .int .i64 k, .string d]] w fun e w' => e = .returned (.int .i64 2) ∧ w' = w.alloc (.cells #[.int .i64 t, .int .i64 k, .string d] 152) := by
  go_enter Try.func159, Try.ntmps159
  go_wp2_with fail
  go_ret
  exact ⟨rfl, rfl⟩
set_option maxRecDepth 100000 in
set_option maxHeartbeats 1000000 in
theorem recordText_T (x1 x2 : Int) (w : World) (hg : rcGood (.T x1 x2)) :
    Calls Try.prog 77 #[.iface 147 (.agg #[.int .i64 x1, .int .i64 x2])] w fun e w' => e = .returned (.string (strOfNums (recT (.T x1 x2)))) ∧ Below w.heap.size w w' := by
  obtain ⟨g1, g2, g3, g4⟩ := hg
  have t1 := fun wx => ta_same (P := Try.prog) 147 109 _ (.agg #[.int .i64 x1, .int .i64 x2]) wx Try.underlying147
  have mw := wrapSg2 (x2 + 1) (by omega) (by omega)
  have W0 := hide ((Wr.new w w.heap.size rfl 154).alloc (.cells #[.int .i64 x1, .int .i64 x2] 147))
  have B0 := hide (((Below.refl w.heap.size w).alloc (Nat.le_refl _) (.cells #[.slice none 0 0] 154)).alloc (by simp) (.cells #[.int .i64 x1, .int .i64 x2] 147))
  go_enter Try.func77, Try.ntmps77
  go_wp2_with fail
  refine (kindT_any x1 x2 _).mono ?_
  rintro e w' ⟨rfl, rfl⟩
  go_wp2_with fail
  have HS : Hid (((w.alloc (.cells #[.slice none 0 0] 154)).alloc (.cells #[.int .i64 x1, .int .i64 x2] 147)).heap.size = w.heap.size + 1 + 1) := hide (by simp)
  generalize hlet : (((⟨#[84, 67, 69]⟩ : ByteArray)[0]'(by decide)).toNat : Int) = lt at *
  obtain rfl : lt = 84 := hlet.symm.trans (by decide)
  clear hlet
  generalize (w.alloc (.cells #[.slice none 0 0] 154)).alloc (.cells #[.int .i64 x1, .int .i64 x2] 147) = w1 at *
  refine (raw_new1 w.heap.size _ [] 84 w1 (unhide W0) _ (unhide HS) (by omega) (by omega) (by simp)).mono ?_
  rintro e w2 ⟨rfl, v2, hW2, hT2, hL2⟩
  have hb2 := (unhide W0).below hT2 (Nat.le_refl _)
  have B2 := hide ((unhide B0).trans hb2)
  have W2 := hide (hW2.alloc (.cells #[.int .i64 x1, .int .i64 x2] 147))
  have X2 := hide (Blk.new w2 #[.int .i64 x1, .int .i64 x2] 147 w2.heap.size rfl)
  have HRB := (unhide B2).size
  have HRW : w.heap.size < w2.heap.size := hW2.2.2.1
  have HNE := fun k hk => (hW2.row k hk).2
  have C2 := hide ((unhide B2).alloc (unhide B2).size (.cells #[.int .i64 x1, .int .i64 x2] 147))
  clear hW2 hT2 hL2 hb2 W0 B0 B2
  have HS3 : Hid ((w2.alloc (.cells #[.int .i64 x1, .int .i64 x2] 147)).heap.size = w2.heap.size + 1) := hide (by simp)
  go_wp2_with fail
  generalize w2.alloc (.cells #[.int .i64 x1, .int .i64 x2] 147) = w3 at *
  generalize w2.heap.size = xb at *
  refine (numbers_new1 w.heap.size 4 4 rfl v2 _ x1 w3 (unhide W2) _ (unhide HS3) (by omega) (by omega) (by omega) (by simp)).mono ?_
  rintro e w4 ⟨rfl, v4, hW4, hT4, hL4⟩
  have hb4 := (unhide W2).below hT4 (Nat.le_refl _)
  have X4 := hide ((unhide X2).kept hT4 (fun e => by rcases e with e | e; omega; exact absurd (HNE _ e) (by omega)))
  have B4 := hide ((unhide C2).trans hb4)
  have W4 := hide hW4
  clear hW4 hT4 hL4 hb4 X2 C2 W2
  have c1 := (unhide X4).cell 1 rfl
  go_wp2_with fail
  refine (numbers_new1 w.heap.size 1 1 rfl v4 _ (x2 + 1) w4 (unhide W4) _ rfl (by omega) (by omega) (by omega) (by simp [encN])).mono ?_
  rintro e w5 ⟨rfl, v5, hW5, hT5, hL5⟩
  have B5 := hide ((unhide B4).trans ((unhide W4).below hT5 (Nat.le_refl _)))
  have W5 := hide hW5
  clear hW5 hT5 hL5 X4 B4 W4 c1
  have hcell := (unhide W5).1
  have hcv := conv_own (P := Try.prog) 143 9 5 Try.underlying143 Try.underlying5 Try.underlying9 (unhide W5).2.2.2.1
  go_wp2_with fail
  go_ret
  refine ⟨?_, unhide B5⟩
  simp [recT]
set_option maxRecDepth 100000 in
set_option maxHeartbeats 1000000 in
theorem recordText_C (k : Int) (w : World) (hg : rcGood (.C k)) :
    Calls Try.prog 77 #[.iface 150 (.agg #[.int .i64 k])] w fun e w' => e = .returned (.string (strOfNums (recT (.C k)))) ∧ Below w.heap.size w w' := by
  obtain ⟨g1, g2⟩ := hg
  have t1 := fun wx => ta_other (P := Try.prog) 150 147 109 _ (.agg #[.int .i64 k]) (.agg #[.int .i64 0, .int .i64 0]) wx Try.underlying147 (by decide) (by kernel_rfl)
  have t2 := fun wx => ta_same (P := Try.prog) 150 109 _ (.agg #[.int .i64 k]) wx Try.underlying150
  have W0 := hide ((Wr.new w w.heap.size rfl 154).alloc (.cells #[.int .i64 k] 150))
  have B0 := hide (((Below.refl w.heap.size w).alloc (Nat.le_refl _) (.cells #[.slice none 0 0] 154)).alloc (by simp) (.cells #[.int .i64 k] 150))
  go_enter Try.func77, Try.ntmps77
  go_wp2_with fail
  refine (kindC_any k _).mono ?_
  rintro e w' ⟨rfl, rfl⟩
  go_wp2_with fail
  have HS : Hid (((w.alloc (.cells #[.slice none 0 0] 154)).alloc (.cells #[.int .i64 k] 150)).heap.size = w.heap.size + 1 + 1) := hide (by simp)
  generalize hlet : (((⟨#[84, 67, 69]⟩ : ByteArray)[1]'(by decide)).toNat : Int) = lt at *
  obtain rfl : lt = 67 := hlet.symm.trans (by decide)
  clear hlet
  generalize (w.alloc (.cells #[.slice none 0 0] 154)).alloc (.cells #[.int .i64 k] 150) = w1 at *
  refine (raw_new1 w.heap.size _ [] 67 w1 (unhide W0) _ (unhide HS) (by omega) (by omega) (by simp)).mono ?_
  rintro e w2 ⟨rfl, v2, hW2, hT2, hL2⟩
  have hb2 := (unhide W0).below hT2 (Nat.le_refl _)
  have B2 := hide ((unhide B0).trans hb2)
  have W2 := hide (hW2.alloc (.cells #[.int .i64 k] 150))
  have X2 := hide (Blk.new w2 #[.int .i64 k] 150 w2.heap.size rfl)
  have HRB := (unhide B2).size
  have HRW : w.heap.size < w2.heap.size := hW2.2.2.1
  have HNE := fun k hk => (hW2.row k hk).2
  have C2 := hide ((unhide B2).alloc (unhide B2).size (.cells #[.int .i64 k] 150))
  clear hW2 hT2 hL2 hb2 W0 B0 B2
  have HS3 : Hid ((w2.alloc (.cells #[.int .i64 k] 150)).heap.size = w2.heap.size + 1) := hide (by simp)
  go_wp2_with fail
  generalize w2.alloc (.cells #[.int .i64 k] 150) = w3 at *
  generalize w2.heap.size = xb at *
  refine (numbers_new1 w.heap.size 4 4 rfl v2 _ k w3 (unhide W2) _ (unhide HS3) (by omega) (by omega) (by omega) (by simp)).mono ?_
  rintro e w5 ⟨rfl, v5, hW5, hT5, hL5⟩
  have B5 := hide ((unhide C2).trans ((unhide W2).below hT5 (Nat.le_refl _)))
  have W5 := hide hW5
  clear hW5 hT5 hL5 X2 C2 W2
  have hcell := (unhide W5).1
  have hcv := conv_own (P := Try.prog) 143 9 5 Try.underlying143 Try.underlying5 Try.underlying9 (unhide W5).2.2.2.1
  go_wp2_with fail
  go_ret
  refine ⟨?_, unhide B5⟩
  simp [recT]
set_option maxRecDepth 100000 in
set_option maxHeartbeats 1000000 in
theorem recordText_E (t k : Int) (d : ByteArray) (w : World) (hg : rcGood (.E ⟨t, k, d⟩)) :
    Calls Try.prog 77 #[.iface 152 (.agg #[.int .i64 t, .int .i64 k, .string d])] w fun e w' => e = .returned (.string (strOfNums (recT (.E ⟨t, k, d⟩)))) ∧ Below w.heap.size w w' := by
  obtain ⟨g1, g2⟩ := hg
  dsimp only at g1 g2
  obtain ⟨b1, b2, b3, b4, b5⟩ := entOK_bounds g1
  have t1 := fun wx => ta_other (P := Try.prog) 152 147 109 _ (.agg #[.int .i64 t, .int .i64 k, .string d]) (.agg #[.int .i64 0, .int .i64 0]) wx Try.underlying147 (by decide) (by kernel_rfl)
  have t2 := fun wx => ta_other (P := Try.prog) 152 150 109 _ (.agg #[.int .i64 t, .int .i64 k, .string d]) (.agg #[.int .i64 0]) wx Try.underlying150 (by decide) (by kernel_rfl)
  have t3 := fun wx => ta_same (P := Try.prog) 152 109 _ (.agg #[.int .i64 t, .int .i64 k, .string d]) wx Try.underlying152
  have W0 := hide ((Wr.new w w.heap.size rfl 154).alloc (.cells #[.int .i64 t, .int .i64 k, .string d] 152))
  have B0 := hide (((Below.refl w.heap.size w).alloc (Nat.le_refl _) (.cells #[.slice none 0 0] 154)).alloc (by simp) (.cells #[.int .i64 t, .int .i64 k, .string d] 152))
  go_enter Try.func77, Try.ntmps77
  go_wp2_with fail
  refine (kindE_any t k d _).mono ?_
  rintro e w' ⟨rfl, rfl⟩
  go_wp2_with fail
  have HS : Hid (((w.alloc (.cells #[.slice none 0 0] 154)).alloc (.cells #[.int .i64 t, .int .i64 k, .string d] 152)).heap.size = w.heap.size + 1 + 1) := hide (by simp)
  generalize hlet : (((⟨#[84, 67, 69]⟩ : ByteArray)[2]'(by decide)).toNat : Int) = lt at *
  obtain rfl : lt = 69 := hlet.symm.trans (by decide)
  clear hlet
  generalize (w.alloc (.cells #[.slice none 0 0] 154)).alloc (.cells #[.int .i64 t, .int .i64 k, .string d] 152) = w1 at *
  refine (raw_new1 w.heap.size _ [] 69 w1 (unhide W0) _ (unhide HS) (by omega) (by omega) (by simp)).mono ?_
  rintro e w2 ⟨rfl, v2, hW2, hT2, hL2⟩
  have hb2 := (unhide W0).below hT2 (Nat.le_refl _)
  have B2 := hide ((unhide B0).trans hb2)
  have W2 := hide (hW2.alloc (.cells #[.int .i64 t, .int .i64 k, .string d] 152))
  have X2 := hide (Blk.new w2 #[.int .i64 t, .int .i64 k, .string d] 152 w2.heap.size rfl)
  have HRB := (unhide B2).size
  have HRW : w.heap.size < w2.heap.size := hW2.2.2.1
  have HNE := fun k hk => (hW2.row k hk).2
  have C2 := hide ((unhide B2).alloc (unhide B2).size (.cells #[.int .i64 t, .int .i64 k, .string d] 152))
  clear hW2 hT2 hL2 hb2 W0 B0 B2
  have HS3 : Hid ((w2.alloc (.cells #[.int .i64 t, .int .i64 k, .string d] 152)).heap.size = w2.heap.size + 1) := hide (by simp)
  go_wp2_with fail
  generalize w2.alloc (.cells #[.int .i64 t, .int .i64 k, .string d] 152) = w3 at *
  generalize w2.heap.size = xb at *
  refine (implEntryBytes_any t k d w3 (by unfold maxLen; omega)).mono ?_
  rintro e w4 ⟨v4, rfl, hO4, hb4⟩
  have hE : entOut t k d = (entBytes t k d, 0) := by simp [entOut, g1]
  rw [hE] at hO4 ⊢
  dsimp only at hO4 ⊢
  have W4 := hide ((unhide W2).kept (T := fun _ => False) (Touch.ofBelow hb4) (fun h => h) (fun _ _ h => h))
  have B4 := hide ((unhide C2).trans (hb4.mono (unhide C2).size))
  have hle : (entBytes t k d).length ≤ 300 := by simp [entBytes, encN, textsL, bytesI_len]; omega
  have hge : 0 < (entBytes t k d).length := by simp [entBytes, encN]
  rcases hO4.shape with ⟨rfl, h0⟩ | ⟨g, cap, rfl, hg1, hg2⟩
  · rw [h0] at hge; simp at hge
  have O4 := hide hO4
  clear hO4 hb4 X2 C2 W2 hE
  go_wp2_with fail
  refine (raw_any w.heap.size v2 _ (entBytes t k d) g 0 cap w4 (unhide W4) hg2 (fun i hi => by rw [Nat.zero_add]; exact (unhide O4).cell i hi) (unhide O4).2 hge (by omega) (by simp)).mono ?_
  rintro e w5 ⟨rfl, v5, hW5, hT5, hL5⟩
  have B5 := hide ((unhide B4).trans ((unhide W4).below hT5 (Nat.le_refl _)))
  have W5 := hide hW5
  clear hW5 hT5 hL5 W4 B4 O4
  have hcell := (unhide W5).1
  have hcv := conv_own (P := Try.prog) 143 9 5 Try.underlying143 Try.underlying5 Try.underlying9 (unhide W5).2.2.2.1
  go_wp2_with fail
  go_ret
  refine ⟨?_, unhide B5⟩
  simp [recT]
theorem recordText_any (rc : Rc) (w : World) (hg : rcGood rc) :
    Calls Try.prog 77 #[rcV (some rc)] w fun e w' => e = .returned (.string (strOfNums (recT rc))) ∧ Below w.heap.size w w' := by
  cases rc with
  | T a b => exact recordText_T a b w hg
  | C k => exact recordText_C k w hg
  | E e => obtain ⟨t, k, d⟩ := e; exact recordText_E t k d w hg
end Go.Proofs.Ytafbdjcoimopfaa
