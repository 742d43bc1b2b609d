/- impl.EntryBytes, spec.l02EntryBytes, spec.EntryBytes, walked. -/
import Derived.Test.YtafbdjcoimopfaaEnt
import Derived.Test.YtafbdjcoimopfaaWrT
import Derived.Test.YtafbdjcoimopfaaBlk
import Derived.Test.YtafbdjcoimopfaaSpT
import Derived.Deep.RegionHeld3
namespace Go.Proofs.Ytafbdjcoimopfaa
open Go.ChangeShapes Go.WideShapes Go.ChangeAt Go.RowKit
set_option linter.unusedVariables false

def entBytes (t k : Int) (d : ByteArray) : List Int := encN t 4 ++ encN k 1 ++ textsL [d]
def entOut (t k : Int) (d : ByteArray) : List Int × Int := if entOK t k d then (entBytes t k d, 0) else ([], 1)

set_option maxRecDepth 100000 in
set_option maxHeartbeats 1000000 in
theorem implEntryBytes_any (t k : Int) (d : ByteArray) (w : World) (hd : d.size ≤ maxLen) :
    Calls Try.prog 113 #[.agg #[.int .i64 t, .int .i64 k, .string d]] w fun e w' => ∃ v', e = .returned (.tuple #[v', .int .i64 (entOut t k d).2]) ∧ OwnB w.heap.size w' v' (entOut t k d).1 ∧ Below w.heap.size w w' := by
  have X0 := hide (Blk.new w #[.int .i64 t, .int .i64 k, .string d] 102 w.heap.size rfl)
  have B0 := hide ((Below.refl w.heap.size w).alloc (Nat.le_refl _) (.cells #[.int .i64 t, .int .i64 k, .string d] 102))
  rcases Bool.eq_false_or_eq_true (entOK t k d) with h1 | h1
  case inr =>
    have E := hide (show entOut t k d = ([], 1) by simp [entOut, h1])
    go_enter Try.func113, Try.ntmps113
    go_wp2_with fail
    refine (implEntryOK_any t k d _ hd).mono ?_
    rintro e w1 ⟨rfl, hb1⟩
    have B1 := hide ((unhide B0).trans (hb1.mono (by simp)))
    clear hb1
    go_wp2_with fail
    go_ret2
    exact ⟨.slice none 0 0, ret_two (by rw [unhide E]), by rw [unhide E]; exact OwnB.nil _ _, unhide B1⟩
  case inl =>
    have E := hide (show entOut t k d = (entBytes t k d, 0) by simp [entOut, h1])
    obtain ⟨b1, b2, b3, b4, b5⟩ := entOK_bounds h1
    go_enter Try.func113, Try.ntmps113
    go_wp2_with fail
    refine (implEntryOK_any t k d _ hd).mono ?_
    rintro e w1 ⟨rfl, hb1⟩
    have X1 := hide ((unhide X0).below hb1)
    have B1 := hide ((unhide B0).trans (hb1.mono (by simp)))
    clear hb1 X0 B0
    have hsz := (unhide X1).1
    have c0 := (unhide X1).cell 0 rfl
    have c1 := (unhide X1).cell 1 rfl
    have c2 := (unhide X1).cell 2 rfl
    go_wp2_with fail
    have W0 := hide (Wr.new w1 w1.heap.size rfl 154)
    have HS0 : Hid ((w1.alloc (.cells #[.slice none 0 0] 154)).heap.size = w1.heap.size + 1) := hide (by simp)
    have X2 := hide ((unhide X1).alloc (.cells #[.slice none 0 0] 154))
    have B2 := hide ((unhide B1).alloc (unhide B1).size (.cells #[.slice none 0 0] 154))
    clear X1 B1 c0 c1 c2
    generalize w1.alloc (.cells #[.slice none 0 0] 154) = w2 at *
    refine (numbers_new1 w1.heap.size 4 4 rfl _ [] t w2 (unhide W0) _ (unhide HS0) (by omega) (by omega) (by omega) (by simp)).mono ?_
    rintro e w3 ⟨rfl, v3, hW3, hT3, hL3⟩
    have hb3 := (unhide W0).below hT3 (Nat.le_refl _)
    have X3 := hide ((unhide X2).kept (T := fun k => ¬ k < w1.heap.size) ⟨hb3.os, hb3.tape, hb3.output, hb3.size, fun k _ hn => hb3.block k (by omega)⟩ (fun h => h hsz))
    have B3 := hide ((unhide B2).trans (hb3.mono (Nat.le_of_lt hsz)))
    have W3 := hide hW3
    clear hW3 hT3 hL3 hb3 X2 B2
    have c0 := (unhide X3).cell 0 rfl
    have c1 := (unhide X3).cell 1 rfl
    have c2 := (unhide X3).cell 2 rfl
    go_wp2_with fail
    refine (numbers_new1 w1.heap.size 1 1 rfl v3 _ k w3 (unhide W3) _ rfl (by omega) (by omega) (by omega) (by simp [encN])).mono ?_
    rintro e w4 ⟨rfl, v4, hW4, hT4, hL4⟩
    have hb4 := (unhide W3).below hT4 (Nat.le_refl _)
    have X4 := hide ((unhide X3).kept (T := fun k => ¬ k < w1.heap.size) ⟨hb4.os, hb4.tape, hb4.output, hb4.size, fun k _ hn => hb4.block k (by omega)⟩ (fun h => h hsz))
    have B4 := hide ((unhide B3).trans (hb4.mono (Nat.le_of_lt hsz)))
    have W4 := hide hW4
    clear hW4 hT4 hL4 hb4 X3 B3 c0 c1 c2
    have c0 := (unhide X4).cell 0 rfl
    have c1 := (unhide X4).cell 1 rfl
    have c2 := (unhide X4).cell 2 rfl
    go_wp2_with fail
    refine (texts_new1 w1.heap.size v4 _ d w4 (unhide W4) _ rfl (by omega) (by simp [encN])).mono ?_
    rintro e w5 ⟨rfl, v5, hW5, hT5, hL5⟩
    have hb5 := (unhide W4).below hT5 (Nat.le_refl _)
    have B5 := hide ((unhide B4).trans (hb5.mono (Nat.le_of_lt hsz)))
    have W5 := hide hW5
    have hcell := hW5.1
    clear hW5 hT5 hL5 hb5 B4
    go_wp2_with fail
    go_ret2
    refine ⟨v5, ret_two (by rw [unhide E]), ?_, unhide B5⟩
    rw [unhide E]
    exact OwnB.mono (B := w1.heap.size + 1) ⟨by have h := (unhide W5).2.2.2.1; simpa [entBytes] using h, by have h := (unhide W5).2.2.2.2; simpa [entBytes] using h⟩ (by omega)

set_option maxRecDepth 100000 in
set_option maxHeartbeats 1000000 in
theorem l02EntryBytes_any (t k : Int) (d : ByteArray) (w : World) (ht0 : 0 ≤ t) (ht1 : t < 4294967296) (hk0 : 0 ≤ k) (hk1 : k ≤ 255) (hd : d.size ≤ 255) :
    Calls Try.prog 108 #[.agg #[.int .i64 t, .int .i64 k, .string d]] w fun e w' => ∃ v', e = .returned v' ∧ OwnB w.heap.size w' v' (entBytes t k d) ∧ Below w.heap.size w w' := by
  obtain ⟨i0, hi, hz0, hz1, hz2⟩ := info_parts info5
  have m1 : IntKind.u8.wrap k = k := by rw [wrapU]; omega
  have m2 : IntKind.u8.wrap (d.size : Int) = (d.size : Int) := by rw [wrapU]; omega
  have X0 := hide (Blk.new w #[.int .i64 t, .int .i64 k, .string d] 102 w.heap.size rfl)
  have B0 := hide ((Below.refl w.heap.size w).alloc (Nat.le_refl _) (.cells #[.int .i64 t, .int .i64 k, .string d] 102))
  go_enter Try.func108, Try.ntmps108
  go_wp2_with fail
  generalize w.alloc (.cells #[.int .i64 t, .int .i64 k, .string d] 102) = w0 at *
  have c0 := (unhide X0).cell 0 rfl
  have c1 := (unhide X0).cell 1 rfl
  have c2 := (unhide X0).cell 2 rfl
  have hB := (unhide X0).1
  obtain ⟨bx, hbx⟩ : ∃ bx, bx = w.heap.size := ⟨_, rfl⟩
  rw [← hbx] at hB c0 c1 c2 ⊢
  have HBX := hide hbx
  clear hbx
  go_region_held3 (fun wx => wx.cell? ⟨bx, 0, none⟩ = some (.int .i64 t) ∧ wx.cell? ⟨bx, 1, none⟩ = some (.int .i64 k) ∧ wx.cell? ⟨bx, 2, none⟩ = some (.string d)) (go_keep)
    (first
     | (go_at_call 107; refine (l02Four_any _ _ ht0 ht1).mono ?_; rintro e w' ⟨rfl, rfl⟩)
     | (refine step_append_lies _ (by rfl) _ _ _ (by rfl) (bx + 1) 5 i0 _ 1 1 Try.underlying143 hi hz0 hz1 hz2 rfl (by omega) _ 4 _ (by rfl) (own_lit (by first | (refine (heap_old ?_).trans (heap_new ?_) <;> simp <;> done) | (refine heap_new ?_; simp <;> done)) (by omega) rfl (by unfold maxLen; omega)) _ 2 2 [_, _] (by rfl) (by rfl) (World.news_of_block (cs := #[_, _]) (t := 5) (fr := (0, 0)) (by first | (refine (heap_old ?_).trans (heap_new ?_) <;> simp <;> done) | (refine heap_new ?_; simp <;> done))) (by simp [Value.oneCell']) (by omega) (by unfold maxLen; omega) (by omega) (by simp; omega) _ rfl ?_; intro gg capg w1 hown1 hgrow hat hlt1; have hb1 : Below (bx + 1) w0 w1 := ((((Below.refl (bx + 1) w0).alloc (by omega) _).alloc (by simp; omega) _).drew).grown hgrow (by simp; omega) (fun r hr => by simp [Value.ownBlock] at hr; omega); have k0 := (hb1.cell (p := ⟨bx, 0, none⟩) (by simp)).trans c0; have k1 := (hb1.cell (p := ⟨bx, 1, none⟩) (by simp)).trans c1; have k2 := (hb1.cell (p := ⟨bx, 2, none⟩) (by simp)).trans c2))
  all_goals
    have hO : w1.ownsRow (bx + 1) 5 1 (.slice (some ⟨gg, 0, none⟩) 6 capg) 6 ((encN t 4 ++ encN k 1 ++ [(d.size : Int)]).map (Value.int .u8)) := by
      have e : encN k 1 = [k] := by simp [encN]; omega
      have e4 : encN t 4 = [t / 16777216 % 256, t / 65536 % 256, t / 256 % 256, t % 256] := by simp [encN]
      rw [e, e4]; exact hown1
    have O1 := hide hO
    have HB1 := hide hb1
    have hsz1 : bx < w1.heap.size := by have := hb1.size; omega
    clear hown1 hgrow hat hlt1 hb1 k0 k1 hO
    rename_i hHeld
    clear hHeld
    go_wp2_with (at_builtin; refine wpList_append_str _ rfl _ _ _ _ rfl (bx + 1) 5 i0 Try.underlying143 Try.underlying9 hi hz0 hz1 hz2 _ 6 _ rfl (unhide O1) d rfl (by omega) (by omega) (by omega) ?_; intro g2 cap2 w2 hown2 hgrow2 hat2; have HAT := hide hat2; clear hat2)
    have R := hide (show OwnB (bx + 1) w2 (.slice (some ⟨g2, 0, none⟩) (6 + d.size) cap2) (entBytes t k d) ∧ Below (bx + 1) w0 w2 from ⟨by
      have e : (encN t 4 ++ encN k 1 ++ [(d.size : Int)]).map (Value.int .u8) ++ Lib.strCells d = (entBytes t k d).map (Value.int .u8) := by
        rw [strCells_eq]; simp [entBytes, textsL]
      rw [e] at hown2
      have hn : (entBytes t k d).length = 6 + d.size := by simp [entBytes, encN, textsL, bytesI_len]; omega
      refine ⟨by rw [hn]; exact hown2, ?_⟩
      unfold entBytes
      refine range_append (range_append (encN_range t 4) (encN_range k 1)) (fun i => ?_)
      cases i with
      | zero => simp [textsL]; omega
      | succ i => simpa [textsL] using bytesI_range d i, (unhide HB1).grown hgrow2 (by omega) (fun r hr => ((unhide O1).lt r hr).1)⟩)
    clear hown2 hgrow2
    go_ret
    rw [← unhide HBX]
    refine ⟨_, rfl, (unhide R).1.mono (by omega), by rw [unhide HBX]; exact (unhide B0).trans ((unhide R).2.mono (by have := unhide HBX; omega))⟩

end Go.Proofs.Ytafbdjcoimopfaa
