/- impl.readRecord, walked. -/
import Derived.Test.YtpdjfjapdmopoaaRecI
import Derived.Test.YtpdjfjapdmopoaaRdEI
import Derived.Test.YtpdjfjapdmopoaaSgM
import Derived.Test.YtpdjfjapdmopoaaSta
import Derived.Test.YtpdjfjapdmopoaaQb
import Derived.Deep.DeepCutAuto
namespace Go.Proofs.Ytpdjfjapdmopoaa
open Go.ChangeShapes Go.WideShapes Go.ChangeAt Go.RowKit
set_option linter.unusedVariables false
set_option linter.unusedSimpArgs false

/-- A record. -/
inductive Rc where
  | T (a b : Int)
  | C (k : Int)
  | E (e : En)
def rcV : Option Rc → Value
  | none => .nilIface
  | some (.T a b) => .iface 73 (.agg #[.int .i64 a, .int .i64 b])
  | some (.C k) => .iface 76 (.agg #[.int .i64 k])
  | some (.E e) => .iface 82 (.agg #[.int .i64 e.t, .int .i64 e.k, .string e.d])
/-- The record of a text, and whether it is one. -/
def rcOf (t : ByteArray) : Option Rc × Bool :=
  if t.size = 0 then (none, false)
  else if bAt t 0 = 84 then (some (.T (numP 4 (some ((bytesI t).drop 1))).1 ((numP 1 (numP 4 (some ((bytesI t).drop 1))).2).1 - 1)), doneP (numP 1 (numP 4 (some ((bytesI t).drop 1))).2).2)
  else if bAt t 0 = 67 then (some (.C (numP 4 (some ((bytesI t).drop 1))).1), doneP (numP 4 (some ((bytesI t).drop 1))).2)
  else if bAt t 0 = 69 then (some (.E ⟨(entRead ((bytesI t).drop 1)).1.1, (entRead ((bytesI t).drop 1)).1.2.1, (entRead ((bytesI t).drop 1)).1.2.2⟩), decide ((entRead ((bytesI t).drop 1)).2 = 0))
  else (none, false)
theorem bytes_ext (t : ByteArray) (h : 1 ≤ t.size) : bytesI (t.extract 1 t.size) = (bytesI t).drop 1 := by
  unfold bytesI
  rw [← List.map_drop]
  congr 1
  obtain ⟨⟨l⟩⟩ := t
  simp [ByteArray.extract, ByteArray.copySlice]
  apply List.take_of_length_le
  show l.tail.length ≤ l.length - 1
  rw [List.length_tail]; omega
theorem RdV.up {w : World} {b b' : Nat} {v : Value} {rs : List Int} (h : RdV w b v rs) (hb : b ≤ b') : RdV w b' v rs := by
  obtain ⟨a, cap, hv, h1, h2, hc, hr⟩ := h
  refine ⟨a, cap, hv, h1, h2, ?_, hr⟩
  rcases hc with h0 | ⟨c, off, ha, hlt, hcell⟩
  · exact .inl h0
  · exact .inr ⟨c, off, ha, by omega, hcell⟩
theorem rec_ret {x y : Value} {a b : Bool} (h : x = y ∧ a = b) : Ending.returned (.tuple #[x, .bool a]) = .returned (.tuple #[y, .bool b]) := by rw [h.1, h.2]

set_option maxRecDepth 100000 in
set_option maxHeartbeats 1000000 in
theorem readRecord_any (t : ByteArray) (w : World) (hs : t.size ≤ 65536) :
    Calls Try.prog 21 #[.string t] w fun e w' => e = .returned (.tuple #[rcV (rcOf t).1, .bool (rcOf t).2]) ∧ Below w.heap.size w w' := by
  by_cases h0 : t.size = 0
  · have he : t.toList.isEmpty = true := emptyB_iff.2 h0
    have HD := hide (show rcOf t = (none, false) by unfold rcOf; rw [if_pos h0])
    go_enter Try.func21, Try.ntmps21
    go_wp2_with fail
    go_ret2
    exact ⟨by rw [unhide HD]; rfl, Below.refl _ _⟩
  · have he : t.toList.isEmpty = false := by
      rw [← Bool.not_eq_true]; exact fun h => h0 (emptyB_iff.1 h)
    have h1 : (1 : Int) ≤ (t.size : Int) := by omega
    have e0 := bAt_eq t 0 (by omega)
    have l0 := bAt_lo t 0
    have k0 := bAt_hi t 0
    have HH0 := hide h0
    have hx : (t.extract 1 t.size).size ≤ t.size := by rw [ByteArray.size_extract]; omega
    obtain ⟨cap1, w1, hcv, hRd, hb1⟩ := str_bytes (t.extract 1 t.size) w (by unfold maxLen; omega)
    have HBE := bytes_ext t (by omega)
    rw [HBE] at hcv hRd
    have hbl : ((bytesI t).drop 1).length ≤ 65536 := by rw [List.length_drop, bytesI_len2]; omega
    have HOF := hide (show rcOf t = _ by unfold rcOf; rw [if_neg h0])
    have HIX := hide (fun wx => indexByte_any (bAt t 0) l0 k0 wx)
    clear HBE h0 hx
    generalize (bytesI t).drop 1 = b at *
    generalize bAt t 0 = c at *
    have R2 := hide (Rd.new _ b w1 hRd 68)
    have HRV := hide ((hRd.kept (T := fun _ => False) (Nat.le_refl _) ((Touch.refl _ w1).alloc (.cells #[.slice (some ⟨w.heap.size, 0, none⟩) b.length cap1, .bool false] 68)) (fun _ _ h => h)).up (b' := w1.heap.size + 1) (by omega))
    have B2 := hide (hb1.alloc hb1.size (.cells #[.slice (some ⟨w.heap.size, 0, none⟩) b.length cap1, .bool false] 68))
    have hz1 := hb1.size
    have HZ2 : Hid ((w1.alloc (.cells #[.slice (some ⟨w.heap.size, 0, none⟩) b.length cap1, .bool false] 68)).heap.size = w1.heap.size + 1) := hide (by simp)
    have X2 := hide (Blk.new w1 #[.slice (some ⟨w.heap.size, 0, none⟩) b.length cap1, .bool false] 68 w1.heap.size rfl)
    have hc1 : Try.prog.concrete 73 = true := by kernel_rfl
    have hc2 : Try.prog.concrete 76 = true := by kernel_rfl
    have hc3 : Try.prog.concrete 82 = true := by kernel_rfl
    clear hRd hb1
    go_enter Try.func21, Try.ntmps21
    go_wp2_with fail
    clear hcv e0
    generalize w1.alloc (.cells #[.slice (some ⟨w.heap.size, 0, none⟩) b.length cap1, .bool false] 68) = w2 at *
    generalize w1.heap.size = rb at *
    refine (unhide HIX w2).mono ?_
    rintro e wx ⟨rfl, hwx⟩
    have hwx2 := hwx.symm
    clear hwx HIX
    subst hwx2
    by_cases c1 : c = 84
    · have hl : letP c = 0 := by unfold letP; rw [if_pos c1]
      rw [hl]
      rw [if_pos c1] at HOF
      have N1 := hide (implNumber_any 4 4 rfl rb (some b) w2 (unhide R2) (by omega))
      have hr1 := (takeP_range (unhide R2).range 4).2
      obtain ⟨x1, hx1⟩ : ∃ x1, x1 = (numP 4 (some b)).1 := ⟨_, rfl⟩
      obtain ⟨s1, hs1⟩ : ∃ s1, s1 = (numP 4 (some b)).2 := ⟨_, rfl⟩
      have hs1r : rangeP s1 := by rw [hs1]; exact hr1
      rw [← hx1, ← hs1] at N1 HOF
      obtain ⟨x2, hx2⟩ : ∃ x2, x2 = (numP 1 s1).1 := ⟨_, rfl⟩
      obtain ⟨s2, hs2⟩ : ∃ s2, s2 = (numP 1 s1).2 := ⟨_, rfl⟩
      have hr2 := num1_range hs1r
      rw [← hx2] at hr2
      rw [← hx2, ← hs2] at HOF
      have N2 := hide (fun wx (h : Rd wx rb s1) => implNumber_any 1 1 rfl rb s1 wx h (by omega))
      rw [← hx2, ← hs2] at N2
      have mw := wrapSg (x2 - 1) (by omega) (by omega)
      clear hx1 hs1 hx2 hs2 hr1 hs1r
      go_wp2_with fail
      refine (unhide N1).mono ?_
      rintro e w3 ⟨rfl, hR3, hT3, hz3⟩
      have R3 := hide hR3
      have B3 := hide ((unhide B2).trans (hT3.below (unhide B2).size (fun k hk e => by omega)))
      clear hR3 hT3 N1 hz3
      go_wp2_with fail
      refine (unhide N2 w3 (unhide R3)).mono ?_
      rintro e w4 ⟨rfl, hR4, hT4, hz4⟩
      have B4 := hide ((unhide B3).trans (hT4.below (unhide B3).size (fun k hk e => by omega)))
      have AA := (Below.refl w4.heap.size w4).alloc (Nat.le_refl _) (.cells #[.int .i64 x1, .int .i64 (x2 - 1)] 73)
      have R5 := hide (hR4.alloc (.cells #[.int .i64 x1, .int .i64 (x2 - 1)] 73))
      have Y5 := hide (Blk.new w4 #[.int .i64 x1, .int .i64 (x2 - 1)] 73 w4.heap.size rfl)
      have B5 := hide ((unhide B4).trans (AA.mono (unhide B4).size))
      clear hR4 hT4 AA B3 B4 R3 N2 hz4
      go_upto_region 7 with fail
      generalize w4.alloc (.cells #[.int .i64 x1, .int .i64 (x2 - 1)] 73) = w5 at *
      generalize w4.heap.size = xb at *
      have y0 := Wb.cell ((unhide Y5).cell 0 rfl) (unhide Y5).1
      have y1 := Wb.cell ((unhide Y5).cell 1 rfl) (unhide Y5).1
      have HDN := hide (fun (p : Wb w5) => done_any rb s2 p.at_ ((unhide R5).kept (T := fun _ => False) (Touch.ofBelow p.below) (fun _ _ h => h)))
      go_wp2_with fail
      refine wp_region_wb (by kernel_rfl) (by kernel_rfl) ?_
      repeat (go_big_quiet_step ((go_at_call 38; exact wb_same (unhide HDN _))))
      refine wpQuiet_nil ?_
      intro w6 hw'
      obtain ⟨⟨wq, hb6⟩, hq⟩ := hw'
      change w6 = wq at hq
      subst hq
      have B6 := hide ((unhide B5).trans (hb6.mono (unhide B5).size))
      clear hb6 y0 y1 HDN
      go_wp2_with fail
      go_ret2
      exact ⟨by rw [unhide HOF]; rfl, unhide B6⟩
    by_cases c2 : c = 67
    · have hl : letP c = 1 := by unfold letP; rw [if_neg c1, if_pos c2]
      rw [hl]
      rw [if_neg c1, if_pos c2] at HOF
      have N1 := hide (implNumber_any 4 4 rfl rb (some b) w2 (unhide R2) (by omega))
      obtain ⟨x1, hx1⟩ : ∃ x1, x1 = (numP 4 (some b)).1 := ⟨_, rfl⟩
      obtain ⟨s1, hs1⟩ : ∃ s1, s1 = (numP 4 (some b)).2 := ⟨_, rfl⟩
      rw [← hx1, ← hs1] at N1 HOF
      clear hx1 hs1
      go_wp2_with fail
      refine (unhide N1).mono ?_
      rintro e w4 ⟨rfl, hR4, hT4, hz4⟩
      have B4 := hide ((unhide B2).trans (hT4.below (unhide B2).size (fun k hk e => by omega)))
      have AA := (Below.refl w4.heap.size w4).alloc (Nat.le_refl _) (.cells #[.int .i64 x1] 76)
      have R5 := hide (hR4.alloc (.cells #[.int .i64 x1] 76))
      have Y5 := hide (Blk.new w4 #[.int .i64 x1] 76 w4.heap.size rfl)
      have B5 := hide ((unhide B4).trans (AA.mono (unhide B4).size))
      clear hR4 hT4 AA B4 N1 hz4
      go_upto_region 10 with fail
      generalize w4.alloc (.cells #[.int .i64 x1] 76) = w5 at *
      generalize w4.heap.size = xb at *
      have y0 := Wb.cell ((unhide Y5).cell 0 rfl) (unhide Y5).1
      have HDN := hide (fun (p : Wb w5) => done_any rb s1 p.at_ ((unhide R5).kept (T := fun _ => False) (Touch.ofBelow p.below) (fun _ _ h => h)))
      go_wp2_with fail
      refine wp_region_wb (by kernel_rfl) (by kernel_rfl) ?_
      repeat (go_big_quiet_step ((go_at_call 38; exact wb_same (unhide HDN _))))
      refine wpQuiet_nil ?_
      intro w6 hw'
      obtain ⟨⟨wq, hb6⟩, hq⟩ := hw'
      change w6 = wq at hq
      subst hq
      have B6 := hide ((unhide B5).trans (hb6.mono (unhide B5).size))
      clear hb6 y0 HDN
      go_wp2_with fail
      go_ret2
      exact ⟨by rw [unhide HOF]; rfl, unhide B6⟩
    by_cases c3 : c = 69
    · have hl : letP c = 2 := by unfold letP; rw [if_neg c1, if_neg c2, if_pos c3]
      rw [hl]
      rw [if_neg c1, if_neg c2, if_pos c3] at HOF
      have E1 := hide (implReadEntry_any _ _ b w2 (by rw [unhide HZ2]; exact unhide HRV))
      generalize entRead b = er at *
      obtain ⟨⟨et, ek, ed⟩, ec⟩ := er
      dsimp only [entVal] at E1 HOF
      have x0 := (unhide X2).cell 0 rfl
      go_wp2_with fail
      refine (unhide E1).mono ?_
      rintro e w4 ⟨rfl, hb4⟩
      have AA := (Below.refl w4.heap.size w4).alloc (Nat.le_refl _) (.cells #[.int .i64 et, .int .i64 ek, .string ed] 78)
      have B5 := hide (((unhide B2).trans (hb4.mono (unhide B2).size)).trans (AA.mono (Nat.le_trans (unhide B2).size hb4.size)))
      clear hb4 AA E1 x0
      have hcb : (ec == 0) = decide (ec = 0) := by rw [Bool.eq_iff_iff]; simp
      go_wp2_with fail
      go_ret2
      exact ⟨rec_ret (by rw [unhide HOF]; exact ⟨rfl, hcb⟩), unhide B5⟩
    · have hl : letP c = -1 := by unfold letP; rw [if_neg c1, if_neg c2, if_neg c3]
      rw [hl]
      rw [if_neg c1, if_neg c2, if_neg c3] at HOF
      go_wp2_with fail
      go_ret2
      exact ⟨by rw [unhide HOF]; rfl, unhide B2⟩
end Go.Proofs.Ytpdjfjapdmopoaa
