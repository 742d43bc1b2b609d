/- The specification's segments: spec.l04Segments, spec.l03Find, spec.l04Data. A segment's data: spec.l03Find, spec.l04Data. The specification's reading of the log: what it is told of the disk, its own cells. spec.l02Frames, spec.ReadFrames, walked. spec.l04Read, walked. spec.DiskOK, walked. Both WalRead, walked. -/
import Derived.Test.YtpdjfjapdmopoaaLgP
import Derived.Test.YtpdjfjapdmopoaaStrO
import Derived.Deep.RegionHeld3
import Derived.Laws.Cover1
import Derived.Test.YtpdjfjapdmopoaaGrA
import Derived.Test.YtpdjfjapdmopoaaSRd
import Derived.Test.YtpdjfjapdmopoaaFrS
import Derived.Test.YtpdjfjapdmopoaaFrP
import Derived.Deep.Onto
import Derived.Deep.DeepCutAuto
import Derived.Test.YtpdjfjapdmopoaaFilO
namespace Go.Proofs.Ytpdjfjapdmopoaa
open Go.ChangeShapes Go.WideShapes Go.ChangeAt Go.RowKit
set_option linter.unusedVariables false
set_option linter.unusedSimpArgs false

/-- Numbers in a slice of the call's own. -/
def OwnN (B : Nat) (w : World) (v : Value) (l : List Int) : Prop := w.ownsRow B 3 1 v l.length (l.map (Value.int .i64))
theorem OwnN.below {B : Nat} {w w' : World} {v : Value} {l : List Int} (h : OwnN B w v l) (hb : Below w.heap.size w w') : OwnN B w' v l := own_kept (T := fun _ => False) h (Touch.ofBelow hb) (fun _ _ h => h)
theorem OwnN.cell {B : Nat} {w : World} {g cap n : Nat} {l : List Int} (h : OwnN B w (.slice (some ⟨g, 0, none⟩) n cap) l) (i : Nat) (hi : i < l.length) : w.cell? ⟨g, i, none⟩ = some (.int .i64 (l.getD i 0)) := by
  have hn : n = l.length := by
    rcases h.2 with ⟨hv, _⟩ | ⟨g', cap', cur, hv, _⟩
    · cases hv
    · cases hv; rfl
  subst hn
  rw [h.cellAt i (by omega)]
  simp [List.getD, hi]
theorem infoN : (Try.prog.info? 3).map (fun i => (i.zero, i.size, i.bytes)) = some (some (.int .i64 0), 1, 8) := by kernel_rfl
def numsP (l : List Fl) : List Int := (segsP l).map fun f => plcP f.n
theorem segsP_next2 (l : List Fl) (k : Nat) (h : k < l.length) : segsP (l.take (k + 1)) = segsP (l.take k) ++ (if 0 < plcP (l.getD k default).n then [l.getD k default] else []) := by
  unfold segsP
  rw [List.take_add_one, List.filter_append, List.getElem?_eq_getElem h, List.getD_eq_getElem?_getD, List.getElem?_eq_getElem h]
  simp [List.filter_cons]
theorem segsP_len (l : List Fl) (k : Nat) (hl : l.length ≤ 8) : (segsP (l.take k)).length ≤ 8 := by
  have h2 := List.length_filter_le (fun f : Fl => decide (0 < plcP f.n)) (l.take k)
  have h3 : (l.take k).length ≤ l.length := by rw [List.length_take]; omega
  unfold segsP
  omega

set_option maxRecDepth 100000 in
set_option maxHeartbeats 4000000 in
theorem l04Segments_any (room : Int) (v : Value) (l : List Fl) (w : World) (h : Fls w v l) (hl : l.length ≤ 8) (hs : ∀ i, i < l.length → (l.getD i default).n.size ≤ 1048576) :
    Calls Try.prog 59 #[.agg #[.int .i64 room, v]] w fun e w' => ∃ nv, e = .returned nv ∧ OwnN w.heap.size w' nv (numsP l) ∧ Below w.heap.size w w' := by
  obtain ⟨i0, hi, hz0, hz1, hz2⟩ := info_parts infoN
  obtain ⟨a, cap, rfl, hn, hm, hc⟩ := h
  have HC := hide hc
  have HS := hide hs
  clear hc hs
  have B0 := hide ((Below.refl w.heap.size w).alloc (Nat.le_refl _) (.cells #[.int .i64 room, .slice a l.length cap] 41))
  have X0 := hide (Blk.new w #[.int .i64 room, .slice a l.length cap] 41 w.heap.size rfl)
  go_enter Try.func59, Try.ntmps59
  go_wp2_with fail
  have B1 := hide ((unhide B0).alloc (unhide B0).size (.cells #[] 3))
  have X1 := hide ((unhide X0).alloc (.cells #[] 3))
  have O1 : Hid (OwnN (w.heap.size + 1) ((w.alloc (.cells #[.int .i64 room, .slice a l.length cap] 41)).alloc (.cells #[] 3)) (.slice (some ⟨w.heap.size + 1, 0, none⟩) 0 0) []) := hide ⟨rfl, .inr ⟨w.heap.size + 1, 0, #[], rfl, by omega, by rw [show w.heap.size + 1 = (w.alloc (.cells #[.int .i64 room, .slice a l.length cap] 41)).heap.size by simp]; exact heap_alloc_new _ _, Nat.le_refl _, by unfold maxLen; omega, rfl, rfl⟩⟩
  clear B0 X0
  generalize (w.alloc (.cells #[.int .i64 room, .slice a l.length cap] 41)).alloc (.cells #[] 3) = w1 at *
  go_loopw [3, 4] (fun lv i wr => ∃ k : Nat, k ≤ l.length ∧ i = .int .i64 k ∧ OwnN (w.heap.size + 1) wr lv (numsP (l.take k)) ∧ Blk wr w.heap.size [.int .i64 room, .slice a l.length cap] ∧ Below w.heap.size w wr ∧ True) (fun _ i _ => l.length - (intOf i).toNat)
  case atStart => exact ⟨0, Nat.zero_le _, rfl, by simpa [numsP, segsP] using unhide O1, unhide X1, unhide B1, trivial⟩
  case round =>
    obtain ⟨k, hk, rfl, hO, hX, hb, hT⟩ := hrel
    have HO := hide hO
    have HX := hide hX
    have x1 := hX.cell 1 rfl
    have hbs := hb.size
    clear hO hX
    by_cases hlt : k < l.length
    · obtain ⟨b, off, rfl, hbl, hsrc⟩ : ∃ b off, a = some ⟨b, off, none⟩ ∧ b < w.heap.size ∧ ∀ i, i < l.length → w.cell? ⟨b, off + i * 3, none⟩ = some (.string (l.getD i default).n) ∧ w.cell? ⟨b, off + i * 3 + 1, none⟩ = some (.string (l.getD i default).d) ∧ w.cell? ⟨b, off + i * 3 + 2, none⟩ = some (.int .i64 (l.getD i default).s) := by
        rcases unhide HC with h0 | h1
        · omega
        · exact h1
      obtain ⟨s0, s1, s2⟩ := hsrc k hlt
      have c0 := (hb.cell (p := ⟨b, off + k * 3, none⟩) hbl).trans s0
      have hk0 : (0 : Int) ≤ (k : Int) := by omega
      have hk1 : (k : Int) < (l.length : Int) := by omega
      have hns := unhide HS k hlt
      have HNX := hide (segsP_next2 l k hlt)
      have HLN := hide (segsP_len l k hl)
      have HB := hide hb
      clear hsrc s0 s1 s2 hb hT
      generalize hf : l.getD k default = f at *
      obtain ⟨fn, fd, fs⟩ := f
      dsimp only at c0 hns HNX
      clear hf
      go_wp2_with fail
      refine (l04Number_any fn wr hns).mono ?_
      rintro e w2 ⟨rfl, n2, rfl⟩
      have B2 := hide (below_drewN (unhide HB) n2)
      have X2 := hide ((unhide HX).drewN n2)
      have O2 := hide ((unhide HO).below (below_drewN (Below.refl _ wr) n2))
      clear HB HX HO c0 x1
      have hbs2 : w.heap.size ≤ (wr.drewN n2).heap.size := hbs
      generalize wr.drewN n2 = w2 at *
      by_cases hp : 0 < plcP fn
      · have HIF : Hid (numsP (l.take (k + 1)) = numsP (l.take k) ++ [plcP fn]) := by
          unfold numsP
          rw [unhide HNX, if_pos hp, List.map_append]
          exact hide rfl
        have hnl : (numsP (l.take k)).length ≤ 8 := by unfold numsP; rw [List.length_map]; exact unhide HLN
        have NE : Hid (u3.ownBlock ≠ some w.heap.size) := hide (fun e => by have := (World.ownsRow.lt (unhide O2) _ e).1; omega)
        have hxl := (unhide X2).1
        generalize plcP fn = pl at *
        generalize numsP (l.take k) = ns at *
        go_wp2_with (at_builtin; refine wpList_append_lies _ rfl _ _ _ rfl (w.heap.size + 1) 3 i0 _ 1 8 Try.underlying110 hi hz0 hz1 hz2 rfl (by omega) u3 ns.length _ rfl (World.ownsRow.alloc (unhide O2) _) ⟨w2.heap.size, 0, none⟩ 1 1 [_] rfl rfl (World.news_of_block (cs := #[_]) (t := 3) (fr := (0, 0)) (heap_alloc_new w2 _)) (by simp [Value.oneCell']) (by omega) (by unfold maxLen; omega) (by omega) (by simp; omega) _ rfl ?_; intro g5 cap5 w5 hown5 hgrow5 hat5 hlt5; have R5 := hide (And.intro hown5 (And.intro (((unhide B2).alloc hbs2 _).grown hgrow5 (by simp; omega) (fun r hr => Nat.le_of_succ_le (World.ownsRow.lt (unhide O2) r hr).1)) hgrow5)); clear hown5 hgrow5 hat5 hlt5)
        refine ⟨⟨k + 1, by omega, by go_num, ?_, ?_, (unhide R5).2.1, ?_⟩, ?_⟩
        · rw [unhide HIF]
          have h5 := (unhide R5).1
          unfold OwnN
          rw [List.map_append, List.length_append]
          exact h5
        · exact ((unhide X2).alloc _).kept (T := fun j => u3.ownBlock = some j) ⟨(unhide R5).2.2.os, (unhide R5).2.2.tape, (unhide R5).2.2.output, (unhide R5).2.2.size, fun j hj hne => (unhide R5).2.2.block j hj (fun e => hne e.symm)⟩ (fun e => unhide NE e)
        · trivial
        · simp [intOf]; omega
      · have HIF : Hid (numsP (l.take (k + 1)) = numsP (l.take k)) := by
          unfold numsP
          rw [unhide HNX, if_neg hp, List.append_nil]
          exact hide rfl
        generalize plcP fn = pl at *
        go_wp2_with fail
        refine ⟨⟨k + 1, by omega, by go_num, ?_, unhide X2, unhide B2, trivial⟩, ?_⟩
        · rw [unhide HIF]; exact unhide O2
        · simp [intOf]; omega
    · obtain rfl : k = l.length := by omega
      have HB := hide hb
      clear hb
      go_wp2_with fail
      go_ret
      refine ⟨_, rfl, ?_, unhide HB⟩
      have := World.ownsRow.mono (unhide HO) (Nat.le_succ w.heap.size)
      rwa [List.take_length] at this
end Go.Proofs.Ytpdjfjapdmopoaa
namespace Go.Proofs.Ytpdjfjapdmopoaa
open Go.ChangeShapes Go.WideShapes Go.ChangeAt Go.RowKit
set_option linter.unusedVariables false
set_option linter.unusedSimpArgs false

theorem toList_inj2 {a b : ByteArray} (h : a.toList = b.toList) : a = b := by
  rw [ByteArray.toList_eq, ByteArray.toList_eq] at h
  cases a; cases b
  simp only [ByteArray.mk.injEq]
  exact Array.ext' h
set_option maxRecDepth 100000 in
set_option maxHeartbeats 4000000 in
theorem l03Find_any (room : Int) (v : Value) (l : List Fl) (t : ByteArray) (i0 : Nat) (w : World) (h : Fls w v l) (hi0 : i0 < l.length) (hl : l.length ≤ 1048576) (hat : (l.getD i0 default).n = t) (hno : ∀ j, j < i0 → (l.getD j default).n ≠ t) :
    Calls Try.prog 73 #[.agg #[.int .i64 room, v], .string t] w fun e w' => e = .returned (.int .i64 i0) ∧ Below w.heap.size w w' := by
  obtain ⟨a, cap, rfl, hn, hm, hc⟩ := h
  have HC := hide hc
  have HAT := hide hat
  have HNO := hide hno
  clear hc hat hno
  have B0 := hide ((Below.refl w.heap.size w).alloc (Nat.le_refl _) (.cells #[.int .i64 room, .slice a l.length cap] 41))
  have X0 := hide (Blk.new w #[.int .i64 room, .slice a l.length cap] 41 w.heap.size rfl)
  go_enter Try.func73, Try.ntmps73
  go_wp2_with fail
  generalize w.alloc (.cells #[.int .i64 room, .slice a l.length cap] 41) = w0 at *
  have x1 := (unhide X0).cell 1 rfl
  go_loop [5] (fun i => ∃ k : Nat, k ≤ i0 ∧ i = .int .i64 k) (fun i => i0 + 1 - (intOf i).toNat)
  case atStart => exact ⟨0, Nat.zero_le _, rfl⟩
  case round =>
    obtain ⟨k, hk, rfl⟩ := hrel
    obtain ⟨b, off, rfl, hbl, hsrc⟩ : ∃ b off, a = some ⟨b, off, none⟩ ∧ b < w.heap.size ∧ ∀ i, i < l.length → w.cell? ⟨b, off + i * 3, none⟩ = some (.string (l.getD i default).n) ∧ w.cell? ⟨b, off + i * 3 + 1, none⟩ = some (.string (l.getD i default).d) ∧ w.cell? ⟨b, off + i * 3 + 2, none⟩ = some (.int .i64 (l.getD i default).s) := by
      rcases unhide HC with h0 | h1
      · omega
      · exact h1
    obtain ⟨s0, s1, s2⟩ := hsrc k (by omega)
    have c0 := ((unhide B0).cell (p := ⟨b, off + k * 3, none⟩) hbl).trans s0
    have hk0 : (0 : Int) ≤ (k : Int) := by omega
    have hk1 : (k : Int) < (l.length : Int) := by omega
    clear hsrc s0 s1 s2
    by_cases he : k = i0
    · subst he
      have hq := unhide HAT
      rw [hq] at c0
      clear hq
      go_wp2_with fail
      go_ret
      exact ⟨rfl, unhide B0⟩
    · have hne := unhide HNO k (by omega)
      have hb : ((l.getD k default).n.toList == t.toList) = false := by rw [beq_eq_false_iff_ne]; exact fun e => hne (toList_inj2 e)
      generalize (l.getD k default).n = fn at *
      clear hne
      go_wp2_with fail
      go_round
      case rel => exact ⟨k + 1, by omega, by go_num⟩
      case measure => simp [intOf]; omega

set_option maxRecDepth 100000 in
set_option maxHeartbeats 4000000 in
theorem l04Data_any (room : Int) (v : Value) (l : List Fl) (n : Int) (i0 : Nat) (w : World) (h : Fls w v l) (hi0 : i0 < l.length) (hl : l.length ≤ 1048576) (hn0 : 0 ≤ n) (hn1 : n ≤ 99) (hat : (l.getD i0 default).n = segN n) (hno : ∀ j, j < i0 → (l.getD j default).n ≠ segN n) :
    Calls Try.prog 60 #[.agg #[.int .i64 room, v], .int .i64 n] w fun e w' => e = .returned (.string (l.getD i0 default).d) ∧ Below w.heap.size w w' := by
  have HF := hide h
  obtain ⟨a, cap, rfl, hn, hm, hc⟩ := h
  have HAT := hide hat
  have HNO := hide hno
  obtain ⟨b, off, rfl, hbl, hsrc⟩ : ∃ b off, a = some ⟨b, off, none⟩ ∧ b < w.heap.size ∧ ∀ i, i < l.length → w.cell? ⟨b, off + i * 3, none⟩ = some (.string (l.getD i default).n) ∧ w.cell? ⟨b, off + i * 3 + 1, none⟩ = some (.string (l.getD i default).d) ∧ w.cell? ⟨b, off + i * 3 + 2, none⟩ = some (.int .i64 (l.getD i default).s) := by
    rcases hc with h0 | h1
    · omega
    · exact h1
  obtain ⟨s0, s1, s2⟩ := hsrc i0 hi0
  clear hc hsrc s0 s2 hat hno
  have B0 := hide (((Below.refl w.heap.size w).alloc (Nat.le_refl _) (.cells #[.int .i64 room, .slice (some ⟨b, off, none⟩) l.length cap] 41)))
  have X0 := hide (Blk.new w #[.int .i64 room, .slice (some ⟨b, off, none⟩) l.length cap] 41 w.heap.size rfl)
  go_enter Try.func60, Try.ntmps60
  go_wp2_with fail
  generalize w.alloc (.cells #[.int .i64 room, .slice (some ⟨b, off, none⟩) l.length cap] 41) = w0 at *
  have x0 := (unhide X0).cell 0 rfl
  have x1 := (unhide X0).cell 1 rfl
  have hxl := (unhide X0).1
  have B1 := hide (below_drewN (unhide B0) 1)
  have k1 := ((unhide B0).cell (p := ⟨b, off + i0 * 3 + 1, none⟩) hbl).trans s1
  have hq0 : (0 : Int) ≤ (i0 : Int) := by omega
  have hq1 : (i0 : Int) < (l.length : Int) := by omega
  obtain ⟨fd, hfd⟩ : ∃ fd, fd = (l.getD i0 default).d := ⟨_, rfl⟩
  rw [← hfd] at k1
  have HFD := hide hfd
  clear hfd
  have hbl0 : b < (w0.drewN 1).heap.size := Nat.lt_of_lt_of_le hbl (unhide B1).size
  go_region_held3 (fun wx => wx.cell? ⟨w.heap.size, 0, none⟩ = some (.int .i64 room) ∧ wx.cell? ⟨w.heap.size, 1, none⟩ = some (.slice (some ⟨b, off, none⟩) l.length cap) ∧ wx.cell? ⟨b, off + i0 * 3 + 1, none⟩ = some (.string fd))
    (first
      | go_keep
      | exact ⟨(hb3.cell (p := ⟨w.heap.size, 0, none⟩) hx2).trans q0, (hb3.cell (p := ⟨w.heap.size, 1, none⟩) hx2).trans q1, (hb3.cell (p := ⟨b, off + i0 * 3 + 1, none⟩) hb2l).trans q2⟩
      | exact ⟨q0, q1, q2⟩
      | exact ⟨x0, x1, k1⟩)
    (first
      | (go_at_call 73; refine (l03Find_any room _ l (segN n) i0 w2 ((unhide HF).below ((unhide B1).trans (hb2.mono (unhide B1).size))) hi0 hl (unhide HAT) (unhide HNO)).mono ?_; rintro e w3 ⟨rfl, hb3⟩)
      | (go_at_call 62; refine (l04Name_any n _ hn0 hn1).mono ?_; rintro e w2 ⟨rfl, hb2⟩; have hx2 : w.heap.size < w2.heap.size := Nat.lt_of_lt_of_le hxl hb2.size; have hb2l : b < w2.heap.size := Nat.lt_of_lt_of_le hbl0 hb2.size; have q0 := (hb2.cell (p := ⟨w.heap.size, 0, none⟩) hxl).trans x0; have q1 := (hb2.cell (p := ⟨w.heap.size, 1, none⟩) hxl).trans x1; have q2 := (hb2.cell (p := ⟨b, off + i0 * 3 + 1, none⟩) hbl0).trans k1))
  all_goals
    have B3 := hide ((unhide B1).trans ((hb2.mono (unhide B1).size).trans (hb3.mono (Nat.le_trans (unhide B1).size hb2.size))))
    clear hb2 hb3
    go_wp2_with fail
    go_ret
    exact ⟨by rw [← unhide HFD]; rfl, unhide B3⟩
end Go.Proofs.Ytpdjfjapdmopoaa
namespace Go.Proofs.Ytpdjfjapdmopoaa
open Go.ChangeShapes Go.WideShapes Go.ChangeAt Go.RowKit
set_option linter.unusedVariables false

theorem less_trans : ∀ x y z : List UInt8, Op.bytesLess x y = true → Op.bytesLess y z = true → Op.bytesLess x z = true
  | [], _, [], h1, h2 => by
    rename_i y
    cases y <;> simp [Op.bytesLess] at h1 h2
  | [], _, c :: z, h1, h2 => by simp [Op.bytesLess]
  | a :: x, [], z, h1, h2 => by simp [Op.bytesLess] at h1
  | a :: x, b :: y, [], h1, h2 => by simp [Op.bytesLess] at h2
  | a :: x, b :: y, c :: z, h1, h2 => by
    have ih := less_trans x y z
    have k1 : ∀ a b : UInt8, (a < b) = (a.toNat < b.toNat) := fun a b => by rw [UInt8.lt_iff_toNat_lt]
    have k2 : ∀ a b : UInt8, (a == b) = decide (a.toNat = b.toNat) := fun a b => by
      rw [Bool.eq_iff_iff]; simp [UInt8.toNat_inj]
    simp only [Op.bytesLess, k1, k2, Bool.or_eq_true, Bool.and_eq_true, decide_eq_true_eq] at h1 h2 ⊢
    rcases h1 with h1 | ⟨h1, h3⟩
    · rcases h2 with h2 | ⟨h2, h4⟩
      · left; omega
      · left; omega
    · rcases h2 with h2 | ⟨h2, h4⟩
      · left; omega
      · right; exact ⟨by omega, ih h3 h4⟩
theorem less_irr (x : List UInt8) : Op.bytesLess x x = false := by
  have := less_tri x x
  simp at this
  exact this
theorem rising {room : Int} {l : List Fl} (h : diskB room l = true) : ∀ j, j < l.length → ∀ i, i < j → lessB (l.getD i default).n (l.getD j default).n = true := by
  have hall : ∀ i, i < l.length → fileB l i = true := by
    unfold diskB at h
    simp only [Bool.and_eq_true] at h
    exact fun i hi => List.all_eq_true.1 h.1.2 i (by simpa using hi)
  intro j
  induction j with
  | zero => intro _ i hi; omega
  | succ j ih =>
    intro hj i hi
    have h1 := hall (j + 1) hj
    unfold fileB at h1
    simp only [Bool.and_eq_true, Bool.or_eq_true, decide_eq_true_eq, Nat.add_sub_cancel] at h1
    have h2 : lessB (l.getD j default).n (l.getD (j + 1) default).n = true := by
      rcases h1.2 with h0 | h0
      · omega
      · exact h0
    by_cases e : i = j
    · subst e; exact h2
    · exact less_trans _ _ _ (ih (by omega) i (by omega)) h2
theorem names_apart {room : Int} {l : List Fl} (h : diskB room l = true) (i j : Nat) (hij : i < j) (hj : j < l.length) : (l.getD i default).n ≠ (l.getD j default).n := fun e => by
  have h1 := rising h j hj i hij
  rw [e] at h1
  unfold lessB at h1
  rw [less_irr] at h1
  cases h1
theorem seg_at {room : Int} {l : List Fl} (h : diskB room l = true) (k : Nat) (hk : k < (segsP l).length) : ∃ i0, i0 < l.length ∧ l.getD i0 default = (segsP l).getD k default ∧ 0 < plcP ((segsP l).getD k default).n ∧ ∀ j, j < i0 → (l.getD j default).n ≠ ((segsP l).getD k default).n := by
  have hm : (segsP l).getD k default ∈ segsP l := by rw [List.getD_eq_getElem?_getD, List.getElem?_eq_getElem hk]; exact List.getElem_mem _
  obtain ⟨h1, h2⟩ := List.mem_filter.1 hm
  obtain ⟨i0, hi, he⟩ := List.getElem_of_mem h1
  have he2 : l.getD i0 default = (segsP l).getD k default := by rw [List.getD_eq_getElem?_getD, List.getElem?_eq_getElem hi]; exact he
  refine ⟨i0, hi, he2, by simpa using h2, fun j hj => ?_⟩
  rw [← he2]
  exact names_apart h j i0 hj hi
theorem nums_get (l : List Fl) (k : Nat) (hk : k < (segsP l).length) : (numsP l).getD k 0 = plcP ((segsP l).getD k default).n := by
  unfold numsP
  rw [List.getD_eq_getElem?_getD, List.getElem?_map, List.getElem?_eq_getElem hk, List.getD_eq_getElem?_getD, List.getElem?_eq_getElem hk]; rfl
theorem nums_len (l : List Fl) : (numsP l).length = (segsP l).length := by simp [numsP]
theorem frP_none (b : List Int) (p : Nat) (h : (frP b p).1 = []) : (frP b p).2.1 = p := by
  rw [frP] at h ⊢
  by_cases h1 : p < b.length
  · rw [dif_pos h1] at h ⊢
    by_cases h2 : (frStep (b.drop p)).1 = 0
    · rw [if_pos h2] at h; cases h
    · rw [if_neg h2]
  · rw [dif_neg h1]
/-- The specification's log while it is read: its box, its texts, the segments' numbers. -/
structure SpR (B lb : Nat) (w1 : World) (lv : Value) (nums : List Int) (L : Lg) (rv nv : Value) (wr : World) : Prop where
  bel : Below B w1 wr
  box : Blk wr lb [.int .i64 L.first, rv, nv, .int .i64 L.torn]
  rcs : OwnS B wr rv L.recs
  nam : OwnS B wr nv L.names
  dis : ∀ k, rv.ownBlock = some k → nv.ownBlock ≠ some k
  rne : ∀ k, rv.ownBlock = some k → k ≠ lb
  nne : ∀ k, nv.ownBlock = some k → k ≠ lb
  num : OwnN B wr lv nums
  lne : ∀ k, lv.ownBlock = some k → k ≠ lb
  le : B ≤ lb
  lw : B ≤ w1.heap.size
theorem SpR.below {B lb : Nat} {w1 : World} {lv : Value} {nums : List Int} {L : Lg} {rv nv : Value} {wr w' : World} (h : SpR B lb w1 lv nums L rv nv wr) (hb : Below wr.heap.size wr w') : SpR B lb w1 lv nums L rv nv w' :=
  ⟨h.bel.trans (hb.mono (Nat.le_trans h.lw h.bel.size)), h.box.below hb, h.rcs.below hb, h.nam.below hb, h.dis, h.rne, h.nne, h.num.below hb, h.lne, h.le, h.lw⟩
theorem SpR.set {B lb : Nat} {w1 : World} {lv : Value} {nums : List Int} {L L' : Lg} {rv nv : Value} {wr : World} (h : SpR B lb w1 lv nums L rv nv wr) (j : Nat) (u : Value)
    (hb : Blk (wr.setCell ⟨lb, j, none⟩ u) lb [.int .i64 L'.first, rv, nv, .int .i64 L'.torn]) (hr : L'.recs = L.recs) (hn : L'.names = L.names) : SpR B lb w1 lv nums L' rv nv (wr.setCell ⟨lb, j, none⟩ u) := by
  have ht := (Touch.refl (fun k => k = lb) wr).setCell ⟨lb, j, none⟩ u (fun _ => rfl)
  refine ⟨h.bel.setCell (p := ⟨lb, j, none⟩) h.le u, hb, ?_, ?_, h.dis, h.rne, h.nne, own_kept h.num ht h.lne, h.lne, h.le, h.lw⟩
  · rw [hr]; exact h.rcs.kept ht h.rne
  · rw [hn]; exact h.nam.kept ht h.nne
theorem SpR.setFirst {B lb : Nat} {w1 : World} {lv : Value} {nums : List Int} {L : Lg} {rv nv : Value} {wr : World} (h : SpR B lb w1 lv nums L rv nv wr) (t : Int) : SpR B lb w1 lv nums ⟨t, L.recs, L.names, L.torn⟩ rv nv (wr.setCell ⟨lb, 0, none⟩ (.int .i64 t)) :=
  h.set 0 _ (h.box.set 0 (.int .i64 t) (by simp)) rfl rfl
theorem SpR.setTorn {B lb : Nat} {w1 : World} {lv : Value} {nums : List Int} {L : Lg} {rv nv : Value} {wr : World} (h : SpR B lb w1 lv nums L rv nv wr) (t : Int) : SpR B lb w1 lv nums ⟨L.first, L.recs, L.names, t⟩ rv nv (wr.setCell ⟨lb, 3, none⟩ (.int .i64 t)) :=
  h.set 3 _ (h.box.set 3 (.int .i64 t) (by simp)) rfl rfl
theorem SpR.named {B lb gg capg n : Nat} {w1 w5 : World} {lv : Value} {nums : List Int} {L : Lg} {rv nv : Value} {wr : World} {fn : ByteArray} {o : Obj} (h : SpR B lb w1 lv nums L rv nv wr)
    (h1 : w5.ownsRow B 9 1 (.slice (some ⟨gg, 0, none⟩) n capg) n (L.names.map Value.string ++ [Value.string fn])) (hg : (wr.alloc o).grownBy w5 nv.ownBlock) (hat : nv.ownBlock = some gg ∨ gg = wr.heap.size + 1) :
    w5.cell? ⟨lb, 2, none⟩ = some nv ∧ w5.frozen? ⟨lb, 2, none⟩ = false ∧ SpR B lb w1 lv nums ⟨L.first, L.recs, L.names ++ [fn], L.torn⟩ rv (.slice (some ⟨gg, 0, none⟩) n capg) (w5.setCell ⟨lb, 2, none⟩ (.slice (some ⟨gg, 0, none⟩) n capg)) ∧ Touch (fun k => nv.ownBlock = some k ∨ k = lb) wr (w5.setCell ⟨lb, 2, none⟩ (.slice (some ⟨gg, 0, none⟩) n capg)) := by
  have hT : Touch (fun k => nv.ownBlock = some k) wr w5 := (((Touch.refl _ wr).alloc o).grown hg (fun k hk _ => hk))
  have hn : n = (L.names ++ [fn]).length := by have := h1.1; simp at this; simp; omega
  have hO : OwnS B w5 (.slice (some ⟨gg, 0, none⟩) n capg) (L.names ++ [fn]) := by
    unfold OwnS
    rw [List.map_append, ← hn]
    exact h1
  have hat' : ∀ k, (Value.slice (some ⟨gg, 0, none⟩) n capg).ownBlock = some k → nv.ownBlock = some k ∨ wr.heap.size ≤ k := fun k hk => by
    have e : gg = k := by simpa [Value.ownBlock] using hk
    subst e
    rcases hat with h0 | h0
    · exact .inl h0
    · right; omega
  have hB := h.box.kept hT (fun e => h.nne lb e rfl)
  have hs := (Touch.refl (fun k => k = lb) w5).setCell ⟨lb, 2, none⟩ (.slice (some ⟨gg, 0, none⟩) n capg) (fun _ => rfl)
  have hne : ∀ k, (Value.slice (some ⟨gg, 0, none⟩) n capg).ownBlock = some k → k ≠ lb := fun k hk e => by
    rcases hat' k hk with h3 | h3
    · exact h.nne k h3 e
    · have := h.box.1; omega
  refine ⟨hB.cell 2 rfl, hB.fro 2, ⟨?_, hB.set 2 _ (by simp), (h.rcs.kept hT (fun k hk e => h.dis k hk e)).kept hs h.rne, hO.kept hs hne, fun k hk e => ?_, h.rne, hne, own_kept (own_kept h.num hT (fun k hk e => own_apart2 h.num h.nam (by decide) k hk e)) hs h.lne, h.lne, h.le, h.lw⟩, ⟨hs.os.trans hT.os, hs.tape.trans hT.tape, hs.output.trans hT.output, Nat.le_trans hT.size hs.size, fun k hk hn => (hs.block k (Nat.lt_of_lt_of_le hk hT.size) (fun e => hn (.inr e))).trans (hT.block k hk (fun e => hn (.inl e)))⟩⟩
  · have h3 := hT.below (B := B) (Nat.le_trans h.lw h.bel.size) (fun k hk e => by have := (h.nam.lt k e).1; omega)
    exact (h.bel.trans h3).setCell (p := ⟨lb, 2, none⟩) h.le _
  · rcases hat' k e with h3 | h3
    · exact h.dis k hk h3
    · have := (h.rcs.lt k hk).2; omega
theorem SpR.recorded {B lb n : Nat} {w1 w5 : World} {lv : Value} {nums : List Int} {L : Lg} {rv nv : Value} {wr : World} {ts : List ByteArray} {a7 : Option Addr} {c7 : Nat} (h : SpR B lb w1 lv nums L rv nv wr)
    (h1 : w5.ownsRow B 9 1 (.slice a7 n c7) n (L.recs.map Value.string ++ ts.map Value.string)) (hg : wr.grownBy w5 rv.ownBlock) (hat : (Value.slice a7 n c7).ownBlock = rv.ownBlock ∨ (Value.slice a7 n c7).ownBlock = some wr.heap.size) :
    w5.cell? ⟨lb, 1, none⟩ = some rv ∧ w5.frozen? ⟨lb, 1, none⟩ = false ∧ SpR B lb w1 lv nums ⟨L.first, L.recs ++ ts, L.names, L.torn⟩ (.slice a7 n c7) nv (w5.setCell ⟨lb, 1, none⟩ (.slice a7 n c7)) := by
  have hT : Touch (fun k => rv.ownBlock = some k) wr w5 := (Touch.refl _ wr).grown hg (fun k hk _ => hk)
  have hn : n = (L.recs ++ ts).length := by have := h1.1; simp at this; simp; omega
  have hO : OwnS B w5 (.slice a7 n c7) (L.recs ++ ts) := by
    unfold OwnS
    rw [List.map_append, ← hn]
    exact h1
  have hat' : ∀ k, (Value.slice a7 n c7).ownBlock = some k → rv.ownBlock = some k ∨ wr.heap.size ≤ k := fun k hk => by
    rcases hat with h0 | h0
    · left; rw [← h0]; exact hk
    · right; rw [h0] at hk; cases hk; exact Nat.le_refl _
  have hB := h.box.kept hT (fun e => h.rne lb e rfl)
  have hs := (Touch.refl (fun k => k = lb) w5).setCell ⟨lb, 1, none⟩ (.slice a7 n c7) (fun _ => rfl)
  have hne : ∀ k, (Value.slice a7 n c7).ownBlock = some k → k ≠ lb := fun k hk e => by
    rcases hat' k hk with h3 | h3
    · exact h.rne k h3 e
    · have := h.box.1; omega
  refine ⟨hB.cell 1 rfl, hB.fro 1, ?_, hB.set 1 _ (by simp), hO.kept hs hne, (h.nam.kept hT (fun k hk e => h.dis k e hk)).kept hs h.nne, fun k hk e => ?_, hne, h.nne, own_kept (own_kept h.num hT (fun k hk e => own_apart2 h.num h.rcs (by decide) k hk e)) hs h.lne, h.lne, h.le, h.lw⟩
  · have h3 := hT.below (B := B) (Nat.le_trans h.lw h.bel.size) (fun k hk e => by have := (h.rcs.lt k e).1; omega)
    exact (h.bel.trans h3).setCell (p := ⟨lb, 1, none⟩) h.le _
  · rcases hat' k hk with h3 | h3
    · exact h.dis k h3 e
    · have := (h.nam.lt k e).2; omega
end Go.Proofs.Ytpdjfjapdmopoaa
namespace Go.Proofs.Ytpdjfjapdmopoaa
open Go.ChangeShapes Go.WideShapes Go.ChangeAt Go.RowKit fnExactCheck32
set_option linter.unusedVariables false

theorem infoS : (Try.prog.info? 9).map (fun i => (i.zero, i.size, i.bytes)) = some (some (.string ByteArray.empty), 1, 16) := by kernel_rfl
theorem toList_inj {a b : ByteArray} (h : a.toList = b.toList) : a = b := by
  rw [ByteArray.toList_eq, ByteArray.toList_eq] at h
  obtain ⟨x⟩ := a
  obtain ⟨y⟩ := b
  exact congrArg ByteArray.mk (Array.toList_inj.1 h)
theorem ownS_empty (w : World) (B g : Nat) (hg : w.heap.size = g) (hB : B ≤ w.heap.size) : OwnS B (w.alloc (.cells #[] 9)) (.slice (some ⟨g, 0, none⟩) 0 0) [] := by
  subst hg
  exact ⟨rfl, .inr ⟨w.heap.size, 0, #[], rfl, hB, heap_new rfl, Nat.le_refl _, by unfold maxLen; omega, rfl, rfl⟩⟩

set_option maxRecDepth 100000 in
set_option maxHeartbeats 1600000 in
theorem l02Frames_any (a : Option Addr) (cap : Nat) (l : List Int) (w : World) (h : RdV w w.heap.size (.slice a l.length cap) l) (hl : l.length ≤ 65536) :
    Calls Try.prog 61 #[.slice a l.length cap] w fun e w' => ∃ dv, e = .returned (.tuple #[dv, .int .i64 (frP l 0).2.1, .int .i64 (frP l 0).2.2]) ∧ OwnS w.heap.size w' dv ((frP l 0).1.map strOfNums) ∧ Below w.heap.size w w' := by
  obtain ⟨i0, hi, hz0, hz1, hz2⟩ := info_parts infoS
  obtain ⟨a', cap', hv, hq1, hq2, hc, hr⟩ := h
  cases hv
  have HC := hide hc
  have HR := hide hr
  clear hc hr
  go_enter Try.func61, Try.ntmps61
  go_wp2_with fail
  have B0 := hide ((Below.refl w.heap.size w).alloc (Nat.le_refl _) (.cells #[] 9))
  have O0 := hide (ownS_empty w w.heap.size w.heap.size rfl (Nat.le_refl _))
  generalize w.alloc (.cells #[] 9) = w0 at *
  go_loopw [5, 6] (fun o pv wr => ∃ (p : Nat) (ds : List (List Int)), pv = .int .i64 p ∧ FrAt l p ds ∧ OwnS w.heap.size wr o (ds.map strOfNums) ∧ Below w.heap.size w wr) (fun _ pv _ => l.length - (intOf pv).toNat)
  case atStart => exact ⟨0, [], rfl, FrAt.zero l, unhide O0, unhide B0⟩
  case round =>
    obtain ⟨p, ds, rfl, hat, hO, hb⟩ := hrel
    have HA := hide hat
    have HO := hide hO
    have HB := hide hb
    have hple := hat.2.1
    have hdle := hat.2.2.1
    clear hat hO hb
    by_cases hp : p < l.length
    · obtain ⟨c, off, rfl, hcl, hcell⟩ : ∃ c off, a = some ⟨c, off, none⟩ ∧ c < w.heap.size ∧ ∀ i, i < l.length → w.cell? ⟨c, off + i, none⟩ = some (.int .u8 (l.getD i 0)) := by
        rcases unhide HC with h0 | h0
        · omega
        · exact h0
      have HC0 := hide (fun (wx : World) (hbx : Below w.heap.size w wx) (i : Nat) (hi : i < l.length) => (hbx.cell (p := ⟨c, off + i, none⟩) hcl).trans (hcell i hi))
      have HC2 := hide (fun i (hi : i < l.length) => ((unhide HB).cell (p := ⟨c, off + i, none⟩) hcl).trans (hcell i hi))
      clear hcell HC
      have hRl : (l.drop p).length = l.length - p := List.length_drop ..
      have HRr := hide (range_drop p (unhide HR))
      have HSt := hide (fun h => (unhide HA).stop hp h)
      have HNx := hide (fun d h => (unhide HA).next (d := d) hp h)
      have p1 : (p : Int) < (l.length : Int) := by omega
      by_cases h6 : l.length - p < 6
      · have E := hide (show frStep (l.drop p) = (16, []) by unfold frStep; rw [if_pos (by omega)])
        have q6 : (l.length : Int) - (p : Int) < 6 := by omega
        go_wp2_with fail
        refine bodyPost_ret (v := .tuple #[_, .int .i64 p, .int .i64 16]) (by simp [results, Try.results61, go_sem]; rfl) rfl ?_
        have hst := unhide HSt (by rw [unhide E]; decide)
        rw [unhide E] at hst
        rw [hst]
        exact ⟨_, rfl, unhide HO, unhide HB⟩
      · have q6 : ¬ (l.length : Int) - (p : Int) < 6 := by omega
        have q7 : (p : Int) + 1 < (l.length : Int) := by omega
        have hs0 := unhide HC2 p (by omega)
        have hs1 := unhide HC2 (p + 1) (by omega)
        have hx0 := unhide HR p
        have hx1 := unhide HR (p + 1)
        have hN : dec ((l.drop p).take 2) = l.getD p 0 * 256 + l.getD (p + 1) 0 := by
          obtain ⟨x0, x1, x2, x3, x4, x5, r, he⟩ := six (show 6 ≤ (l.drop p).length by omega)
          have e0 : (l.drop p).getD 0 0 = l.getD (p + 0) 0 := getD_drop
          have e1 : (l.drop p).getD 1 0 = l.getD (p + 1) 0 := getD_drop
          rw [he] at e0 e1 ⊢
          rw [Nat.add_zero] at e0
          rw [← e0, ← e1]
          exact dec2 x0 x1
        have HN := hide hN
        clear hN
        generalize l.getD p 0 = x0 at *
        generalize l.getD (p + 1) 0 = x1 at *
        have m1 : IntKind.i64.wrap (x0 * 256) = x0 * 256 := wrapI _ (by omega) (by omega)
        have m2 : IntKind.i64.wrap (x0 * 256 + x1) = x0 * 256 + x1 := wrapI _ (by omega) (by omega)
        obtain ⟨N, hNe⟩ : ∃ N : Nat, x0 * 256 + x1 = (N : Int) := ⟨(x0 * 256 + x1).toNat, by omega⟩
        have hNlt : N < 65536 := by omega
        rw [hNe] at m2 HN
        go_wp2_with fail
        go_quiet (fail)
        have HO2 := hide ((unhide HO).drewN nq)
        have HB2 := hide (below_drewN (unhide HB) nq)
        have HC3 : Hid (∀ i, i < l.length → (wr.drewN nq).cell? ⟨c, off + i, none⟩ = some (.int .u8 (l.getD i 0))) := hide (fun i hi => unhide HC2 i hi)
        clear HO HB HC2 hs0 hs1 m1 m2 hx0 hx1 hNe
        generalize wr.drewN nq = wr2 at *
        by_cases hin : inB N 1 200 = true
        · obtain ⟨g0, g1⟩ := inB_iff.1 hin
          have z1 : ((N : Int) == 0) = false := by rw [beq_eq_false_iff_ne]; omega
          have z2 : ¬ (200 : Int) < (N : Int) := by omega
          by_cases hle : N ≤ l.length - p - 6
          · have z3 : ¬ (l.length : Int) - (p : Int) - 6 < (N : Int) := by omega
            have y1 : (p : Int) + 6 + (N : Int) ≤ (cap : Int) := by omega
            have y2 : (p : Int) + 6 + (N : Int) ≤ (l.length : Int) := by omega
            have y3 : (p : Int) + 6 ≤ (p : Int) + 6 + (N : Int) := by omega
            have y4 : (0 : Int) ≤ (p : Int) + 6 := by omega
            unfold maxLen at hq2
            obtain ⟨dd, hdd⟩ : ∃ dd, dd = ((l.drop p).drop 6).take N := ⟨_, rfl⟩
            obtain ⟨tt, htt⟩ : ∃ tt, tt = (l.drop p).take (6 + N) := ⟨_, rfl⟩
            have hddl : dd.length = N := by rw [hdd, List.length_take, List.length_drop]; omega
            have httl : tt.length = 6 + N := by rw [htt, List.length_take]; omega
            have HDg : Hid (∀ i, i < N → dd.getD i 0 = l.getD (p + 6 + i) 0) := hide (fun i hi => by rw [hdd, getD_take hi, getD_drop, getD_drop, Nat.add_assoc])
            have HTg : Hid (∀ i, i < 6 + N → tt.getD i 0 = l.getD (p + i) 0) := hide (fun i hi => by rw [htt, getD_take hi, getD_drop])
            have HDr : Hid (∀ i, 0 ≤ dd.getD i 0 ∧ dd.getD i 0 ≤ 255) := hide (by rw [hdd]; exact range_take N (range_drop 6 (unhide HRr)))
            have HTr : Hid (∀ i, 0 ≤ tt.getD i 0 ∧ tt.getD i 0 ≤ 255) := hide (by rw [htt]; exact range_take _ (unhide HRr))
            have HFi : Hid (frameL dd = tt ↔ sumF dd = dec (((l.drop p).drop 2).take 4)) := hide (by rw [hdd, htt]; exact frame_iff (unhide HRr) (by omega) (unhide HN) (by omega))
            have HFs : Hid (frStep (l.drop p) = if sumF dd = dec (((l.drop p).drop 2).take 4) then (0, dd) else (8, [])) := hide (by
              unfold frStep; rw [if_neg (by omega), unhide HN, if_neg (by rw [hin]; simp), Int.toNat_natCast, if_neg (by omega), hdd])
            clear hdd htt
            have HCT : Hid (∀ wx, Below w.heap.size w wx → (convert 66 9 (.slice (some ⟨c, off + p, none⟩) (6 + N) (cap - p))).run Try.prog wx = .ok (.string (strOfNums tt)) wx) := hide (fun wx hbx =>
              run_convert_bytes_arg wx 66 5 Try.underlying66 Try.underlying5 c (off + p) (6 + N) (cap - p) tt httl (fun i hi => by rw [Nat.add_assoc, unhide HC0 wx hbx (p + i) (by omega), unhide HTg i hi]) 9 Try.underlying9)
            have HCD : Hid (∀ wx, Below w.heap.size w wx → (convert 66 9 (.slice (some ⟨c, off + (p + 6), none⟩) N (cap - (p + 6)))).run Try.prog wx = .ok (.string (strOfNums dd)) wx) := hide (fun wx hbx =>
              run_convert_bytes_arg wx 66 5 Try.underlying66 Try.underlying5 c (off + (p + 6)) N (cap - (p + 6)) dd hddl (fun i hi => by rw [Nat.add_assoc, unhide HC0 wx hbx (p + 6 + i) (by omega), unhide HDg i hi]) 9 Try.underlying9)
            have HLF := hide (fun wx (hbx : Below w.heap.size w wx) => l02Frame_any c (off + (p + 6)) (cap - (p + 6)) dd wx (Nat.lt_of_lt_of_le hcl hbx.size) (fun i hi => by rw [Nat.add_assoc, unhide HC0 wx hbx (p + 6 + i) (by omega), unhide HDg i (by omega)]) (unhide HDr) (by omega) (by omega))
            rw [hddl] at HLF
            have y5 : (p : Int) ≤ (p : Int) + 6 + (N : Int) := by omega
            have y6 : ¬ cap = p := by omega
            have y11 : ¬ p = cap := by omega
            have hS0 := unhide HCT wr2 (unhide HB2)
            have hS1 := unhide HCT wr2.drew (below_drewN (unhide HB2) 1)
            go_wp2_with fail
            obtain ⟨M, hM⟩ : ∃ M : Nat, (p : Int) + 6 + (N : Int) = (M : Int) := ⟨p + 6 + N, by omega⟩
            have y7 : (M : Int) ≤ (cap : Int) := by omega
            have y8 : (p : Int) ≤ (M : Int) := by omega
            have y9 : p ≤ M := by omega
            have y10 : M ≤ cap := by omega
            have y12 : M - p = 6 + N := by omega
            have y13 : IntKind.i64.wrap (M : Int) = (M : Int) := wrapI _ (by omega) (by omega)
            have y15 : IntKind.i64.wrap ((p : Int) + 6) = (p : Int) + 6 := wrapI _ (by omega) (by omega)
            have y14 : IntKind.i64.wrap ((p : Int) + 6 + (N : Int)) = (M : Int) := by rw [hM]; exact y13
            clear y1 y2 y3 y4 y5 hq1 hq2 z2 z3 q6 q7 p1
            go_region_with ((go_at_call 74; refine (unhide HLF _ (below_drewN (unhide HB2) 1)).mono ?_; rintro e w4 ⟨v4, rfl, hO4, hb4⟩; have hcv4 := conv_own (P := Try.prog) 66 9 5 Try.underlying66 Try.underlying5 Try.underlying9 hO4.1; have hS4 := unhide HCT _ ((below_drewN (unhide HB2) 1).trans (hb4.mono (below_drewN (unhide HB2) 1).size))))
            all_goals
              have HB4 := hide ((below_drewN (unhide HB2) 1).trans (hb4.mono (below_drewN (unhide HB2) 1).size))
              have HO4 := hide ((unhide HO2).below (show Below wr2.heap.size wr2 w4 from (below_drewN (Below.refl _ wr2) 1).trans hb4))
              have hSI := hide (str_inj hO4.2 (unhide HTr))
              clear hO4 hb4 hcv4 hS4 hS0 hS1 HLF HCT HO2 HB2
              by_cases heq : frameL dd = tt
              · have hbq : ((strOfNums (frameL dd)).toList == (strOfNums tt).toList) = true := by rw [heq]; simp
                have hE : frStep (l.drop p) = (0, dd) := by rw [unhide HFs, if_pos ((unhide HFi).1 heq)]
                have HAn := hide (unhide HNx dd hE)
                rw [hddl] at HAn
                have hcd := unhide HCD w4 (unhide HB4)
                have hB4s := (unhide HB4).size
                clear hE heq
                generalize (strOfNums (frameL dd)).toList = s1 at *
                generalize (strOfNums tt).toList = s2 at *
                obtain rfl : s1 = s2 := by simpa using hbq
                clear hbq
                go_wp2_with (at_builtin; refine wpList_append_lies _ rfl _ _ _ rfl w.heap.size 9 i0 _ 1 16 Try.underlying22 hi hz0 hz1 hz2 rfl (by omega) u5 (ds.map strOfNums).length _ rfl (World.ownsRow.alloc (unhide HO4) _) ⟨w4.heap.size, 0, none⟩ 1 1 [_] rfl rfl (World.news_of_block (cs := #[_]) (t := 9) (fr := (0, 0)) (heap_alloc_new w4 _)) (by simp [Value.oneCell']) (by omega) (by unfold maxLen; simp; omega) (by simp; omega) (by simp; omega) _ rfl ?_; intro g5 cap5 w5 hown5 hgrow5 hat5 hlt5; have R5 := hide (And.intro hown5 (((unhide HB4).alloc hB4s _).grown hgrow5 (by simp; omega) (fun r hr => ((unhide HO4).lt r hr).1))); clear hown5 hgrow5 hat5 hlt5)
                all_goals try (exfalso; rename_i hbad; simp at hbad; done)
                refine ⟨⟨p + 6 + N, ds ++ [dd], by go_num, unhide HAn, ?_, (unhide R5).2⟩, ?_⟩
                · have hR5 := (unhide R5).1
                  rw [List.length_map] at hR5
                  unfold OwnS
                  rw [List.map_append, List.map_append, List.length_append, List.length_map]
                  exact hR5
                · simp [intOf]; omega
              · have hbq : ((strOfNums (frameL dd)).toList == (strOfNums tt).toList) = false := by rw [beq_eq_false_iff_ne]; exact fun e => heq ((unhide hSI).1 (toList_inj e))
                have hE : frStep (l.drop p) = (8, []) := by rw [unhide HFs, if_neg (fun e => heq ((unhide HFi).2 e))]
                have hst := hide (unhide HSt (by rw [hE]; decide))
                rw [hE] at hst
                clear hE heq
                generalize (strOfNums (frameL dd)).toList = s1 at *
                generalize (strOfNums tt).toList = s2 at *
                have hs12 : ¬ s1 = s2 := by simpa using hbq
                have hs13 : (!(s1 == s2)) = true := by rw [hbq]; rfl
                go_wp2_with fail
                all_goals try (exfalso; have hz : (!(s1 == s2)) = false := by assumption
                               rw [hs13] at hz; cases hz; done)
                refine bodyPost_ret (v := .tuple #[_, .int .i64 p, .int .i64 8]) (by simp [results, Try.results61, go_sem]; rfl) rfl ?_
                rw [unhide hst]
                exact ⟨_, rfl, unhide HO4, unhide HB4⟩
          · have E := hide (show frStep (l.drop p) = (16, []) by unfold frStep; rw [if_neg (by omega), unhide HN, if_neg (by rw [hin]; simp), if_pos (by omega)])
            have z3 : (l.length : Int) - (p : Int) - 6 < (N : Int) := by omega
            go_wp2_with fail
            refine bodyPost_ret (v := .tuple #[_, .int .i64 p, .int .i64 16]) (by simp [results, Try.results61, go_sem]; rfl) rfl ?_
            have hst := unhide HSt (by rw [unhide E]; decide)
            rw [unhide E] at hst
            rw [hst]
            exact ⟨_, rfl, unhide HO2, unhide HB2⟩
        · have E := hide (show frStep (l.drop p) = (8, []) by unfold frStep; rw [if_neg (by omega), unhide HN, if_pos (by simpa using hin)])
          have hN2 := inB_no (by simpa using hin)
          by_cases hN0 : N = 0
          · subst hN0
            go_wp2_with fail
            refine bodyPost_ret (v := .tuple #[_, .int .i64 p, .int .i64 8]) (by simp [results, Try.results61, go_sem]; rfl) rfl ?_
            have hst := unhide HSt (by rw [unhide E]; decide)
            rw [unhide E] at hst
            rw [hst]
            exact ⟨_, rfl, unhide HO2, unhide HB2⟩
          · have z1 : ((N : Int) == 0) = false := by rw [beq_eq_false_iff_ne]; omega
            have z2 : (200 : Int) < (N : Int) := by omega
            go_wp2_with fail
            refine bodyPost_ret (v := .tuple #[_, .int .i64 p, .int .i64 8]) (by simp [results, Try.results61, go_sem]; rfl) rfl ?_
            have hst := unhide HSt (by rw [unhide E]; decide)
            rw [unhide E] at hst
            rw [hst]
            exact ⟨_, rfl, unhide HO2, unhide HB2⟩
    · have HE := hide ((unhide HA).done hp)
      have p1 : ¬ (p : Int) < (l.length : Int) := by omega
      go_wp2_with fail
      refine bodyPost_ret (v := .tuple #[_, .int .i64 p, .int .i64 0]) (by simp [results, Try.results61, go_sem]; rfl) rfl ?_
      rw [unhide HE]
      exact ⟨_, rfl, unhide HO, unhide HB⟩

end Go.Proofs.Ytpdjfjapdmopoaa
namespace Go.Proofs.Ytpdjfjapdmopoaa
open Go.ChangeShapes Go.WideShapes Go.ChangeAt Go.RowKit
set_option linter.unusedVariables false
set_option linter.unusedSimpArgs false

theorem Blk.belowB {B b : Nat} {w w' : World} {vs : List Value} (h : Blk w b vs) (hb : Below B w w') (hlt : b < B) : Blk w' b vs :=
  h.kept (T := fun k => B ≤ k) ⟨hb.os, hb.tape, hb.output, hb.size, fun k _ hn => hb.block k (by omega)⟩ (by omega)
theorem touch_after {T : Nat → Prop} {wz w6 w7 : World} (hb : Below wz.drew.heap.size wz.drew w6) (h : Touch T w6 w7) : Touch T wz w7 :=
  ((Touch.refl T wz).drew).trans (T' := T) ((Touch.ofBelow (T := T) hb).trans h (fun _ _ e => e)) (fun _ _ e => e)
theorem add_off (b o j : Nat) : (⟨b, o, none⟩ : Addr).add j = ⟨b, o + j, none⟩ := by unfold Addr.add; split <;> simp_all
/-- The log copied into the answer's cells. -/
theorem sp_ret {w w1 wz : World} {lb : Nat} {lv : Value} {nums : List Int} {L : Lg} {rv nv : Value} (h : SpR (w.heap.size + 2) lb w1 lv nums L rv nv wz) (hr : Blk wz (w.heap.size + 1) [.int .i64 0, .slice none 0 0, .slice none 0 0, .int .i64 0]) (hb : Below w.heap.size w w1) (hle : w.heap.size ≤ w1.heap.size) :
    Blk ((((wz.setCell ⟨w.heap.size + 1, 0, none⟩ (.int .i64 L.first)).setCell ⟨w.heap.size + 1, 1, none⟩ rv).setCell ⟨w.heap.size + 1, 2, none⟩ nv).setCell ⟨w.heap.size + 1, 3, none⟩ (.int .i64 L.torn)) (w.heap.size + 1) [.int .i64 L.first, rv, nv, .int .i64 L.torn] ∧
    (OwnS (w.heap.size + 2) ((((wz.setCell ⟨w.heap.size + 1, 0, none⟩ (.int .i64 L.first)).setCell ⟨w.heap.size + 1, 1, none⟩ rv).setCell ⟨w.heap.size + 1, 2, none⟩ nv).setCell ⟨w.heap.size + 1, 3, none⟩ (.int .i64 L.torn)) rv L.recs ∧ OwnS (w.heap.size + 2) ((((wz.setCell ⟨w.heap.size + 1, 0, none⟩ (.int .i64 L.first)).setCell ⟨w.heap.size + 1, 1, none⟩ rv).setCell ⟨w.heap.size + 1, 2, none⟩ nv).setCell ⟨w.heap.size + 1, 3, none⟩ (.int .i64 L.torn)) nv L.names) ∧
    Below w.heap.size w ((((wz.setCell ⟨w.heap.size + 1, 0, none⟩ (.int .i64 L.first)).setCell ⟨w.heap.size + 1, 1, none⟩ rv).setCell ⟨w.heap.size + 1, 2, none⟩ nv).setCell ⟨w.heap.size + 1, 3, none⟩ (.int .i64 L.torn)) := by
  have T5 := (((((Touch.refl (fun k => k = w.heap.size + 1) wz).setCell ⟨w.heap.size + 1, 0, none⟩ (.int .i64 L.first) (fun _ => rfl)).setCell ⟨w.heap.size + 1, 1, none⟩ rv (fun _ => rfl)).setCell ⟨w.heap.size + 1, 2, none⟩ nv (fun _ => rfl)).setCell ⟨w.heap.size + 1, 3, none⟩ (.int .i64 L.torn) (fun _ => rfl))
  refine ⟨(((hr.set 0 (.int .i64 L.first) (by simp)).set 1 rv (by simp)).set 2 nv (by simp)).set 3 (.int .i64 L.torn) (by simp), ⟨h.rcs.kept T5 (fun k hk e => by have := (h.rcs.lt k hk).1; omega), h.nam.kept T5 (fun k hk e => by have := (h.nam.lt k hk).1; omega)⟩, ?_⟩
  have h1 := hb.trans (h.bel.mono (by omega))
  exact h1.trans (T5.below (B := w.heap.size) h1.size (fun k hk e => by omega))

set_option maxRecDepth 100000 in
set_option maxHeartbeats 2000000 in
theorem l04Read_any (room : Int) (v : Value) (l : List Fl) (w : World) (h : Fls w v l) (hd : diskB room l = true) (hs : Small l) :
    Calls Try.prog 45 #[.agg #[.int .i64 room, v]] w fun e w' => ∃ f ra rn rc na nn nc t, e = .returned (.tuple #[.agg #[.int .i64 f, .slice ra rn rc, .slice na nn nc, .int .i64 t], .int .i64 (lgRun (segsP l) 0).2]) ∧ ((lgRun (segsP l) 0).2 = 0 → f = (lgRun (segsP l) 0).1.first ∧ t = (lgRun (segsP l) 0).1.torn ∧ WalA (w.heap.size + 2) w' (lgRun (segsP l) 0).1 (.slice ra rn rc) (.slice na nn nc)) ∧ Below w.heap.size w w' := by
  have HF := hide h
  have HS := hide hs
  have HD := hide hd
  have HLn := hide (disk_len hd)
  obtain ⟨a, cap, rfl, hn, hm, hc⟩ := h
  clear hc hm hn hs hd
  have BA := ((((Below.refl w.heap.size w).alloc (Nat.le_refl _) (.cells #[.int .i64 room, .slice a l.length cap] 41)).alloc (by simp) (.cells #[.int .i64 0, .slice none 0 0, .slice none 0 0, .int .i64 0] 59)).alloc (by simp; omega) (.cells #[] 9)).alloc (by simp; omega) (.cells #[] 9)
  have X0 := (((((Blk.new w #[.int .i64 room, .slice a l.length cap] 41 w.heap.size rfl).alloc (.cells #[.int .i64 0, .slice none 0 0, .slice none 0 0, .int .i64 0] 59)).alloc (.cells #[] 9)).alloc (.cells #[] 9)).alloc (.cells #[.int .i64 0, .slice (some ⟨w.heap.size + 1 + 1, 0, none⟩) 0 0, .slice (some ⟨w.heap.size + 1 + 1 + 1, 0, none⟩) 0 0, .int .i64 0] 59))
  have R0 := ((((Blk.new (w.alloc (.cells #[.int .i64 room, .slice a l.length cap] 41)) #[.int .i64 0, .slice none 0 0, .slice none 0 0, .int .i64 0] 59 (w.heap.size + 1) (by simp)).alloc (.cells #[] 9)).alloc (.cells #[] 9)).alloc (.cells #[.int .i64 0, .slice (some ⟨w.heap.size + 1 + 1, 0, none⟩) 0 0, .slice (some ⟨w.heap.size + 1 + 1 + 1, 0, none⟩) 0 0, .int .i64 0] 59))
  have O1 := ownS_empty ((w.alloc (.cells #[.int .i64 room, .slice a l.length cap] 41)).alloc (.cells #[.int .i64 0, .slice none 0 0, .slice none 0 0, .int .i64 0] 59)) (w.heap.size + 2) (w.heap.size + 1 + 1) (by simp) (by simp)
  have O2 := ownS_empty (((w.alloc (.cells #[.int .i64 room, .slice a l.length cap] 41)).alloc (.cells #[.int .i64 0, .slice none 0 0, .slice none 0 0, .int .i64 0] 59)).alloc (.cells #[] 9)) (w.heap.size + 2) (w.heap.size + 1 + 1 + 1) (by simp) (by simp)
  have L0 := Blk.new ((((w.alloc (.cells #[.int .i64 room, .slice a l.length cap] 41)).alloc (.cells #[.int .i64 0, .slice none 0 0, .slice none 0 0, .int .i64 0] 59)).alloc (.cells #[] 9)).alloc (.cells #[] 9)) #[.int .i64 0, .slice (some ⟨w.heap.size + 1 + 1, 0, none⟩) 0 0, .slice (some ⟨w.heap.size + 1 + 1 + 1, 0, none⟩) 0 0, .int .i64 0] 59 (w.heap.size + 1 + 1 + 1 + 1) (by simp)
  have HX0 := hide X0
  have HR0 := hide R0
  have HL0 := hide L0
  have al : ∀ (w : World) (o : Obj), Below w.heap.size w (w.alloc o) := fun w o => (Below.refl _ w).alloc (Nat.le_refl _) o
  have HO1 := hide ((O1.below (al _ (.cells #[] 9))).below (al _ (.cells #[.int .i64 0, .slice (some ⟨w.heap.size + 1 + 1, 0, none⟩) 0 0, .slice (some ⟨w.heap.size + 1 + 1 + 1, 0, none⟩) 0 0, .int .i64 0] 59)))
  have HO2 := hide (O2.below (al _ (.cells #[.int .i64 0, .slice (some ⟨w.heap.size + 1 + 1, 0, none⟩) 0 0, .slice (some ⟨w.heap.size + 1 + 1 + 1, 0, none⟩) 0 0, .int .i64 0] 59)))
  have HB0 := hide (BA.alloc (by simp; omega) (.cells #[.int .i64 0, .slice (some ⟨w.heap.size + 1 + 1, 0, none⟩) 0 0, .slice (some ⟨w.heap.size + 1 + 1 + 1, 0, none⟩) 0 0, .int .i64 0] 59))
  clear BA X0 R0 O1 O2 L0 al
  go_enter Try.func45, Try.ntmps45
  go_wp2_with fail
  generalize ((((w.alloc (.cells #[.int .i64 room, .slice a l.length cap] 41)).alloc (.cells #[.int .i64 0, .slice none 0 0, .slice none 0 0, .int .i64 0] 59)).alloc (.cells #[] 9)).alloc (.cells #[] 9)).alloc (.cells #[.int .i64 0, .slice (some ⟨w.heap.size + 1 + 1, 0, none⟩) 0 0, .slice (some ⟨w.heap.size + 1 + 1 + 1, 0, none⟩) 0 0, .int .i64 0] 59) = w0 at *
  refine (l04Segments_any room _ l w0 ((unhide HF).below (unhide HB0)) (unhide HLn) (fun i hi => ((unhide HS).2.2 i).1)).mono ?_
  rintro e w1 ⟨lv, rfl, hN1, hb1⟩
  obtain ⟨la, ln, lc, rfl⟩ : ∃ la ln lc, lv = .slice la ln lc := by
    rcases own_shape hN1 with ⟨h, _⟩ | ⟨g, c, h, _⟩
    · exact ⟨_, _, _, h⟩
    · exact ⟨_, _, _, h⟩
  have hln : ln = (segsP l).length := by
    have h1 := nums_len l
    rcases own_shape hN1 with ⟨h, h0⟩ | ⟨g, c, h, _⟩
    · cases h; omega
    · cases h; omega
  have hz0 : w.heap.size + 5 ≤ w0.heap.size := (unhide HL0).1
  have HX1 := hide ((unhide HX0).below hb1)
  have HR1 := hide ((unhide HR0).below hb1)
  have HWB0 := hide ((unhide HB0).trans (hb1.mono (unhide HB0).size))
  have HSP : Hid (SpR (w.heap.size + 2) (w.heap.size + 1 + 1 + 1 + 1) w1 (.slice la ln lc) (numsP l) lg0 (.slice (some ⟨w.heap.size + 1 + 1, 0, none⟩) 0 0) (.slice (some ⟨w.heap.size + 1 + 1 + 1, 0, none⟩) 0 0) w1) := hide ⟨Below.refl _ _, (unhide HL0).below hb1, (unhide HO1).below hb1, (unhide HO2).below hb1, fun k hk e => by
    have h1 : w.heap.size + 1 + 1 = k := by simpa [Value.ownBlock] using hk
    have h2 : w.heap.size + 1 + 1 + 1 = k := by simpa [Value.ownBlock] using e
    omega, fun k hk => by
    have h1 : w.heap.size + 1 + 1 = k := by simpa [Value.ownBlock] using hk
    omega, fun k hk => by
    have h1 : w.heap.size + 1 + 1 + 1 = k := by simpa [Value.ownBlock] using hk
    omega, World.ownsRow.mono hN1 (by omega), fun k hk => by have := (World.ownsRow.lt hN1 k hk).1; omega, by omega, Nat.le_trans (by omega) hb1.size⟩
  have hz1 := hb1.size
  clear hN1 hb1 HX0 HR0 HL0 HO1 HO2 HB0
  have hsg8 := segs_len l (unhide HLn)
  have HSM : Hid (∀ k, k < (segsP l).length → ((segsP l).getD k default).d.size ≤ 3000 ∧ ((segsP l).getD k default).n.size ≤ 1048576) := hide (fun k hk => by
    obtain ⟨i0, hi, he, _⟩ := seg_at (unhide HD) k hk
    rw [← he]
    exact ⟨file_small (unhide HD) i0 hi, ((unhide HS).2.2 i0).1⟩)
  have HAT := hide (fun k hk => seg_at (unhide HD) k hk)
  have HNG := hide (fun k hk => nums_get l k hk)
  have HNLn := hide (nums_len l)
  have HRC := hide (lgAt_recs (segsP l) (fun f hf => seg_small (unhide HD) f (List.mem_filter.1 hf).1))
  generalize hsgg : segsP l = sg at *
  have HSGE := hide hsgg
  clear hsgg
  subst hln
  generalize w.heap.size + 1 + 1 + 1 + 1 = lb at *
  have hlast : IntKind.i64.wrap ((sg.length : Int) - 1) = (sg.length : Int) - 1 := wrapSg _ (by omega) (by omega)
  go_wp2_with fail
  go_loopw [6] (fun i wr => ∃ (k : Nat) (ra : Option Addr) (rn rc : Nat) (na : Option Addr) (nn nc : Nat), k ≤ sg.length ∧ i = .int .i64 k ∧ lgGood sg k ∧ SpR (w.heap.size + 2) lb w1 (.slice la sg.length lc) (numsP l) (lgAt sg k) (.slice ra rn rc) (.slice na nn nc) wr ∧ 0 ≤ (lgAt sg k).first ∧ (lgAt sg k).first < 4294967296) (fun i _ => sg.length - (intOf i).toNat)
  case atStart => exact ⟨0, _, _, _, _, _, _, Nat.zero_le _, rfl, lgGood.zero sg, unhide HSP, by show (0 : Int) ≤ 0; omega, by show (0 : Int) < 4294967296; omega⟩
  case round =>
    obtain ⟨k, ra, rn, rc, na, nn, nc, hk, rfl, hgood, hR, hBF⟩ := hrel
    have HBF := hide hBF
    have HGO := hide hgood
    have HR := hide hR
    have HRB := hide ((unhide HR1).belowB hR.bel (by omega))
    have hzr := hR.bel.size
    clear hBF hgood HSP
    by_cases hlt : k < sg.length
    · have HX := hide ((unhide HX1).belowB hR.bel (by omega))
      clear hR
      obtain ⟨i0, hi0, hfl, hpl, hno⟩ := unhide HAT k hlt
      obtain ⟨hds, hns⟩ := unhide HSM k hlt
      have hk0 : (0 : Int) ≤ (k : Int) := by omega
      have hk1 : (k : Int) < (sg.length : Int) := by omega
      have hll : l.length ≤ 1048576 := by have := unhide HLn; omega
      obtain ⟨g, rfl⟩ : ∃ g, la = some ⟨g, 0, none⟩ := by
        rcases own_shape (unhide HR).num with ⟨h, _⟩ | ⟨g, c, h, _⟩
        · obtain ⟨_, h2, _⟩ := Value.slice.inj h
          omega
        · obtain ⟨h1, _, _⟩ := Value.slice.inj h
          exact ⟨g, h1⟩
      have hpr := plc_range (sg.getD k default).n
      have hseg := segN_plc hpl
      have hcl := OwnN.cell (unhide HR).num k (by rw [unhide HNLn]; exact hlt)
      rw [unhide HNG k hlt] at hcl
      have HDT := hide (fun (p : Wb wr) => l04Data_any room (.slice a l.length cap) l (plcP (sg.getD k default).n) i0 p.at_ ((unhide HF).below (((unhide HWB0).trans ((unhide HR).bel.mono (by omega))).trans (p.below.mono (by have := (unhide HWB0).size; omega)))) hi0 hll hpr.1 hpr.2 (by rw [hfl, hseg]) (fun j hj => by rw [hseg]; exact hno j hj))
      have HNAME := hide (fun wx => l04Name_any (plcP (sg.getD k default).n) wx hpr.1 hpr.2)
      rw [hseg] at HNAME
      rw [hfl] at HDT
      have HPL := hide hpl
      clear hno hfl hseg hpl
      obtain ⟨f, hff⟩ : ∃ f, f = sg.getD k default := ⟨_, rfl⟩
      rw [← hff] at hds hns hcl HDT HNAME hpr HPL
      have HFX := hide hff.symm
      clear hff
      obtain ⟨fn, fd, fs⟩ := f
      dsimp only at hds hns hcl HDT HNAME hpr HPL
      have zb := (unhide HR).box.1
      have zx := (unhide HX).1
      have zl := World.block_lt_of_cell? wr _ hcl
      dsimp only at zl
      have d0 := Wb.cell ((unhide HX).cell 0 rfl) zx
      have d1 := Wb.cell ((unhide HX).cell 1 rfl) zx
      have d2 := Wb.cell hcl zl
      go_wp2_with fail
      refine wp_region_wb (by kernel_rfl) (by kernel_rfl) ?_
      repeat (go_big_quiet_step ((go_at_call 60; exact wb_of (unhide HDT _))))
      refine wpQuiet_nil ?_
      intro w2 hw'
      obtain ⟨⟨wq, hb2⟩, hq⟩ := hw'
      change w2 = wq at hq
      subst hq
      have HR2 := hide ((unhide HR).below hb2)
      have HRB2 := hide ((unhide HRB).below hb2)
      have hcl2 := (hb2.cell (p := ⟨g, k, none⟩) zl).trans hcl
      have hz2 := hb2.size
      have HNBW : Hid (∀ j, (Value.slice na nn nc).ownBlock = some j → j < wr.heap.size) := hide (fun j hj => ((unhide HR).nam.lt j hj).2)
      clear hb2 d0 d1 d2 HX HDT HR HRB hcl
      obtain ⟨cap3, w3, hcv, hRd3, hb3⟩ := str_bytes fd w2 (by unfold maxLen; omega)
      have HRd := hide hRd3
      have HR3 := hide ((unhide HR2).below hb3)
      have HRB3 := hide ((unhide HRB2).below hb3)
      have hcl3 := (hb3.cell (p := ⟨g, k, none⟩) (Nat.lt_of_lt_of_le zl hz2)).trans hcl2
      have hz3 := hb3.size
      go_wp2_with fail
      clear hcv hRd3 hb3 HR2 HRB2 hcl2
      refine (l02Frames_any _ _ (bytesI fd) w3 (unhide HRd) (by rw [bytesI_len2]; omega)).mono ?_
      rintro e w4 ⟨dv, rfl, hO4, hb4⟩
      have HR4 := hide ((unhide HR3).below hb4)
      have HRB4 := hide ((unhide HRB3).below hb4)
      have hcl4 := (hb4.cell (p := ⟨g, k, none⟩) (Nat.lt_of_lt_of_le zl (Nat.le_trans hz2 hz3))).trans hcl3
      have hz4 := hb4.size
      have HFR : Hid (frP (bytesI fd) 0 = frF ⟨fn, fd, fs⟩) := hide rfl
      rw [unhide HFR] at hO4 ⊢
      obtain ⟨da, dc, rfl⟩ : ∃ da dc, dv = .slice da (frF ⟨fn, fd, fs⟩).1.length dc := by
        obtain ⟨a', c', h'⟩ := ownS_form hO4
        rw [List.length_map] at h'
        exact ⟨a', c', h'⟩
      have HO4 := hide hO4
      have HDN : Hid (∀ j, (Value.slice da (frF ⟨fn, fd, fs⟩).1.length dc).ownBlock = some j → w3.heap.size ≤ j) := hide (fun j hj => (hO4.lt j hj).1)
      have hlen : (frF ⟨fn, fd, fs⟩).1.length ≤ 3000 := Nat.le_trans (frF_len ⟨fn, fd, fs⟩) hds
      have hpos := frF_pos ⟨fn, fd, fs⟩
      dsimp only at hpos
      clear hb4 hO4 HR3 HRB3 HRd hcl3
      obtain ⟨wh, hwh⟩ : ∃ wh : Nat, wh = (frF ⟨fn, fd, fs⟩).2.1 := ⟨_, rfl⟩
      obtain ⟨bh, hbh⟩ : ∃ bh : Int, bh = (frF ⟨fn, fd, fs⟩).2.2 := ⟨_, rfl⟩
      rw [← hwh] at hpos
      rw [← hwh, ← hbh]
      have HWB := hide (And.intro hwh hbh)
      clear hwh hbh
      obtain ⟨fl, hfl⟩ : ∃ fl : Nat, fl = (frF ⟨fn, fd, fs⟩).1.length := ⟨_, rfl⟩
      rw [← hfl] at hlen HO4 HDN ⊢
      have HFL := hide hfl
      clear hfl
      go_upto_region 9 with fail
      go_cut [52] (fun s wx => s = .bool (decide (bh = 8 ∨ (bh = 16 ∧ k + 1 < sg.length))) ∧ wx = w4)
      case first =>
        rcases (show bh = 8 ∨ (bh = 16 ∧ k + 1 < sg.length) ∨ (bh ≠ 8 ∧ bh ≠ 16) ∨ (bh = 16 ∧ k + 1 = sg.length) by omega) with hb8 | ⟨hb16, hk2⟩ | ⟨hn8, hn16⟩ | ⟨hb16, hk2⟩
        · have HDD := hide (show decide (bh = 8 ∨ (bh = 16 ∧ k + 1 < sg.length)) = true by rw [decide_eq_true_eq]; exact .inl hb8)
          have e8 : (bh == 8) = true := by rw [beq_iff_eq]; exact hb8
          clear hb8
          go_wp2_with fail
          go_meet
          exact ⟨congrArg Value.bool (unhide HDD).symm, rfl⟩
        · have HDD := hide (show decide (bh = 8 ∨ (bh = 16 ∧ k + 1 < sg.length)) = true by rw [decide_eq_true_eq]; exact .inr ⟨hb16, hk2⟩)
          have e8 : (bh == 8) = false := by rw [beq_eq_false_iff_ne]; omega
          have e16 : (bh == 16) = true := by rw [beq_iff_eq]; exact hb16
          have e3 : ((k : Int) == (sg.length : Int) - 1) = false := by rw [beq_eq_false_iff_ne]; omega
          clear hb16 hk2
          go_wp2_with fail
          go_meet
          exact ⟨congrArg Value.bool (unhide HDD).symm, rfl⟩
        · have HDD := hide (show decide (bh = 8 ∨ (bh = 16 ∧ k + 1 < sg.length)) = false by rw [decide_eq_false_iff_not]; omega)
          have e8 : (bh == 8) = false := by rw [beq_eq_false_iff_ne]; exact hn8
          have e16 : (bh == 16) = false := by rw [beq_eq_false_iff_ne]; exact hn16
          clear hn8 hn16
          go_wp2_with fail
          go_meet
          exact ⟨congrArg Value.bool (unhide HDD).symm, rfl⟩
        · have HDD := hide (show decide (bh = 8 ∨ (bh = 16 ∧ k + 1 < sg.length)) = false by rw [decide_eq_false_iff_not]; omega)
          have e8 : (bh == 8) = false := by rw [beq_eq_false_iff_ne]; omega
          have e16 : (bh == 16) = true := by rw [beq_iff_eq]; exact hb16
          have e3 : ((k : Int) == (sg.length : Int) - 1) = true := by rw [beq_iff_eq]; omega
          clear hb16 hk2
          go_wp2_with fail
          go_meet
          exact ⟨congrArg Value.bool (unhide HDD).symm, rfl⟩
      case rest =>
        obtain ⟨rfl, hwc⟩ := hcut
        have hwc2 := hwc.symm
        clear hwc
        subst hwc2
        cases hd5 : decide (bh = 8 ∨ (bh = 16 ∧ k + 1 < sg.length))
        case true =>
          have hc : lgCode sg k (lgAt sg k) = 8 := by
            unfold lgCode
            rw [unhide HFX, ← (unhide HWB).2, if_pos (of_decide_eq_true hd5)]
          have HDB := hide ((unhide HGO).bad hlt (by rw [hc]; decide))
          rw [hc] at HDB
          clear hc hd5
          have l0 := (unhide HR4).box.cell 0 rfl
          have l1 := (unhide HR4).box.cell 1 rfl
          have l2 := (unhide HR4).box.cell 2 rfl
          have l3 := (unhide HR4).box.cell 3 rfl
          have r0 := (unhide HRB4).cell 0 rfl
          have r1 := (unhide HRB4).cell 1 rfl
          have r2 := (unhide HRB4).cell 2 rfl
          have r3 := (unhide HRB4).cell 3 rfl
          have f0 := (unhide HRB4).fro 0
          have f1 := (unhide HRB4).fro 1
          have f2 := (unhide HRB4).fro 2
          have f3 := (unhide HRB4).fro 3
          have RT := hide (sp_ret (unhide HR4) (unhide HRB4) (unhide HWB0) (by omega))
          go_wp2_with fail
          generalize (((w4.setCell ⟨w.heap.size + 1, 0, none⟩ (.int .i64 ((lgAt sg k)).first)).setCell ⟨w.heap.size + 1, 1, none⟩ (.slice ra rn rc)).setCell ⟨w.heap.size + 1, 2, none⟩ (.slice na nn nc)).setCell ⟨w.heap.size + 1, 3, none⟩ (.int .i64 ((lgAt sg k)).torn) = wf at *
          have z0 := (unhide RT).1.cell 0 rfl
          have z1 := (unhide RT).1.cell 1 rfl
          have z2 := (unhide RT).1.cell 2 rfl
          have z3 := (unhide RT).1.cell 3 rfl
          refine bodyPost_ret (v := .tuple #[.agg #[.int .i64 ((lgAt sg k)).first, (.slice ra rn rc), (.slice na nn nc), .int .i64 ((lgAt sg k)).torn], .int .i64 8]) (by simp [results, Try.results45, go_sem, z0, z1, z2, z3]) rfl ?_
          rw [unhide HSGE, unhide HDB]
          exact ⟨_, _, _, _, _, _, _, _, rfl, fun h => absurd h (by decide), (unhide RT).2.2⟩
        have HA : Hid (¬ ((frF (sg.getD k default)).2.2 = 8 ∨ ((frF (sg.getD k default)).2.2 = 16 ∧ k + 1 < sg.length))) := by
          rw [unhide HFX, ← (unhide HWB).2]
          exact hide (of_decide_eq_false hd5)
        clear hd5
        go_wp2_with fail
        go_cut [68] (fun s wx => s = .bool (decide (0 < k ∧ plcP fn ≠ plcP (sg.getD (k - 1) default).n + 1)) ∧ ∃ n, wx = w4.drewN n)
        case first =>
          rcases Nat.eq_zero_or_pos k with hk00 | hkp
          · have HDD := hide (show decide (0 < k ∧ plcP fn ≠ plcP (sg.getD (k - 1) default).n + 1) = false by rw [decide_eq_false_iff_not]; omega)
            have p0d : decide (0 < k) = false := by rw [decide_eq_false_iff_not]; omega
            clear hk00
            go_quiet (fail)
            go_wp2_with fail
            go_meet
            exact ⟨congrArg Value.bool (unhide HDD).symm, nq, rfl⟩
          · obtain ⟨kp, hkp1⟩ : ∃ kp : Nat, kp + 1 = k := ⟨k - 1, by omega⟩
            have hki : (k : Int) - 1 = (kp : Int) := by omega
            have mk : IntKind.i64.wrap (kp : Int) = (kp : Int) := wrapSg _ (by omega) (by omega)
            have hkpl : kp < sg.length := by omega
            have hkpi : (kp : Int) < (sg.length : Int) := by omega
            have hkpz : (0 : Int) ≤ (kp : Int) := by omega
            have hkpd : decide (0 < k) = true := by simpa using hkp
            have p0 := OwnN.cell (unhide HR4).num kp (by rw [unhide HNLn]; exact hkpl)
            rw [unhide HNG kp hkpl] at p0
            have HEQ : Hid (decide (0 < k ∧ plcP fn ≠ plcP (sg.getD (k - 1) default).n + 1) = (plcP fn != plcP (sg.getD kp default).n + 1)) := by
              rw [show k - 1 = kp by omega]
              exact hide (by rw [Bool.eq_iff_iff]; simp [hkp])
            have r2 := plc_range (sg.getD kp default).n
            have m2 := wrapSg (plcP (sg.getD kp default).n + 1) (by omega) (by omega)
            clear hkp1
            generalize plcP (sg.getD kp default).n = pl2 at *
            generalize plcP fn = pl1 at *
            go_quiet (fail)
            go_wp2_with fail
            go_meet
            exact ⟨congrArg Value.bool (unhide HEQ).symm, nq, rfl⟩
        case rest =>
          obtain ⟨rfl, n2, rfl⟩ := hcut
          have hbd := below_drewN (Below.refl w4.heap.size w4) n2
          have HR5 := hide ((unhide HR4).below hbd)
          have HRB5 := hide ((unhide HRB4).below hbd)
          have HO5 := hide ((unhide HO4).below hbd)
          have hcl5 : (w4.drewN n2).cell? ⟨g, k, none⟩ = _ := hcl4
          have hz5 : w4.heap.size ≤ (w4.drewN n2).heap.size := hbd.size
          clear hbd HR4 HRB4 HO4 hcl4
          generalize w4.drewN n2 = w5 at *
          cases hd7 : decide (0 < k ∧ plcP fn ≠ plcP (sg.getD (k - 1) default).n + 1)
          case true =>
            have hc : lgCode sg k (lgAt sg k) = 3 := by
              unfold lgCode
              rw [if_neg (unhide HA), unhide HFX, if_pos (of_decide_eq_true hd7)]
            have HDB := hide ((unhide HGO).bad hlt (by rw [hc]; decide))
            rw [hc] at HDB
            clear hc hd7
            have l0 := (unhide HR5).box.cell 0 rfl
            have l1 := (unhide HR5).box.cell 1 rfl
            have l2 := (unhide HR5).box.cell 2 rfl
            have l3 := (unhide HR5).box.cell 3 rfl
            have r0 := (unhide HRB5).cell 0 rfl
            have r1 := (unhide HRB5).cell 1 rfl
            have r2 := (unhide HRB5).cell 2 rfl
            have r3 := (unhide HRB5).cell 3 rfl
            have f0 := (unhide HRB5).fro 0
            have f1 := (unhide HRB5).fro 1
            have f2 := (unhide HRB5).fro 2
            have f3 := (unhide HRB5).fro 3
            have RT := hide (sp_ret (unhide HR5) (unhide HRB5) (unhide HWB0) (by omega))
            go_wp2_with fail
            generalize (((w5.setCell ⟨w.heap.size + 1, 0, none⟩ (.int .i64 ((lgAt sg k)).first)).setCell ⟨w.heap.size + 1, 1, none⟩ (.slice ra rn rc)).setCell ⟨w.heap.size + 1, 2, none⟩ (.slice na nn nc)).setCell ⟨w.heap.size + 1, 3, none⟩ (.int .i64 ((lgAt sg k)).torn) = wf at *
            have z0 := (unhide RT).1.cell 0 rfl
            have z1 := (unhide RT).1.cell 1 rfl
            have z2 := (unhide RT).1.cell 2 rfl
            have z3 := (unhide RT).1.cell 3 rfl
            refine bodyPost_ret (v := .tuple #[.agg #[.int .i64 ((lgAt sg k)).first, (.slice ra rn rc), (.slice na nn nc), .int .i64 ((lgAt sg k)).torn], .int .i64 3]) (by simp [results, Try.results45, go_sem, z0, z1, z2, z3]) rfl ?_
            rw [unhide HSGE, unhide HDB]
            exact ⟨_, _, _, _, _, _, _, _, rfl, fun h => absurd h (by decide), (unhide RT).2.2⟩
          have HB7 : Hid (¬ (0 < k ∧ plcP (sg.getD k default).n ≠ plcP (sg.getD (k - 1) default).n + 1)) := by
            rw [unhide HFX]; exact hide (of_decide_eq_false hd7)
          clear hd7
          have HNL := hide (lgAt_names sg k)
          obtain ⟨bl, hbl⟩ : ∃ bl : Bool, bl = ((k : Int) == (sg.length : Int) - 1) := ⟨_, rfl⟩
          rw [← hbl]
          rcases Nat.eq_zero_or_pos fl with hf0 | hfp
          · have HEMP : Hid ((frF ⟨fn, fd, fs⟩).1 = []) := hide (List.eq_nil_of_length_eq_zero (by rw [← unhide HFL]; exact hf0))
            have e0 : ((fl : Int) == 0) = true := by rw [beq_iff_eq]; omega
            by_cases hla : k + 1 = sg.length
            · obtain rfl : bl = true := by rw [hbl, beq_iff_eq]; omega
              clear hbl
              have hc : lgCode sg k (lgAt sg k) = 0 := by
                unfold lgCode
                rw [if_neg (unhide HA), if_neg (unhide HB7), unhide HFX, if_pos (unhide HEMP), if_pos hla]
              have HDB := hide (((unhide HGO).next hlt hc).done (by omega))
              have hq : lgAt sg (k + 1) = ⟨(lgAt sg k).first, (lgAt sg k).recs, (lgAt sg k).names ++ [fn], (fd.size : Int)⟩ := by
                show lgNext sg k (lgAt sg k) = _
                unfold lgNext
                have h0 := frP_none (bytesI fd) 0 (unhide HEMP)
                have h1 : (frF ⟨fn, fd, fs⟩).2.1 = 0 := h0
                rw [unhide HFX, unhide HEMP, h1]; simp
              rw [hq] at HDB
              clear hc hq hf0 hla
              go_wp2_with fail
              go_cut [84] (fun s wx => ∃ ga gn gc, SpR (w.heap.size + 2) lb w1 (.slice (some ⟨g, 0, none⟩) sg.length lc) (numsP l) ⟨(lgAt sg k).first, (lgAt sg k).recs, (lgAt sg k).names ++ [fn], (lgAt sg k).torn⟩ (.slice ra rn rc) (.slice ga gn gc) wx ∧ Touch (fun k => (Value.slice na nn nc).ownBlock = some k ∨ k = lb) w5 wx)
              case first =>
                have hbd := below_drewN (Below.refl w5.heap.size w5) 1
                have HRd := hide ((unhide HR5).below hbd)
                have l2 := (unhide HR5).box.cell 2 rfl
                have hnl : (lgAt sg k).names.length ≤ 8 := by rw [unhide HNL]; omega
                obtain ⟨i0', hi, hz0', hz1', hz2'⟩ := info_parts infoS
                clear hbd
                go_region_law (first
                  | (refine step_append_lies _ (by rfl) _ _ _ (by rfl) (w.heap.size + 2) 9 i0' _ 1 16 Try.underlying22 hi hz0' hz1' hz2' rfl (by omega) (.slice na nn nc) (lgAt sg k).names.length ((lgAt sg k).names.map Value.string) (by rfl) (hR6.nam.below ((Below.refl w6.heap.size w6).alloc (Nat.le_refl _) (.cells #[.string fn] 9))) ⟨w6.heap.size, 0, none⟩ 1 1 [_] (by rfl) (by rfl) (World.news_of_block (cs := #[_]) (t := 9) (fr := (0, 0)) (heap_alloc_new w6 _)) (by simp [Value.oneCell']) (by omega) (by unfold maxLen; omega) (by omega) (by have := hR6.lw; have := hR6.bel.size; simp; omega) (w6.heap.size + 1) (by simp) ?_; intro gg capg w7 hown7 hgrow7 hat7 hlt7; have P7 := hR6.named hown7 hgrow7 hat7; have hc7 := P7.1; have hf7 := P7.2.1)
                  | (go_simp; go_at_call 62; refine (unhide HNAME _).mono ?_; rintro e w6 ⟨rfl, hb6⟩; have hR6 := (unhide HRd).below hb6; have l2b := hR6.box.cell 2 rfl; have l2c := (((Below.refl w6.heap.size w6).alloc (Nat.le_refl _) (.cells #[.string fn] 9)).cell (p := ⟨lb, 2, none⟩) hR6.box.1).trans l2b; go_simp))
                all_goals
                  go_wp2_with fail
                  go_meet
                  exact ⟨_, _, _, P7.2.2.1, touch_after hb6 P7.2.2.2⟩
              case rest =>
                obtain ⟨ga, gn, gc, hRn, hTn⟩ := hcut
                have HRN := hide (hRn.setTorn (fd.size : Int))
                have l3 := hRn.box.cell 3 rfl
                have f3x := hRn.box.fro 3
                have HRBN := hide ((unhide HR1).belowB (unhide HRN).bel (by omega))
                clear HR5 HRB5 hTn hRn
                go_upto_region 18 with fail
                clear l3 f3x
                generalize wc.setCell ⟨lb, 3, none⟩ (.int .i64 (fd.size : Int)) = w9 at *
                obtain ⟨M, hM⟩ : ∃ M : Lg, M = ⟨(lgAt sg k).first, (lgAt sg k).recs, (lgAt sg k).names ++ [fn], (fd.size : Int)⟩ := ⟨_, rfl⟩
                rw [← hM] at HDB
                have HRM : Hid (SpR (w.heap.size + 2) lb w1 (.slice (some ⟨g, 0, none⟩) sg.length lc) (numsP l) M (.slice ra rn rc) (.slice ga gn gc) w9) := by rw [hM]; exact HRN
                clear HRN hM
                have l0 := (unhide HRM).box.cell 0 rfl
                have l1 := (unhide HRM).box.cell 1 rfl
                have l2 := (unhide HRM).box.cell 2 rfl
                have l3 := (unhide HRM).box.cell 3 rfl
                have r0 := (unhide HRBN).cell 0 rfl
                have r1 := (unhide HRBN).cell 1 rfl
                have r2 := (unhide HRBN).cell 2 rfl
                have r3 := (unhide HRBN).cell 3 rfl
                have f0 := (unhide HRBN).fro 0
                have f1 := (unhide HRBN).fro 1
                have f2 := (unhide HRBN).fro 2
                have f3 := (unhide HRBN).fro 3
                have RT := hide (sp_ret (unhide HRM) (unhide HRBN) (unhide HWB0) (by omega))
                go_wp2_with fail
                generalize (((w9.setCell ⟨w.heap.size + 1, 0, none⟩ (.int .i64 (M).first)).setCell ⟨w.heap.size + 1, 1, none⟩ (.slice ra rn rc)).setCell ⟨w.heap.size + 1, 2, none⟩ (.slice ga gn gc)).setCell ⟨w.heap.size + 1, 3, none⟩ (.int .i64 (M).torn) = wf at *
                have z0 := (unhide RT).1.cell 0 rfl
                have z1 := (unhide RT).1.cell 1 rfl
                have z2 := (unhide RT).1.cell 2 rfl
                have z3 := (unhide RT).1.cell 3 rfl
                refine bodyPost_ret (v := .tuple #[.agg #[.int .i64 (M).first, (.slice ra rn rc), (.slice ga gn gc), .int .i64 (M).torn], .int .i64 0]) (by simp [results, Try.results45, go_sem, z0, z1, z2, z3]) rfl ?_
                rw [unhide HSGE, unhide HDB]
                exact ⟨_, _, _, _, _, _, _, _, rfl, fun _ => ⟨rfl, rfl, (unhide RT).2.1.1, (unhide RT).2.1.2, (unhide HRM).dis, ownS_form (unhide RT).2.1.1, ownS_form (unhide RT).2.1.2⟩, (unhide RT).2.2⟩
            · obtain rfl : bl = false := by rw [hbl, beq_eq_false_iff_ne]; omega
              clear hbl
              have hc : lgCode sg k (lgAt sg k) = 3 := by
                unfold lgCode
                rw [if_neg (unhide HA), if_neg (unhide HB7), unhide HFX, if_pos (unhide HEMP), if_neg hla]
              have HDB := hide ((unhide HGO).bad hlt (by rw [hc]; decide))
              rw [hc] at HDB
              clear hc hf0 hla
              have l0 := (unhide HR5).box.cell 0 rfl
              have l1 := (unhide HR5).box.cell 1 rfl
              have l2 := (unhide HR5).box.cell 2 rfl
              have l3 := (unhide HR5).box.cell 3 rfl
              have r0 := (unhide HRB5).cell 0 rfl
              have r1 := (unhide HRB5).cell 1 rfl
              have r2 := (unhide HRB5).cell 2 rfl
              have r3 := (unhide HRB5).cell 3 rfl
              have f0 := (unhide HRB5).fro 0
              have f1 := (unhide HRB5).fro 1
              have f2 := (unhide HRB5).fro 2
              have f3 := (unhide HRB5).fro 3
              have RT := hide (sp_ret (unhide HR5) (unhide HRB5) (unhide HWB0) (by omega))
              go_wp2_with fail
              generalize (((w5.setCell ⟨w.heap.size + 1, 0, none⟩ (.int .i64 ((lgAt sg k)).first)).setCell ⟨w.heap.size + 1, 1, none⟩ (.slice ra rn rc)).setCell ⟨w.heap.size + 1, 2, none⟩ (.slice na nn nc)).setCell ⟨w.heap.size + 1, 3, none⟩ (.int .i64 ((lgAt sg k)).torn) = wf at *
              have z0 := (unhide RT).1.cell 0 rfl
              have z1 := (unhide RT).1.cell 1 rfl
              have z2 := (unhide RT).1.cell 2 rfl
              have z3 := (unhide RT).1.cell 3 rfl
              refine bodyPost_ret (v := .tuple #[.agg #[.int .i64 ((lgAt sg k)).first, (.slice ra rn rc), (.slice na nn nc), .int .i64 ((lgAt sg k)).torn], .int .i64 3]) (by simp [results, Try.results45, go_sem, z0, z1, z2, z3]) rfl ?_
              rw [unhide HSGE, unhide HDB]
              exact ⟨_, _, _, _, _, _, _, _, rfl, fun h => absurd h (by decide), (unhide RT).2.2⟩
          · clear hbl
            have e0 : ((fl : Int) == 0) = false := by rw [beq_eq_false_iff_ne]; omega
            have HNE : Hid (¬ (frF ⟨fn, fd, fs⟩).1 = []) := hide (fun h => by have := unhide HFL; rw [h] at this; simp at this; omega)
            obtain ⟨dg, rfl⟩ : ∃ dg, da = some ⟨dg, 0, none⟩ := by
              rcases own_shape (unhide HO5) with ⟨h, _⟩ | ⟨dg, c, h, _⟩
              · obtain ⟨_, h2, _⟩ := Value.slice.inj h
                omega
              · obtain ⟨h1, _, _⟩ := Value.slice.inj h
                exact ⟨dg, h1⟩
            have hfl0 : (0 : Int) < (fl : Int) := by omega
            have hget0 : ((frF ⟨fn, fd, fs⟩).1.map strOfNums).getD 0 ByteArray.empty = strOfNums ((frF ⟨fn, fd, fs⟩).1.getD 0 []) := by
              have hp0 : 0 < (frF ⟨fn, fd, fs⟩).1.length := by rw [← unhide HFL]; exact hfp
              rw [List.getD_eq_getElem?_getD, List.getElem?_map, List.getD_eq_getElem?_getD, List.getElem?_eq_getElem hp0]; rfl
            have q0 := OwnS.cell (unhide HO5) 0 (by rw [List.length_map, ← unhide HFL]; exact hfp)
            rw [hget0] at q0
            have hs0 := frF_each ⟨fn, fd, fs⟩ 0
            have hr0 := frF_range ⟨fn, fd, fs⟩ 0
            have HIF3 : Hid (∀ L : Lg, (if (frF ⟨fn, fd, fs⟩).1 = [] then L.first else if k = 0 then dec ((frF ⟨fn, fd, fs⟩).1.getD 0 []) else L.first) = (if k = 0 then dec ((frF ⟨fn, fd, fs⟩).1.getD 0 []) else L.first)) := hide (fun L => by rw [if_neg (unhide HNE)])
            have HCODE : Hid (∀ L : Lg, lgCode sg k L = if ((frF ⟨fn, fd, fs⟩).1.getD 0 []).length ≠ 4 then 3 else if 0 < k ∧ dec ((frF ⟨fn, fd, fs⟩).1.getD 0 []) ≠ L.first + L.recs.length then 3 else 0) := hide (fun L => by
              unfold lgCode
              rw [if_neg (unhide HA), if_neg (unhide HB7), unhide HFX, if_neg (unhide HNE)])
            have HNEXT : Hid (∀ L : Lg, lgNext sg k L = ⟨if k = 0 then dec ((frF ⟨fn, fd, fs⟩).1.getD 0 []) else L.first, L.recs ++ ((frF ⟨fn, fd, fs⟩).1.drop 1).map strOfNums, L.names ++ [fn], (fd.size : Int) - (wh : Int)⟩) := hide (fun L => by
              unfold lgNext
              rw [unhide HFX, unhide HIF3 L, (unhide HWB).1])
            generalize (frF ⟨fn, fd, fs⟩).1.getD 0 [] = d0 at *
            have hsz0 := strOfNums_size d0
            have HSZ0 := hide hsz0
            clear hsz0 hget0
            by_cases h4 : d0.length = 4
            case neg =>
              have e4 : (((strOfNums d0).size : Int) == 4) = false := by rw [unhide HSZ0, beq_eq_false_iff_ne]; omega
              have hc : lgCode sg k (lgAt sg k) = 3 := by rw [unhide HCODE, if_pos h4]
              have HDB := hide ((unhide HGO).bad hlt (by rw [hc]; decide))
              rw [hc] at HDB
              clear hc h4
              have l0 := (unhide HR5).box.cell 0 rfl
              have l1 := (unhide HR5).box.cell 1 rfl
              have l2 := (unhide HR5).box.cell 2 rfl
              have l3 := (unhide HR5).box.cell 3 rfl
              have r0 := (unhide HRB5).cell 0 rfl
              have r1 := (unhide HRB5).cell 1 rfl
              have r2 := (unhide HRB5).cell 2 rfl
              have r3 := (unhide HRB5).cell 3 rfl
              have f0 := (unhide HRB5).fro 0
              have f1 := (unhide HRB5).fro 1
              have f2 := (unhide HRB5).fro 2
              have f3 := (unhide HRB5).fro 3
              have RT := hide (sp_ret (unhide HR5) (unhide HRB5) (unhide HWB0) (by omega))
              go_wp2_with fail
              generalize (((w5.setCell ⟨w.heap.size + 1, 0, none⟩ (.int .i64 ((lgAt sg k)).first)).setCell ⟨w.heap.size + 1, 1, none⟩ (.slice ra rn rc)).setCell ⟨w.heap.size + 1, 2, none⟩ (.slice na nn nc)).setCell ⟨w.heap.size + 1, 3, none⟩ (.int .i64 ((lgAt sg k)).torn) = wf at *
              have z0 := (unhide RT).1.cell 0 rfl
              have z1 := (unhide RT).1.cell 1 rfl
              have z2 := (unhide RT).1.cell 2 rfl
              have z3 := (unhide RT).1.cell 3 rfl
              refine bodyPost_ret (v := .tuple #[.agg #[.int .i64 ((lgAt sg k)).first, (.slice ra rn rc), (.slice na nn nc), .int .i64 ((lgAt sg k)).torn], .int .i64 3]) (by simp [results, Try.results45, go_sem, z0, z1, z2, z3]) rfl ?_
              rw [unhide HSGE, unhide HDB]
              exact ⟨_, _, _, _, _, _, _, _, rfl, fun h => absurd h (by decide), (unhide RT).2.2⟩
            have e4 : (((strOfNums d0).size : Int) == 4) = true := by rw [unhide HSZ0, beq_iff_eq]; omega
            have H4 := hide h4
            clear h4
            obtain ⟨cap6, w6, hcv, hRd6, hb6⟩ := str_bytes (strOfNums d0) w5 (by rw [unhide HSZ0]; unfold maxLen; omega)
            have hbk : bytesI (strOfNums d0) = d0 := by
              have := bytes_back2 d0 hr0
              unfold bytesI
              exact this.symm
            rw [hbk] at hcv hRd6
            have HSR : Hid (SR (w6.alloc (.cells #[.slice (some ⟨w5.heap.size, 0, none⟩) d0.length cap6, .int .i64 0, .bool false] 101)) w6.heap.size (some ⟨w5.heap.size, 0, none⟩) cap6 d0 0 false) := hide (by
              have hB := Blk.new w6 #[.slice (some ⟨w5.heap.size, 0, none⟩) d0.length cap6, .int .i64 0, .bool false] 101 w6.heap.size rfl
              exact ⟨hB.cell 0 rfl, hB.cell 1 rfl, hB.cell 2 rfl, hB.2.2, hB.1, Nat.zero_le _, hRd6.kept (T := fun _ => False) (Nat.le_refl _) ((Touch.refl _ _).alloc _) (fun _ _ h => h), by omega⟩)
            have HB7x := hide (hb6.trans (((Below.refl w6.heap.size w6).alloc (Nat.le_refl _) (.cells #[.slice (some ⟨w5.heap.size, 0, none⟩) d0.length cap6, .int .i64 0, .bool false] 101)).mono hb6.size))
            have hz6 := hb6.size
            go_wp2_with fail
            clear hcv hRd6 hb6 hbk
            generalize w6.alloc (.cells #[.slice (some ⟨w5.heap.size, 0, none⟩) d0.length cap6, .int .i64 0, .bool false] 101) = w7 at *
            generalize w6.heap.size = rb at *
            refine (specNumber_any 4 4 rfl rb _ _ d0 0 w7 (unhide HSR) (by omega)).mono ?_
            rintro e w8 ⟨num, qq, bad, rfl, _, hyes, _, hT8, _⟩
            have hB8 := (unhide HB7x).trans (hT8.below (B := w5.heap.size) (unhide HB7x).size (fun k hk e => by omega))
            have HNM : Hid (num = dec d0) := hide (by
              rw [(hyes (by rw [unhide H4]; omega)).1, List.drop_zero]
              unfold dec
              rw [unhide H4])
            have hnb := decN_lo d0 hr0 4
            have hnm2 : 0 ≤ num ∧ num < 4294967296 := by
              rw [unhide HNM]; unfold dec; rw [unhide H4]; simpa using hnb
            have HR8 := hide ((unhide HR5).below hB8)
            have HRB8 := hide ((unhide HRB5).below hB8)
            have HO8 := hide ((unhide HO5).below hB8)
            have hcl8 := (hB8.cell (p := ⟨g, k, none⟩) (by simp; omega)).trans hcl5
            have hz8 := hB8.size
            clear hyes hT8 hB8 HB7x HSR HR5 HRB5 HO5 hcl5 hnb q0 e4 e0
            have HNBs : Hid (∀ j, (Value.slice na nn nc).ownBlock = some j → j < w3.heap.size) := hide (fun j hj => Nat.lt_of_lt_of_le (unhide HNBW j hj) (Nat.le_trans hz2 hz3))
            have hrn : rn = (lgAt sg k).recs.length := by
              obtain ⟨a', c', h'⟩ := ownS_form (unhide HR8).rcs
              exact (Value.slice.inj h').2.1
            have hrl := unhide HRC k (by omega)
            have hrl2 : rn ≤ 24000 := by omega
            have HRN0 := hide hrn
            clear hrn hrl
            have mw := wrapSg ((lgAt sg k).first + (rn : Int)) (by have := unhide HBF; omega) (by have := unhide HBF; omega)
            go_upto_if 105 with fail
            go_cut [105] (fun s wx => SpR (w.heap.size + 2) lb w1 (.slice (some ⟨g, 0, none⟩) sg.length lc) (numsP l) ⟨if k = 0 then num else (lgAt sg k).first, (lgAt sg k).recs, (lgAt sg k).names, (lgAt sg k).torn⟩ (.slice ra rn rc) (.slice na nn nc) wx ∧ Touch (fun k => k = lb) w8 wx ∧ (0 < k → num = (lgAt sg k).first + (rn : Int)))
            case first =>
              rcases Nat.eq_zero_or_pos k with hk00 | hkp
              · have e1 : ((k : Int) == 0) = true := by rw [beq_iff_eq]; omega
                have HIF := hide (show (if k = 0 then num else (lgAt sg k).first) = num from if_pos hk00)
                have HK0 := hide hk00
                have y0 := (unhide HR8).box.cell 0 rfl
                have f0 := (unhide HR8).box.fro 0
                have HR9 := hide ((unhide HR8).setFirst num)
                have HT9 := hide ((Touch.refl (fun k => k = lb) w8).setCell ⟨lb, 0, none⟩ (.int .i64 num) (fun _ => rfl))
                clear hk00
                go_wp2_with fail
                go_meet
                rw [unhide HIF]
                exact ⟨unhide HR9, unhide HT9, fun h => absurd (unhide HK0) (by omega)⟩
              · have e1 : ((k : Int) == 0) = false := by rw [beq_eq_false_iff_ne]; omega
                have HIF := hide (show (if k = 0 then num else (lgAt sg k).first) = (lgAt sg k).first from if_neg (by omega))
                have y0 := (unhide HR8).box.cell 0 rfl
                have y1 := (unhide HR8).box.cell 1 rfl
                by_cases hne : num = (lgAt sg k).first + (rn : Int)
                · have en : (num == (lgAt sg k).first + (rn : Int)) = true := by rw [beq_iff_eq]; exact hne
                  have HNEq := hide hne
                  clear hkp hne
                  go_wp2_with fail
                  go_meet
                  rw [unhide HIF]
                  exact ⟨unhide HR8, Touch.refl _ _, fun _ => unhide HNEq⟩
                · have en : (num == (lgAt sg k).first + (rn : Int)) = false := by rw [beq_eq_false_iff_ne]; exact hne
                  have hc : lgCode sg k (lgAt sg k) = 3 := by
                    rw [unhide HCODE, if_neg (fun h => h (unhide H4)), if_pos ⟨hkp, by rw [← unhide HNM, ← unhide HRN0]; exact hne⟩]
                  have HDB := hide ((unhide HGO).bad hlt (by rw [hc]; decide))
                  rw [hc] at HDB
                  clear hc hkp hne
                  have l0 := (unhide HR8).box.cell 0 rfl
                  have l1 := (unhide HR8).box.cell 1 rfl
                  have l2 := (unhide HR8).box.cell 2 rfl
                  have l3 := (unhide HR8).box.cell 3 rfl
                  have r0 := (unhide HRB8).cell 0 rfl
                  have r1 := (unhide HRB8).cell 1 rfl
                  have r2 := (unhide HRB8).cell 2 rfl
                  have r3 := (unhide HRB8).cell 3 rfl
                  have f0 := (unhide HRB8).fro 0
                  have f1 := (unhide HRB8).fro 1
                  have f2 := (unhide HRB8).fro 2
                  have f3 := (unhide HRB8).fro 3
                  have RT := hide (sp_ret (unhide HR8) (unhide HRB8) (unhide HWB0) (by omega))
                  go_wp2_with fail
                  generalize (((w8.setCell ⟨w.heap.size + 1, 0, none⟩ (.int .i64 ((lgAt sg k)).first)).setCell ⟨w.heap.size + 1, 1, none⟩ (.slice ra rn rc)).setCell ⟨w.heap.size + 1, 2, none⟩ (.slice na nn nc)).setCell ⟨w.heap.size + 1, 3, none⟩ (.int .i64 ((lgAt sg k)).torn) = wf at *
                  have z0 := (unhide RT).1.cell 0 rfl
                  have z1 := (unhide RT).1.cell 1 rfl
                  have z2 := (unhide RT).1.cell 2 rfl
                  have z3 := (unhide RT).1.cell 3 rfl
                  refine bodyPost_ret (v := .tuple #[.agg #[.int .i64 ((lgAt sg k)).first, (.slice ra rn rc), (.slice na nn nc), .int .i64 ((lgAt sg k)).torn], .int .i64 3]) (by simp [results, Try.results45, go_sem, z0, z1, z2, z3]) rfl ?_
                  rw [unhide HSGE, unhide HDB]
                  exact ⟨_, _, _, _, _, _, _, _, rfl, fun h => absurd h (by decide), (unhide RT).2.2⟩
            case rest =>
              obtain ⟨hR9, hT9, hEQ⟩ := hcut
              have HEQ := hide hEQ
              obtain ⟨M, hM⟩ : ∃ M : Lg, M = ⟨if k = 0 then num else (lgAt sg k).first, (lgAt sg k).recs, (lgAt sg k).names, (lgAt sg k).torn⟩ := ⟨_, rfl⟩
              rw [← hM] at hR9
              have HMN : Hid (M.names.length ≤ 8) := hide (by rw [hM]; show (lgAt sg k).names.length ≤ 8; rw [unhide HNL]; omega)
              have HMR : Hid (M.recs.length = rn) := hide (by rw [hM]; exact (unhide HRN0).symm)
              have HNX : Hid (lgGood sg (k + 1) ∧ lgAt sg (k + 1) = ⟨M.first, M.recs ++ ((frF ⟨fn, fd, fs⟩).1.drop 1).map strOfNums, M.names ++ [fn], (fd.size : Int) - (wh : Int)⟩ ∧ 0 ≤ (lgAt sg (k + 1)).first ∧ (lgAt sg (k + 1)).first < 4294967296) := by
                have hc : lgCode sg k (lgAt sg k) = 0 := by
                  rw [unhide HCODE, if_neg (fun h => h (unhide H4)), if_neg (fun h => h.2 (by rw [← unhide HNM, ← unhide HRN0]; exact unhide HEQ h.1))]
                have hq : lgAt sg (k + 1) = ⟨M.first, M.recs ++ ((frF ⟨fn, fd, fs⟩).1.drop 1).map strOfNums, M.names ++ [fn], (fd.size : Int) - (wh : Int)⟩ := by
                  show lgNext sg k (lgAt sg k) = _
                  rw [unhide HNEXT, ← unhide HNM, hM]
                rw [hq]
                refine hide ⟨(unhide HGO).next hlt hc, rfl, ?_⟩
                rw [hM]
                show 0 ≤ (if k = 0 then num else (lgAt sg k).first) ∧ (if k = 0 then num else (lgAt sg k).first) < 4294967296
                split
                · exact hnm2
                · exact unhide HBF
              have HR9 := hide hR9
              have HO9 := hide ((unhide HO8).kept hT9 (fun j hj e => by have := unhide HDN j hj; omega))
              have hcl9 := (hT9.cell (p := ⟨g, k, none⟩) (by simp; omega) (fun e => (unhide HR8).lne g rfl e)).trans hcl8
              have hz9 := hT9.size
              clear hR9 hT9 hEQ hM HR8 HRB8 HO8 hcl8
              generalize wc = w9 at *
              go_wp2_with fail
              go_cut [125] (fun s wx => ∃ ga gn gc, SpR (w.heap.size + 2) lb w1 (.slice (some ⟨g, 0, none⟩) sg.length lc) (numsP l) ⟨(M).first, (M).recs, (M).names ++ [fn], (M).torn⟩ (.slice ra rn rc) (.slice ga gn gc) wx ∧ Touch (fun k => (Value.slice na nn nc).ownBlock = some k ∨ k = lb) w9 wx)
              case first =>
                have hbd := below_drewN (Below.refl w9.heap.size w9) 1
                have HRd := hide ((unhide HR9).below hbd)
                have l2 := (unhide HR9).box.cell 2 rfl
                have hnl : (M).names.length ≤ 8 := unhide HMN
                obtain ⟨i0', hi, hz0', hz1', hz2'⟩ := info_parts infoS
                clear hbd
                go_region_law (first
                  | (refine step_append_lies _ (by rfl) _ _ _ (by rfl) (w.heap.size + 2) 9 i0' _ 1 16 Try.underlying22 hi hz0' hz1' hz2' rfl (by omega) (.slice na nn nc) (M).names.length ((M).names.map Value.string) (by rfl) (hR6.nam.below ((Below.refl w6.heap.size w6).alloc (Nat.le_refl _) (.cells #[.string fn] 9))) ⟨w6.heap.size, 0, none⟩ 1 1 [_] (by rfl) (by rfl) (World.news_of_block (cs := #[_]) (t := 9) (fr := (0, 0)) (heap_alloc_new w6 _)) (by simp [Value.oneCell']) (by omega) (by unfold maxLen; omega) (by omega) (by have := hR6.lw; have := hR6.bel.size; simp; omega) (w6.heap.size + 1) (by simp) ?_; intro gg capg w7 hown7 hgrow7 hat7 hlt7; have P7 := hR6.named hown7 hgrow7 hat7; have hc7 := P7.1; have hf7 := P7.2.1)
                  | (go_simp; go_at_call 62; refine (unhide HNAME _).mono ?_; rintro e w6 ⟨rfl, hb6⟩; have hR6 := (unhide HRd).below hb6; have l2b := hR6.box.cell 2 rfl; have l2c := (((Below.refl w6.heap.size w6).alloc (Nat.le_refl _) (.cells #[.string fn] 9)).cell (p := ⟨lb, 2, none⟩) hR6.box.1).trans l2b; go_simp))
                all_goals
                  go_wp2_with fail
                  go_meet
                  exact ⟨_, _, _, P7.2.2.1, touch_after hb6 P7.2.2.2⟩
              case rest =>
                obtain ⟨ga, gn, gc, hRn, hTn⟩ := hcut
                have HO10 := hide ((unhide HO9).kept hTn (fun j hj e => by
                  have h1 := unhide HDN j hj
                  rcases e with e | e
                  · have := unhide HNBs j e; omega
                  · omega))
                have HRn := hide hRn
                clear hRn hTn HR9 HO9
                generalize wc = w10 at *
                have hdc : fl ≤ dc ∧ dc ≤ maxLen := by
                  rcases own_shape (unhide HO10) with ⟨h, _⟩ | ⟨dg', c, h, _, _, hn, hm⟩
                  · obtain ⟨_, h2, _⟩ := Value.slice.inj h
                    omega
                  · obtain ⟨_, _, h3⟩ := Value.slice.inj h
                    rw [List.length_map, ← unhide HFL] at hn
                    omega
                have htl : (((frF ⟨fn, fd, fs⟩).1.drop 1).map strOfNums).length = fl - 1 := by rw [List.length_map, List.length_drop, ← unhide HFL]
                have HRW : Hid (∀ wx, OwnS w3.heap.size wx (.slice (some ⟨dg, 0, none⟩) fl dc) ((frF ⟨fn, fd, fs⟩).1.map strOfNums) → ∀ j u, (((frF ⟨fn, fd, fs⟩).1.drop 1).map strOfNums |>.map Value.string)[j]? = some u → wx.cell? ⟨dg, 1 + j, none⟩ = some u) := hide (fun wx ho j u hu => by
                  have hj : j < fl - 1 := by
                    rcases Nat.lt_or_ge j (fl - 1) with h | h
                    · exact h
                    · rw [List.getElem?_eq_none (by rw [List.length_map, htl]; exact h)] at hu; cases hu
                  have h1 := ho.cell (1 + j) (by rw [List.length_map, ← unhide HFL]; omega)
                  rw [h1, ← hu]
                  rw [List.getElem?_map, List.getElem?_map, List.getElem?_drop, List.getD_eq_getElem?_getD, List.getElem?_map]
                  have hj2 : 1 + j < (frF ⟨fn, fd, fs⟩).1.length := by rw [← unhide HFL]; omega
                  rw [List.getElem?_eq_getElem hj2]; rfl)
                generalize ((frF ⟨fn, fd, fs⟩).1.drop 1).map strOfNums = ts at *
                have HTL := hide htl
                clear htl
                have q1 : (1 : Int) ≤ (fl : Int) := by omega
                have q2 : (fl : Int) ≤ (dc : Int) := by omega
                have q3 : dc ≤ 9223372036854775807 := by have := hdc.2; unfold maxLen at this; omega
                go_wp2_with fail
                go_cut [131] (fun s wx => ∃ xa xn xc, SpR (w.heap.size + 2) lb w1 (.slice (some ⟨g, 0, none⟩) sg.length lc) (numsP l) ⟨M.first, M.recs ++ ts, M.names ++ [fn], M.torn⟩ (.slice xa xn xc) (.slice ga gn gc) wx)
                case first =>
                  have hbd := below_drewN (Below.refl w10.heap.size w10) 1
                  have HRd := hide ((unhide HRn).below hbd)
                  have HOd := hide ((unhide HO10).below hbd)
                  have l1 := (unhide HRn).box.cell 1 rfl
                  obtain ⟨i0', hi, hz0', hz1', hz2'⟩ := info_parts infoS
                  have hml : M.recs.length + ts.length ≤ 30000 := by rw [unhide HMR, unhide HTL]; omega
                  clear hbd
                  rcases Nat.eq_or_lt_of_le (show 1 ≤ dc by omega) with hd1 | hd1
                  · have hf1 : fl = 1 := by omega
                    have HT0 := hide (show ts.length = 0 by rw [unhide HTL]; omega)
                    subst hf1
                    obtain rfl : dc = 1 := hd1.symm
                    go_region_law (refine step_append_row (by rfl) _ _ _ (by rfl) (w.heap.size + 2) 9 i0' _ 1 16 Try.underlying22 hi hz0' hz1' hz2' rfl (by omega) (.slice ra rn rc) M.recs.length (M.recs.map Value.string) (by rfl) (unhide HRd).rcs _ ts.length (ts.map Value.string) (by rfl) (by rw [unhide HT0]; exact ⟨_, _, rfl, .inl rfl⟩) (by simp) (by simp [Value.oneCell']) (by unfold maxLen; omega) (by omega) (Nat.le_trans (unhide HRd).lw (unhide HRd).bel.size) ?_; intro a7 c7 w7 hown7 hgrow7 hat7; have P7 := (unhide HRd).recorded hown7 hgrow7 hat7; have hc7 := P7.1; have hf7 := P7.2.1)
                    all_goals
                      go_wp2_with fail
                      go_meet
                      exact ⟨_, _, _, P7.2.2⟩
                  · have hdn : ¬ dc = 1 := by omega
                    go_region_law (refine step_append_row (by rfl) _ _ _ (by rfl) (w.heap.size + 2) 9 i0' _ 1 16 Try.underlying22 hi hz0' hz1' hz2' rfl (by omega) (.slice ra rn rc) M.recs.length (M.recs.map Value.string) (by rfl) (unhide HRd).rcs (.slice (some ⟨dg, 1, none⟩) (fl - 1) (dc - 1)) ts.length (ts.map Value.string) (by rfl) (by rw [unhide HTL]; exact ⟨_, _, rfl, .inr ⟨_, rfl, fun j u hu => by have := unhide HRW _ (unhide HOd) j u hu; rw [add_off]; exact this⟩⟩) (by simp) (by simp [Value.oneCell']) (by unfold maxLen; omega) (by omega) (Nat.le_trans (unhide HRd).lw (unhide HRd).bel.size) ?_; intro a7 c7 w7 hown7 hgrow7 hat7; have P7 := (unhide HRd).recorded hown7 hgrow7 hat7; have hc7 := P7.1; have hf7 := P7.2.1)
                    all_goals
                      go_wp2_with fail
                      go_meet
                      exact ⟨_, _, _, P7.2.2⟩
                case rest =>
                  obtain ⟨xa, xn, xc, hR11⟩ := hcut
                  have hw12 : IntKind.i64.wrap ((fd.size : Int) - (wh : Int)) = (fd.size : Int) - (wh : Int) := wrapSg _ (by omega) (by omega)
                  have l3 := hR11.box.cell 3 rfl
                  have f3x := hR11.box.fro 3
                  have HRF := hide (hR11.setTorn ((fd.size : Int) - (wh : Int)))
                  clear hR11
                  go_wp2_with fail
                  refine ⟨⟨k + 1, xa, xn, xc, ga, gn, gc, by omega, by go_num, (unhide HNX).1, ?_, (unhide HNX).2.2⟩, ?_⟩
                  · rw [(unhide HNX).2.1]; exact unhide HRF
                  · simp [intOf]; omega
    · obtain rfl : k = sg.length := by omega
      have HDB := hide ((unhide HGO).done (by omega))
      clear hR
      have l0 := (unhide HR).box.cell 0 rfl
      have l1 := (unhide HR).box.cell 1 rfl
      have l2 := (unhide HR).box.cell 2 rfl
      have l3 := (unhide HR).box.cell 3 rfl
      have r0 := (unhide HRB).cell 0 rfl
      have r1 := (unhide HRB).cell 1 rfl
      have r2 := (unhide HRB).cell 2 rfl
      have r3 := (unhide HRB).cell 3 rfl
      have f0 := (unhide HRB).fro 0
      have f1 := (unhide HRB).fro 1
      have f2 := (unhide HRB).fro 2
      have f3 := (unhide HRB).fro 3
      have RT := hide (sp_ret (unhide HR) (unhide HRB) (unhide HWB0) (by omega))
      go_wp2_with fail
      generalize (((wr.setCell ⟨w.heap.size + 1, 0, none⟩ (.int .i64 ((lgAt sg sg.length)).first)).setCell ⟨w.heap.size + 1, 1, none⟩ (.slice ra rn rc)).setCell ⟨w.heap.size + 1, 2, none⟩ (.slice na nn nc)).setCell ⟨w.heap.size + 1, 3, none⟩ (.int .i64 ((lgAt sg sg.length)).torn) = wf at *
      have z0 := (unhide RT).1.cell 0 rfl
      have z1 := (unhide RT).1.cell 1 rfl
      have z2 := (unhide RT).1.cell 2 rfl
      have z3 := (unhide RT).1.cell 3 rfl
      refine bodyPost_ret (v := .tuple #[.agg #[.int .i64 ((lgAt sg sg.length)).first, (.slice ra rn rc), (.slice na nn nc), .int .i64 ((lgAt sg sg.length)).torn], .int .i64 0]) (by simp [results, Try.results45, go_sem, z0, z1, z2, z3]) rfl ?_
      rw [unhide HSGE, unhide HDB]
      exact ⟨_, _, _, _, _, _, _, _, rfl, fun _ => ⟨rfl, rfl, (unhide RT).2.1.1, (unhide RT).2.1.2, (unhide HR).dis, ownS_form (unhide RT).2.1.1, ownS_form (unhide RT).2.1.2⟩, (unhide RT).2.2⟩
end Go.Proofs.Ytpdjfjapdmopoaa
namespace Go.Proofs.Ytpdjfjapdmopoaa
open Go.ChangeShapes Go.WideShapes Go.ChangeAt Go.RowKit
set_option linter.unusedVariables false

theorem used_mono (l : List Fl) (i j : Nat) (h : i ≤ j) : usedTo l i ≤ usedTo l j := by
  induction j with
  | zero => obtain rfl : i = 0 := by omega
            exact Int.le_refl _
  | succ j ih =>
    by_cases e : i = j + 1
    · subst e; exact Int.le_refl _
    · have := ih (by omega)
      show _ ≤ usedTo l j + _
      omega
theorem disk_big {room : Int} {l : List Fl} {k : Nat} (hk : k < l.length) (h0 : 0 ≤ usedTo l k) (h : 3000 < (l.getD k default).d.size) : diskB room l = false := by
  have h1 : usedTo l (k + 1) = usedTo l k + ((l.getD k default).d.size : Int) := rfl
  have h2 := used_mono l (k + 1) l.length (by omega)
  unfold diskB
  by_cases hin : inB room 0 3000 = true
  · have := (inB_iff.1 hin).2
    rw [decide_eq_false (p := usedTo l l.length ≤ room) (by omega)]; simp
  · rw [Bool.not_eq_true] at hin; rw [hin]; simp

set_option maxRecDepth 100000 in
set_option maxHeartbeats 1000000 in
theorem specDiskOK_any (room : Int) (v : Value) (l : List Fl) (w : World) (h : Fls w v l) (hs : Small l) :
    Calls Try.prog 44 #[.agg #[.int .i64 room, v]] w fun e w' => e = .returned (.bool (diskB room l)) ∧ Below w.heap.size w w' := by
  have HF := hide h
  obtain ⟨a, cap, rfl, hn, hm, hc⟩ := h
  have HC := hide hc
  have HS := hide hs
  clear hc hs
  have B0 := hide ((Below.refl w.heap.size w).alloc (Nat.le_refl _) (.cells #[.int .i64 room, .slice a l.length cap] 41))
  have X0 := hide (Blk.new w #[.int .i64 room, .slice a l.length cap] 41 w.heap.size rfl)
  have Z0 : w.heap.size < (w.alloc (.cells #[.int .i64 room, .slice a l.length cap] 41)).heap.size := by simp
  rcases Bool.eq_false_or_eq_true (inB room 0 3000) with hin | hin
  · by_cases h8 : l.length ≤ 8
    · have h8b : ¬ (8 : Int) < (l.length : Int) := by omega
      go_enter Try.func44, Try.ntmps44
      go_wp2_with fail
      generalize w.alloc (.cells #[.int .i64 room, .slice a l.length cap] 41) = w0 at *
      have c0 := (unhide X0).cell 0 rfl
      have c1 := (unhide X0).cell 1 rfl
      refine (l01In_any room 0 3000 w0).mono ?_
      rintro e w' ⟨rfl, hw'⟩
      have hw2 := hw'.symm
      clear hw'
      subst hw2
      rw [hin]
      go_wp2_with fail
      go_loopw [3] (fun i wr => ∃ k : Nat, k ≤ l.length ∧ i = .int .i64 k ∧ allTo l k ∧ Below (w.heap.size + 1) w0 wr) (fun i _ => l.length - (intOf i).toNat)
      case atStart => exact ⟨0, Nat.zero_le _, rfl, fun i hi => by omega, Below.refl _ _⟩
      case round =>
        obtain ⟨k, hk, rfl, hgo, hb⟩ := hrel
        by_cases hlt : k < l.length
        · obtain ⟨b, off, rfl, hbl, hsrc⟩ : ∃ b off, a = some ⟨b, off, none⟩ ∧ b < w.heap.size ∧ ∀ i, i < l.length → w.cell? ⟨b, off + i * 3, none⟩ = some (.string (l.getD i default).n) ∧ w.cell? ⟨b, off + i * 3 + 1, none⟩ = some (.string (l.getD i default).d) ∧ w.cell? ⟨b, off + i * 3 + 2, none⟩ = some (.int .i64 (l.getD i default).s) := by
            rcases unhide HC with h0 | h1
            · omega
            · exact h1
          have hbw : Below w.heap.size w wr := (unhide B0).trans (hb.mono (by omega))
          obtain ⟨s0, s1, s2⟩ := hsrc k hlt
          have e0 := (hbw.cell (p := ⟨b, off + k * 3, none⟩) hbl).trans s0
          have e1 := (hbw.cell (p := ⟨b, off + k * 3 + 1, none⟩) hbl).trans s1
          have e2 := (hbw.cell (p := ⟨b, off + k * 3 + 2, none⟩) hbl).trans s2
          have d0 := (hb.cell (p := ⟨w.heap.size, 0, none⟩) (by simp)).trans c0
          have d1 := (hb.cell (p := ⟨w.heap.size, 1, none⟩) (by simp)).trans c1
          have hk0 : (0 : Int) ≤ (k : Int) := by omega
          have hk1 : (k : Int) < (l.length : Int) := by omega
          have hfz := (unhide HS).2.2 k
          have hbs := hbw.size
          have hbs2 := hb.size
          have HB := hide hb
          have HSR := hide hsrc
          clear hsrc s0 s1 s2 hb hbw
          obtain ⟨f, hf⟩ : ∃ f, f = l.getD k default := ⟨_, rfl⟩
          rw [← hf] at e0 e1 e2 hfz
          have HFe := hide hf
          clear hf
          obtain ⟨fn, fd, fs⟩ := f
          dsimp only at e0 e1 e2 hfz
          have hnm : fn.size ≤ maxLen := by unfold maxLen; omega
          have b0 := hide ((Below.refl wr.heap.size wr).alloc (Nat.le_refl _) (.cells #[.string fn, .string fd, .int .i64 fs] 91))
          have y0 := hide (Blk.new wr #[.string fn, .string fd, .int .i64 fs] 91 wr.heap.size rfl)
          have HFB : Hid (fileB l k = (nameB fn && inB fs 0 fd.size && (decide (k = 0) || lessB (l.getD (k - 1) default).n fn))) := hide (by unfold fileB; rw [← unhide HFe])
          have HGo := hide hgo
          clear hgo
          go_wp2_with fail
          generalize wr.alloc (.cells #[.string fn, .string fd, .int .i64 fs] 91) = w1 at *
          have g0 := (unhide y0).cell 0 rfl
          have g1 := (unhide y0).cell 1 rfl
          have g2 := (unhide y0).cell 2 rfl
          have hd0 := ((unhide b0).cell (p := ⟨w.heap.size, 0, none⟩) (by simp; omega)).trans d0
          have hd1 := ((unhide b0).cell (p := ⟨w.heap.size, 1, none⟩) (by simp; omega)).trans d1
          have hB1 := hide ((unhide HB).trans ((unhide b0).mono (by omega)))
          have hB2 := hide ((unhide B0).trans ((unhide hB1).mono (by omega)))
          clear d0 d1 e0 e1 e2
          cases hnb : nameB fn
          · have HD := hide (disk_bad (room := room) hlt (by rw [unhide HFB, hnb]; simp))
            have hsn := hide (fun wx => specName_any fn wx hnm)
            rw [hnb] at hsn
            go_quiet (first | (go_at_call 57; exact Calls.quiet_of_same (unhide hsn _)))
            go_wp2_with fail
            go_ret
            exact ⟨ret_bool (unhide HD).symm, below_drewN (unhide hB2) _⟩
          · have hsn := hide (fun wx => specName_any fn wx hnm)
            rw [hnb] at hsn
            have hli := hide (fun wx => l01In_any fs 0 fd.size wx)
            rcases Bool.eq_false_or_eq_true (inB fs 0 fd.size) with hif | hif
            · rw [hif] at hli
              by_cases hbig : 3000 < fd.size
              · have HD := hide (disk_big (room := room) (k := k) hlt ((unhide HS).2.1 k hk).1 (by rw [← unhide HFe]; exact hbig))
                have hb1 : (3000 : Int) < (fd.size : Int) := by omega
                go_quiet (first | (go_at_call 57; exact Calls.quiet_of_same (unhide hsn _)) | (go_at_call 51; exact Calls.quiet_of_same (unhide hli _)))
                go_wp2_with fail
                go_ret
                exact ⟨ret_bool (unhide HD).symm, below_drewN (unhide hB2) _⟩
              · have hb1 : decide ((3000 : Int) < (fd.size : Int)) = false := by rw [decide_eq_false_iff_not]; omega
                have hb2 : decide (3000 < fd.size) = false := by rw [decide_eq_false_iff_not]; omega
                by_cases hk00 : k = 0
                · subst hk00
                  have HN := hide ((unhide HGo).next (by rw [unhide HFB, hnb, hif]; simp))
                  go_quiet (first | (go_at_call 57; exact Calls.quiet_of_same (unhide hsn _)) | (go_at_call 51; exact Calls.quiet_of_same (unhide hli _)))
                  go_wp2_with fail
                  refine ⟨⟨1, by omega, by go_num, unhide HN, below_drewN (unhide hB1) _⟩, ?_⟩
                  simp [intOf]; omega
                · obtain ⟨q, hq⟩ : ∃ q : Nat, (k : Int) - 1 = (q : Int) := ⟨k - 1, by omega⟩
                  obtain ⟨t0, _, _⟩ := unhide HSR q (by omega)
                  obtain ⟨g, hg⟩ : ∃ g, g = l.getD q default := ⟨_, rfl⟩
                  rw [← hg] at t0
                  have HGe := hide hg
                  clear hg
                  obtain ⟨gn, gd, gs⟩ := g
                  dsimp only at t0
                  have e3 := ((unhide b0).cell (p := ⟨b, off + q * 3, none⟩) (by simp; omega)).trans (((unhide HB).cell (p := ⟨b, off + q * 3, none⟩) (by simp; omega)).trans (((unhide B0).cell (p := ⟨b, off + q * 3, none⟩) hbl).trans t0))
                  have p1 : 0 < k := by omega
                  have p1d : decide (0 < k) = true := by simpa using p1
                  have p2 : IntKind.i64.wrap (q : Int) = (q : Int) := wrapJ _ (by omega) (by omega)
                  have p3 : (0 : Int) ≤ (q : Int) := by omega
                  have p4 : (q : Int) < (l.length : Int) := by omega
                  have HFB2 : Hid (fileB l k = lessB gn fn) := hide (by
                    rw [unhide HFB, hnb, hif, show k - 1 = q by omega, ← unhide HGe]; simp [hk00])
                  clear t0
                  cases hlb : lessB gn fn
                  · rw [hlb] at HFB2
                    have hlb2 : Op.bytesLess gn.toList fn.toList = false := hlb
                    have HD := hide (disk_bad (room := room) hlt (unhide HFB2))
                    go_quiet (first | (go_at_call 57; exact Calls.quiet_of_same (unhide hsn _)) | (go_at_call 51; exact Calls.quiet_of_same (unhide hli _)))
                    go_wp2_with fail
                    go_ret
                    exact ⟨ret_bool (unhide HD).symm, below_drewN (unhide hB2) _⟩
                  · rw [hlb] at HFB2
                    have hlb2 : Op.bytesLess gn.toList fn.toList = true := hlb
                    have HN := hide ((unhide HGo).next (unhide HFB2))
                    go_quiet (first | (go_at_call 57; exact Calls.quiet_of_same (unhide hsn _)) | (go_at_call 51; exact Calls.quiet_of_same (unhide hli _)))
                    go_wp2_with fail
                    refine ⟨⟨k + 1, by omega, by go_num, unhide HN, below_drewN (unhide hB1) _⟩, ?_⟩
                    simp [intOf]; omega
            · rw [hif] at hli
              have HD := hide (disk_bad (room := room) hlt (by rw [unhide HFB, hif]; simp))
              go_quiet (first | (go_at_call 57; exact Calls.quiet_of_same (unhide hsn _)) | (go_at_call 51; exact Calls.quiet_of_same (unhide hli _)))
              go_wp2_with fail
              go_ret
              exact ⟨ret_bool (unhide HD).symm, below_drewN (unhide hB2) _⟩
        · obtain rfl : k = l.length := by omega
          have HD := hide (disk_all (room := room) hin h8 hgo)
          have hbw : Below w.heap.size w wr := (unhide B0).trans (hb.mono (by omega))
          have HBW := hide hbw
          have d0 := (hb.cell (p := ⟨w.heap.size, 0, none⟩) (by simp)).trans c0
          have d1 := (hb.cell (p := ⟨w.heap.size, 1, none⟩) (by simp)).trans c1
          have hbs := hbw.size
          have hbs2 := hb.size
          clear hb hbw hgo
          have HFB := hide (l03Used_any room (.slice a l.length cap) l wr.drew ((unhide HF).below (below_drewN (unhide HBW) 1)) (unhide HS).2.1 (unhide HS).1)
          obtain ⟨u, hu⟩ : ∃ u, u = usedTo l l.length := ⟨_, rfl⟩
          rw [← hu] at HFB HD
          clear hu
          go_wp2_with fail
          go_region_held3 (fun wx => wx.cell? ⟨w.heap.size, 0, none⟩ = some (.int .i64 room) ∧ wx.cell? ⟨w.heap.size, 1, none⟩ = some (.slice a l.length cap)) (first | go_keep | exact ⟨(hb2.cell (p := ⟨w.heap.size, 0, none⟩) (by simp; omega)).trans d0, (hb2.cell (p := ⟨w.heap.size, 1, none⟩) (by simp; omega)).trans d1⟩) ((go_at_call 58; refine (unhide HFB).mono ?_; rintro e w2 ⟨rfl, hb2⟩))
          all_goals
            have hbz := (unhide HBW).trans (show Below w.heap.size wr w2 from (below_drewN (Below.refl _ wr) 1).trans (hb2.mono (by simpa using hbs)))
            have HBZ := hide hbz
            clear hbz hb2
            go_wp2_with fail
            go_ret
            exact ⟨ret_bool (unhide HD).symm, unhide HBZ⟩
    · have HD : Hid (diskB room l = false) := hide (by unfold diskB; rw [decide_eq_false h8]; simp)
      have h8b : (8 : Int) < (l.length : Int) := by omega
      go_enter Try.func44, Try.ntmps44
      go_wp2_with fail
      generalize w.alloc (.cells #[.int .i64 room, .slice a l.length cap] 41) = w0 at *
      have c0 := (unhide X0).cell 0 rfl
      have c1 := (unhide X0).cell 1 rfl
      refine (l01In_any room 0 3000 w0).mono ?_
      rintro e w' ⟨rfl, hw'⟩
      have hw2 := hw'.symm
      clear hw'
      subst hw2
      rw [hin]
      go_wp2_with fail
      go_ret
      exact ⟨ret_bool (unhide HD).symm, unhide B0⟩
  · have HD : Hid (diskB room l = false) := hide (by unfold diskB; rw [hin]; simp)
    go_enter Try.func44, Try.ntmps44
    go_wp2_with fail
    generalize w.alloc (.cells #[.int .i64 room, .slice a l.length cap] 41) = w0 at *
    have c0 := (unhide X0).cell 0 rfl
    have c1 := (unhide X0).cell 1 rfl
    refine (l01In_any room 0 3000 w0).mono ?_
    rintro e w' ⟨rfl, hw'⟩
    have hw2 := hw'.symm
    clear hw'
    subst hw2
    rw [hin]
    go_wp2_with fail
    go_ret
    exact ⟨ret_bool (unhide HD).symm, unhide B0⟩
end Go.Proofs.Ytpdjfjapdmopoaa
namespace Go.Proofs.Ytpdjfjapdmopoaa
open Go.ChangeShapes Go.WideShapes Go.ChangeAt Go.RowKit
set_option linter.unusedVariables false
set_option linter.unusedSimpArgs false

/-- An answer of four cells laid into its block. -/
theorem wal_set {w w1 wz : World} {f t : Int} {ra na : Option Addr} {rn rc nn nc : Nat} {L : Lg} (hb : Below w.heap.size w wz) (hr : Blk wz (w.heap.size + 1) [.int .i64 0, .slice none 0 0, .slice none 0 0, .int .i64 0]) (hA : WalA (w.heap.size + 2) wz L (.slice ra rn rc) (.slice na nn nc)) :
    Blk ((((wz.setCell ⟨w.heap.size + 1, 0, none⟩ (.int .i64 f)).setCell ⟨w.heap.size + 1, 1, none⟩ (.slice ra rn rc)).setCell ⟨w.heap.size + 1, 2, none⟩ (.slice na nn nc)).setCell ⟨w.heap.size + 1, 3, none⟩ (.int .i64 t)) (w.heap.size + 1) [.int .i64 f, .slice ra rn rc, .slice na nn nc, .int .i64 t] ∧
    WalA (w.heap.size + 2) ((((wz.setCell ⟨w.heap.size + 1, 0, none⟩ (.int .i64 f)).setCell ⟨w.heap.size + 1, 1, none⟩ (.slice ra rn rc)).setCell ⟨w.heap.size + 1, 2, none⟩ (.slice na nn nc)).setCell ⟨w.heap.size + 1, 3, none⟩ (.int .i64 t)) L (.slice ra rn rc) (.slice na nn nc) ∧
    Below w.heap.size w ((((wz.setCell ⟨w.heap.size + 1, 0, none⟩ (.int .i64 f)).setCell ⟨w.heap.size + 1, 1, none⟩ (.slice ra rn rc)).setCell ⟨w.heap.size + 1, 2, none⟩ (.slice na nn nc)).setCell ⟨w.heap.size + 1, 3, none⟩ (.int .i64 t)) := by
  have T5 := (((((Touch.refl (fun k => k = w.heap.size + 1) wz).setCell ⟨w.heap.size + 1, 0, none⟩ (.int .i64 f) (fun _ => rfl)).setCell ⟨w.heap.size + 1, 1, none⟩ (.slice ra rn rc) (fun _ => rfl)).setCell ⟨w.heap.size + 1, 2, none⟩ (.slice na nn nc) (fun _ => rfl)).setCell ⟨w.heap.size + 1, 3, none⟩ (.int .i64 t) (fun _ => rfl))
  exact ⟨(((hr.set 0 (.int .i64 f) (by simp)).set 1 (.slice ra rn rc) (by simp)).set 2 (.slice na nn nc) (by simp)).set 3 (.int .i64 t) (by simp), hA.kept T5 (fun k hk => by omega), hb.trans (T5.below (B := w.heap.size) hb.size (fun k hk e => by omega))⟩

set_option maxRecDepth 100000 in
set_option maxHeartbeats 2000000 in
theorem implWalRead_any (room : Int) (v : Value) (l : List Fl) (w : World) (h : Fls w v l) (hs : Small l) :
    Calls Try.prog 31 #[.agg #[.int .i64 room, v]] w fun e w' => ∃ ra rn rc na nn nc, e = .returned (.tuple #[.agg #[.int .i64 (walOut room l).1.first, .slice ra rn rc, .slice na nn nc, .int .i64 (walOut room l).1.torn], .int .i64 (walOut room l).2]) ∧ WalA (w.heap.size + 2) w' (walOut room l).1 (.slice ra rn rc) (.slice na nn nc) ∧ Below w.heap.size w w' := by
  have HF := hide h
  have HS := hide hs
  obtain ⟨a, cap, rfl, hn, hm, hc⟩ := h
  clear hc hm hn hs
  have B0 := hide (((Below.refl w.heap.size w).alloc (Nat.le_refl _) (.cells #[.int .i64 room, .slice a l.length cap] 41)).alloc (by simp) (.cells #[.int .i64 0, .slice none 0 0, .slice none 0 0, .int .i64 0] 59))
  have R0 := hide (Blk.new (w.alloc (.cells #[.int .i64 room, .slice a l.length cap] 41)) #[.int .i64 0, .slice none 0 0, .slice none 0 0, .int .i64 0] 59 (w.heap.size + 1) (by simp))
  go_enter Try.func31, Try.ntmps31
  go_wp2_with fail
  generalize (w.alloc (.cells #[.int .i64 room, .slice a l.length cap] 41)).alloc (.cells #[.int .i64 0, .slice none 0 0, .slice none 0 0, .int .i64 0] 59) = w0 at *
  refine (readLog_any room _ l w0 ((unhide HF).below (unhide B0)) (unhide HS)).mono ?_
  rintro e w1 ⟨rv, nv, ga, gn, gc, rfl, hA, hb1⟩
  obtain ⟨ra, rc, rfl⟩ := hA.2.2.2.1
  obtain ⟨na, nc, rfl⟩ := hA.2.2.2.2
  have hz0 := (unhide R0).1
  have AA := (Below.refl w1.heap.size w1).alloc (Nat.le_refl _) (.cells #[.int .i64 (walOut room l).1.first, .slice ra (walOut room l).1.recs.length rc, .slice na (walOut room l).1.names.length nc, .int .i64 (walOut room l).1.torn, .slice ga gn gc] 95)
  have B1 := hide (((unhide B0).trans (hb1.mono (unhide B0).size)).trans (AA.mono (Nat.le_trans (unhide B0).size hb1.size)))
  have R1 := hide (((unhide R0).below hb1).below AA)
  have A1 := hide ((hA.below AA).mono (B' := w.heap.size + 2) (by omega))
  have W1 := hide (wal_set (w1 := w) (f := (walOut room l).1.first) (t := (walOut room l).1.torn) (unhide B1) (unhide R1) (unhide A1))
  have r0 := (unhide R1).cell 0 rfl
  have r1 := (unhide R1).cell 1 rfl
  have r2 := (unhide R1).cell 2 rfl
  have r3 := (unhide R1).cell 3 rfl
  have f0 := (unhide R1).fro 0
  have f1 := (unhide R1).fro 1
  have f2 := (unhide R1).fro 2
  have f3 := (unhide R1).fro 3
  clear hA hb1 AA
  generalize hout : walOut room l = out at *
  have HOUT := hide hout
  clear hout
  obtain ⟨L, cd⟩ := out
  dsimp only at *
  generalize L.recs.length = rn at *
  generalize L.names.length = nn at *
  have Y1 := hide (Blk.new w1 #[.int .i64 L.first, .slice ra rn rc, .slice na nn nc, .int .i64 L.torn, .slice ga gn gc] 95 w1.heap.size rfl)
  go_upto_region 2 with fail
  generalize w1.alloc (.cells #[.int .i64 L.first, .slice ra rn rc, .slice na nn nc, .int .i64 L.torn, .slice ga gn gc] 95) = w2 at *
  generalize w1.heap.size = yb at *
  have y0 := (unhide Y1).cell 0 rfl
  have y1 := (unhide Y1).cell 1 rfl
  have y2 := (unhide Y1).cell 2 rfl
  have y3 := (unhide Y1).cell 3 rfl
  go_wp2_with fail
  generalize (((w2.setCell ⟨w.heap.size + 1, 0, none⟩ (.int .i64 L.first)).setCell ⟨w.heap.size + 1, 1, none⟩ (.slice ra rn rc)).setCell ⟨w.heap.size + 1, 2, none⟩ (.slice na nn nc)).setCell ⟨w.heap.size + 1, 3, none⟩ (.int .i64 L.torn) = wf at *
  have z0 := (unhide W1).1.cell 0 rfl
  have z1 := (unhide W1).1.cell 1 rfl
  have z2 := (unhide W1).1.cell 2 rfl
  have z3 := (unhide W1).1.cell 3 rfl
  refine bodyPost_ret (v := .tuple #[.agg #[.int .i64 L.first, .slice ra rn rc, .slice na nn nc, .int .i64 L.torn], .int .i64 cd]) (by simp [results, Try.results31, go_sem, z0, z1, z2, z3]) rfl ?_
  rw [unhide HOUT]
  exact ⟨_, _, _, _, _, _, rfl, (unhide W1).2.1, (unhide W1).2.2⟩
set_option maxRecDepth 100000 in
set_option maxHeartbeats 2000000 in
theorem specWalRead_any (room : Int) (v : Value) (l : List Fl) (w : World) (h : Fls w v l) (hs : Small l) :
    Calls Try.prog 29 #[.agg #[.int .i64 room, v]] w fun e w' => ∃ ra rn rc na nn nc, e = .returned (.tuple #[.agg #[.int .i64 (walOut room l).1.first, .slice ra rn rc, .slice na nn nc, .int .i64 (walOut room l).1.torn], .int .i64 (walOut room l).2]) ∧ WalA (w.heap.size + 2) w' (walOut room l).1 (.slice ra rn rc) (.slice na nn nc) ∧ Below w.heap.size w w' := by
  have HF := hide h
  have HS := hide hs
  obtain ⟨a, cap, rfl, hn, hm, hc⟩ := h
  clear hc hm hn hs
  have B0 := hide (((Below.refl w.heap.size w).alloc (Nat.le_refl _) (.cells #[.int .i64 room, .slice a l.length cap] 41)).alloc (by simp) (.cells #[.int .i64 0, .slice none 0 0, .slice none 0 0, .int .i64 0] 59))
  have X0 := hide ((Blk.new w #[.int .i64 room, .slice a l.length cap] 41 w.heap.size rfl).alloc (.cells #[.int .i64 0, .slice none 0 0, .slice none 0 0, .int .i64 0] 59))
  have R0 := hide (Blk.new (w.alloc (.cells #[.int .i64 room, .slice a l.length cap] 41)) #[.int .i64 0, .slice none 0 0, .slice none 0 0, .int .i64 0] 59 (w.heap.size + 1) (by simp))
  go_enter Try.func29, Try.ntmps29
  go_wp2_with fail
  generalize (w.alloc (.cells #[.int .i64 room, .slice a l.length cap] 41)).alloc (.cells #[.int .i64 0, .slice none 0 0, .slice none 0 0, .int .i64 0] 59) = w0 at *
  refine (specDiskOK_any room _ l w0 ((unhide HF).below (unhide B0)) (unhide HS)).mono ?_
  rintro e w1 ⟨rfl, hb1⟩
  have B1 := hide ((unhide B0).trans (hb1.mono (unhide B0).size))
  have X1 := hide ((unhide X0).below hb1)
  have R1 := hide ((unhide R0).below hb1)
  clear hb1 B0 X0 R0
  cases hd : diskB room l
  · have HW := hide (show walOut room l = (lg0, 1) by unfold walOut; rw [hd]; rfl)
    have W1 := hide (wal_set (w1 := w) (f := 0) (t := 0) (unhide B1) (unhide R1) (WalA.none _ _))
    have r0 := (unhide R1).cell 0 rfl
    have r1 := (unhide R1).cell 1 rfl
    have r2 := (unhide R1).cell 2 rfl
    have r3 := (unhide R1).cell 3 rfl
    have f0 := (unhide R1).fro 0
    have f1 := (unhide R1).fro 1
    have f2 := (unhide R1).fro 2
    have f3 := (unhide R1).fro 3
    go_wp2_with fail
    generalize (((w1.setCell ⟨w.heap.size + 1, 0, none⟩ (.int .i64 0)).setCell ⟨w.heap.size + 1, 1, none⟩ (.slice none 0 0)).setCell ⟨w.heap.size + 1, 2, none⟩ (.slice none 0 0)).setCell ⟨w.heap.size + 1, 3, none⟩ (.int .i64 0) = wf at *
    have z0 := (unhide W1).1.cell 0 rfl
    have z1 := (unhide W1).1.cell 1 rfl
    have z2 := (unhide W1).1.cell 2 rfl
    have z3 := (unhide W1).1.cell 3 rfl
    refine bodyPost_ret (v := .tuple #[.agg #[.int .i64 0, .slice none 0 0, .slice none 0 0, .int .i64 0], .int .i64 1]) (by simp [results, Try.results29, go_sem, z0, z1, z2, z3]) rfl ?_
    rw [unhide HW]
    exact ⟨_, _, _, _, _, _, rfl, (unhide W1).2.1, (unhide W1).2.2⟩
  have HW := hide (show walOut room l = lgRun (segsP l) 0 by unfold walOut; rw [hd]; rfl)
  have x0 := (unhide X1).cell 0 rfl
  have x1 := (unhide X1).cell 1 rfl
  have hz1 := (unhide R1).1
  go_wp2_with fail
  refine (l04Read_any room _ l w1 ((unhide HF).below (unhide B1)) hd (unhide HS)).mono ?_
  rintro e w2 ⟨f, ra, rn, rc, na, nn, nc, t, rfl, hgood, hb2⟩
  have AA := (Below.refl w2.heap.size w2).alloc (Nat.le_refl _) (.cells #[.int .i64 f, .slice ra rn rc, .slice na nn nc, .int .i64 t] 59)
  have B3 := hide (((unhide B1).trans (hb2.mono (unhide B1).size)).trans (AA.mono (Nat.le_trans (unhide B1).size hb2.size)))
  have R3 := hide (((unhide R1).below hb2).below AA)
  have Y3 := hide (Blk.new w2 #[.int .i64 f, .slice ra rn rc, .slice na nn nc, .int .i64 t] 59 w2.heap.size rfl)
  have HG : Hid ((lgRun (segsP l) 0).2 = 0 → f = (lgRun (segsP l) 0).1.first ∧ t = (lgRun (segsP l) 0).1.torn ∧ WalA (w.heap.size + 2) (w2.alloc (.cells #[.int .i64 f, .slice ra rn rc, .slice na nn nc, .int .i64 t] 59)) (lgRun (segsP l) 0).1 (.slice ra rn rc) (.slice na nn nc)) := hide (fun h0 => ⟨(hgood h0).1, (hgood h0).2.1, ((hgood h0).2.2.below AA).mono (by omega)⟩)
  have HBAD := hide (lgRun_bad (segsP l) _ 0 rfl)
  have r0 := (unhide R3).cell 0 rfl
  have r1 := (unhide R3).cell 1 rfl
  have r2 := (unhide R3).cell 2 rfl
  have r3 := (unhide R3).cell 3 rfl
  have f0 := (unhide R3).fro 0
  have f1 := (unhide R3).fro 1
  have f2 := (unhide R3).fro 2
  have f3 := (unhide R3).fro 3
  clear hgood hb2 AA B1 X1 R1 x0 x1 hd
  generalize lgRun (segsP l) 0 = out at *
  obtain ⟨L, cd⟩ := out
  dsimp only at HG HBAD ⊢
  go_upto_region 4 with fail
  generalize w2.alloc (.cells #[.int .i64 f, .slice ra rn rc, .slice na nn nc, .int .i64 t] 59) = w3 at *
  generalize w2.heap.size = yb at *
  by_cases hc0 : cd = 0
  · obtain ⟨hf, ht, hA⟩ := unhide HG hc0
    have y0 := (unhide Y3).cell 0 rfl
    have y1 := (unhide Y3).cell 1 rfl
    have y2 := (unhide Y3).cell 2 rfl
    have y3 := (unhide Y3).cell 3 rfl
    have W1 := hide (wal_set (w1 := w) (f := f) (t := t) (unhide B3) (unhide R3) hA)
    have HFT := hide (And.intro hf ht)
    clear hf ht hA HG HBAD
    subst hc0
    go_wp2_with fail
    generalize (((w3.setCell ⟨w.heap.size + 1, 0, none⟩ (.int .i64 f)).setCell ⟨w.heap.size + 1, 1, none⟩ (.slice ra rn rc)).setCell ⟨w.heap.size + 1, 2, none⟩ (.slice na nn nc)).setCell ⟨w.heap.size + 1, 3, none⟩ (.int .i64 t) = wf at *
    have z0 := (unhide W1).1.cell 0 rfl
    have z1 := (unhide W1).1.cell 1 rfl
    have z2 := (unhide W1).1.cell 2 rfl
    have z3 := (unhide W1).1.cell 3 rfl
    refine bodyPost_ret (v := .tuple #[.agg #[.int .i64 f, .slice ra rn rc, .slice na nn nc, .int .i64 t], .int .i64 0]) (by simp [results, Try.results29, go_sem, z0, z1, z2, z3]) rfl ?_
    rw [unhide HW]
    refine ⟨_, _, _, _, _, _, ?_, (unhide W1).2.1, (unhide W1).2.2⟩
    rw [(unhide HFT).1, (unhide HFT).2]
  · have HL : Hid ((L, cd) = (lg0, cd)) := hide (unhide HBAD hc0)
    have hcb : (cd == 0) = false := by rw [beq_eq_false_iff_ne]; exact hc0
    have W1 := hide (wal_set (w1 := w) (f := 0) (t := 0) (unhide B3) (unhide R3) (WalA.none _ _))
    clear HG HBAD hc0
    go_wp2_with fail
    generalize (((w3.setCell ⟨w.heap.size + 1, 0, none⟩ (.int .i64 0)).setCell ⟨w.heap.size + 1, 1, none⟩ (.slice none 0 0)).setCell ⟨w.heap.size + 1, 2, none⟩ (.slice none 0 0)).setCell ⟨w.heap.size + 1, 3, none⟩ (.int .i64 0) = wf at *
    have z0 := (unhide W1).1.cell 0 rfl
    have z1 := (unhide W1).1.cell 1 rfl
    have z2 := (unhide W1).1.cell 2 rfl
    have z3 := (unhide W1).1.cell 3 rfl
    refine bodyPost_ret (v := .tuple #[.agg #[.int .i64 0, .slice none 0 0, .slice none 0 0, .int .i64 0], .int .i64 cd]) (by simp [results, Try.results29, go_sem, z0, z1, z2, z3]) rfl ?_
    rw [unhide HW, unhide HL]
    exact ⟨_, _, _, _, _, _, rfl, (unhide W1).2.1, (unhide W1).2.2⟩
end Go.Proofs.Ytpdjfjapdmopoaa
