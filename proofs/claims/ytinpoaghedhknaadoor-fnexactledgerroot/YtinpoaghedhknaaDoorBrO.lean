/- Branches of the call's own: each slice in a block that nothing else of the map has; toBranch makes such ones. -/
import Derived.Test.YtinpoaghedhknaaDoorBrL
import Derived.Test.YtinpoaghedhknaaDoorStrO
import Derived.Test.YtinpoaghedhknaaDoorLawG
import Derived.Deep.Onto
namespace Go.Proofs.YtinpoaghedhknaaDoor.Sha
open Go.ChangeShapes Go.WideShapes Go.ChangeAt Go.RowKit
set_option linter.unusedVariables false

/-- The cells of a row of branches. -/
def RowIs (xs : List Value) (l : List Br) (kv : Nat → Value) (k : Nat) : Prop :=
  ∀ i, i < k → xs[i * 4]? = some (.string (l.getD i default).key) ∧ xs[i * 4 + 1]? = some (.string (l.getD i default).val) ∧ xs[i * 4 + 2]? = some (.int .i64 (l.getD i default).at_) ∧ xs[i * 4 + 3]? = some (kv i)
theorem set4_same (xs : List Value) (k n : Nat) (a b c d : Value) (hl : xs.length = n * 4) (hk : k < n) :
    ((((xs.set (k * 4) a).set (k * 4 + 1) b).set (k * 4 + 2) c).set (k * 4 + 3) d)[k * 4]? = some a ∧ ((((xs.set (k * 4) a).set (k * 4 + 1) b).set (k * 4 + 2) c).set (k * 4 + 3) d)[k * 4 + 1]? = some b ∧
    ((((xs.set (k * 4) a).set (k * 4 + 1) b).set (k * 4 + 2) c).set (k * 4 + 3) d)[k * 4 + 2]? = some c ∧ ((((xs.set (k * 4) a).set (k * 4 + 1) b).set (k * 4 + 2) c).set (k * 4 + 3) d)[k * 4 + 3]? = some d := by
  refine ⟨?_, ?_, ?_, ?_⟩
  · rw [List.getElem?_set_ne (by omega), List.getElem?_set_ne (by omega), List.getElem?_set_ne (by omega), List.getElem?_set_self (by omega)]
  · rw [List.getElem?_set_ne (by omega), List.getElem?_set_ne (by omega), List.getElem?_set_self (by simp; omega)]
  · rw [List.getElem?_set_ne (by omega), List.getElem?_set_self (by simp; omega)]
  · rw [List.getElem?_set_self (by simp; omega)]
theorem set4_other (xs : List Value) (k j : Nat) (a b c d : Value) (h : j < k * 4 ∨ k * 4 + 3 < j) : ((((xs.set (k * 4) a).set (k * 4 + 1) b).set (k * 4 + 2) c).set (k * 4 + 3) d)[j]? = xs[j]? := by
  rw [List.getElem?_set_ne (by omega), List.getElem?_set_ne (by omega), List.getElem?_set_ne (by omega), List.getElem?_set_ne (by omega)]
/-- The value is a slice of the call's own that holds these branches, and all their slices lie in blocks of S, no two in one. -/
inductive BrO (w : World) : (Nat → Prop) → Value → List Br → Prop
  | nil (S : Nat → Prop) (a : Option Addr) (cap : Nat) : cap ≤ maxLen → BrO w S (.slice a 0 cap) []
  | row (S : Nat → Prop) (g cap : Nat) (l : List Br) (kv : Nat → Value) (xs : List Value) (Si : Nat → Nat → Prop) : 0 < l.length → S g →
      w.ownsRow 0 34 4 (.slice (some ⟨g, 0, none⟩) l.length cap) l.length xs → RowIs xs l kv l.length →
      (∀ i, i < l.length → (l.getD i default).key.size ≤ maxLen ∧ (l.getD i default).val.size ≤ maxLen) →
      (∀ i b, i < l.length → Si i b → S b ∧ b ≠ g) →
      (∀ i j b, i < j → j < l.length → Si i b → ¬ Si j b) →
      (∀ i, i < l.length → BrO w (Si i) (kv i) (l.getD i default).kids) →
      BrO w S (.slice (some ⟨g, 0, none⟩) l.length cap) l
theorem BrO.brs {w : World} {S : Nat → Prop} {v : Value} {l : List Br} (h : BrO w S v l) : Brs S w v l := by
  induction h with
  | nil S a cap hc => exact .nil a cap hc
  | row S g cap l kv xs Si h0 h1 h2 h3 h4 h5 h6 h7 ih =>
    obtain ⟨hl, hc⟩ := id h2
    rcases hc with ⟨hx, _⟩ | ⟨g', cap', cur, hv, hb, hg, hn, hm, hz, ht⟩
    · cases hx
    · simp only [Value.slice.injEq, Option.some.injEq, Addr.mk.injEq] at hv
      obtain ⟨⟨rfl, _, _⟩, _, rfl⟩ := hv
      refine .row g 0 cap l kv h0 hn hm (Array.getElem?_eq_some_iff.1 hg).1 h1 (fun i hi => ?_) h4 (fun i hi => (ih i hi).mono (fun b hb => (h5 i b hi hb).1))
      obtain ⟨e0, e1, e2, e3⟩ := h3 i hi
      rw [Nat.zero_add]
      exact ⟨(h2.cellAt _ (by omega)).trans e0, (h2.cellAt _ (by omega)).trans e1, (h2.cellAt _ (by omega)).trans e2, (h2.cellAt _ (by omega)).trans e3⟩
theorem BrO.touch {w w' : World} {S T : Nat → Prop} {v : Value} {l : List Br} (h : BrO w S v l) (ht : Touch T w w') (hn : ∀ k, S k → ¬ T k) : BrO w' S v l := by
  induction h with
  | nil S a cap hc => exact .nil S a cap hc
  | row S g cap l kv xs Si h0 h1 h2 h3 h4 h5 h6 h7 ih =>
    exact .row S g cap l kv xs Si h0 h1 (own_kept h2 ht (fun k hk => by cases hk; exact hn g h1)) h3 h4 h5 h6 (fun i hi => ih i hi (fun k hk => hn k (h5 i k hi hk).1))
theorem BrO.blw {w w' : World} {S : Nat → Prop} {v : Value} {l : List Br} (h : BrO w S v l) (hb : Below w.heap.size w w') : BrO w' S v l := h.touch (T := fun _ => False) (Touch.ofBelow hb) (fun _ _ h => h)
theorem BrO.mono {w : World} {S T : Nat → Prop} {v : Value} {l : List Br} (h : BrO w S v l) (hst : ∀ k, S k → T k) : BrO w T v l := by
  cases h with
  | nil S a cap hc => exact .nil T a cap hc
  | row S g cap l kv xs Si h0 h1 h2 h3 h4 h5 h6 h7 => exact .row T g cap l kv xs Si h0 (hst g h1) h2 h3 h4 (fun i b hi hb => ⟨hst b (h5 i b hi hb).1, (h5 i b hi hb).2⟩) h6 h7
theorem BrO.shape {w : World} {S : Nat → Prop} {v : Value} {l : List Br} (h : BrO w S v l) : ∃ a cap, v = .slice a l.length cap ∧ l.length ≤ cap ∧ cap ≤ maxLen := h.brs.shape
theorem infoBr : (Tryd.prog.info? 34).map (fun i => (i.zero, i.size, i.bytes)) = some (some (.agg #[.string ⟨#[]⟩, .string ⟨#[]⟩, .int .i64 0, .slice none 0 0]), 4, 64) := by kernel_rfl

set_option maxRecDepth 100000 in
set_option maxHeartbeats 1000000 in
theorem toBranch_of (k v : ByteArray) (at_ : Int) (l : List Br) (a : Option Addr) (n cap : Nat) (w : World)
    (HK : ∀ wx, Below w.heap.size w wx → Calls Tryd.prog 40 #[.slice a n cap] wx fun e w' => ∃ g, e = .returned (.slice (some ⟨g, 0, none⟩) l.length l.length) ∧ BrO w' (fun b => wx.heap.size ≤ b ∧ b < w'.heap.size) (.slice (some ⟨g, 0, none⟩) l.length l.length) l ∧ Below wx.heap.size wx w') :
    Calls Tryd.prog 20 #[.agg #[.string k, .string v, .int .i64 at_, .slice a n cap]] w fun e w' => ∃ g, e = .returned (.agg #[.string k, .string v, .int .i64 at_, .slice (some ⟨g, 0, none⟩) l.length l.length]) ∧ BrO w' (fun b => w.heap.size ≤ b ∧ b < w'.heap.size) (.slice (some ⟨g, 0, none⟩) l.length l.length) l ∧ Below w.heap.size w w' := by
  have HKK := hide HK
  clear HK
  go_enter Tryd.func20, Tryd.ntmps20
  go_wp2_with fail
  have B3 := hide ((((Below.refl w.heap.size w).alloc (Nat.le_refl _) (.cells #[.string k, .string v, .int .i64 at_, .slice a n cap] 25)).alloc (by simp) (.cells #[.string ⟨#[]⟩, .string ⟨#[]⟩, .int .i64 0, .slice none 0 0] 34)).alloc (by simp; omega) (.cells #[.string k, .string v, .int .i64 at_, .slice none 0 0] 34))
  have X3 := hide (Blk.new ((w.alloc (.cells #[.string k, .string v, .int .i64 at_, .slice a n cap] 25)).alloc (.cells #[.string ⟨#[]⟩, .string ⟨#[]⟩, .int .i64 0, .slice none 0 0] 34)) #[.string k, .string v, .int .i64 at_, .slice none 0 0] 34 (w.heap.size + 1 + 1) (by simp))
  have Y3 := hide ((Blk.new (w.alloc (.cells #[.string k, .string v, .int .i64 at_, .slice a n cap] 25)) #[.string ⟨#[]⟩, .string ⟨#[]⟩, .int .i64 0, .slice none 0 0] 34 (w.heap.size + 1) (by simp)).alloc (.cells #[.string k, .string v, .int .i64 at_, .slice none 0 0] 34))
  have Z3 : (((w.alloc (.cells #[.string k, .string v, .int .i64 at_, .slice a n cap] 25)).alloc (.cells #[.string ⟨#[]⟩, .string ⟨#[]⟩, .int .i64 0, .slice none 0 0] 34)).alloc (.cells #[.string k, .string v, .int .i64 at_, .slice none 0 0] 34)).heap.size = w.heap.size + 3 := by simp
  generalize ((w.alloc (.cells #[.string k, .string v, .int .i64 at_, .slice a n cap] 25)).alloc (.cells #[.string ⟨#[]⟩, .string ⟨#[]⟩, .int .i64 0, .slice none 0 0] 34)).alloc (.cells #[.string k, .string v, .int .i64 at_, .slice none 0 0] 34) = w3 at *
  refine (unhide HKK w3 (unhide B3)).mono ?_
  rintro e w4 ⟨g, rfl, hO, hb4⟩
  obtain ⟨v', hv'⟩ : ∃ v', v' = Value.slice (some ⟨g, 0, none⟩) l.length l.length := ⟨_, rfl⟩
  rw [← hv'] at hO
  have X4 := (unhide X3).below hb4
  have c0 := X4.cell 0 rfl
  have c1 := X4.cell 1 rfl
  have c2 := X4.cell 2 rfl
  have c3 := X4.cell 3 rfl
  have f3 := X4.fro 3
  have hz4 := hb4.size
  have HO4 := hide (hO.mono (T := fun b => w3.heap.size ≤ b ∧ b < w4.heap.size) (fun _ h => h))
  have HB5 := hide (((unhide B3).trans (hb4.mono (by omega))).setCell (p := ⟨w.heap.size + 1 + 1, 3, none⟩) (by simp; omega) v')
  have e0 : (w4.setCell ⟨w.heap.size + 1 + 1, 3, none⟩ v').cell? ⟨w.heap.size + 1 + 1, 0, none⟩ = some (.string k) := (World.cell?_setCell_other _ _ _ _ (by simp)).trans c0
  have e1 : (w4.setCell ⟨w.heap.size + 1 + 1, 3, none⟩ v').cell? ⟨w.heap.size + 1 + 1, 1, none⟩ = some (.string v) := (World.cell?_setCell_other _ _ _ _ (by simp)).trans c1
  have e2 : (w4.setCell ⟨w.heap.size + 1 + 1, 3, none⟩ v').cell? ⟨w.heap.size + 1 + 1, 2, none⟩ = some (.int .i64 at_) := (World.cell?_setCell_other _ _ _ _ (by simp)).trans c2
  have e3 : (w4.setCell ⟨w.heap.size + 1 + 1, 3, none⟩ v').cell? ⟨w.heap.size + 1 + 1, 3, none⟩ = some v' := World.cell?_setCell_same _ _ _ c3
  have Y5 := ((unhide Y3).below hb4).other (C := w.heap.size + 1 + 1) 3 v' (by omega)
  have y0 := Y5.cell 0 rfl
  have y1 := Y5.cell 1 rfl
  have y2 := Y5.cell 2 rfl
  have y3 := Y5.cell 3 rfl
  have h0 := Y5.fro 0
  have h1 := Y5.fro 1
  have h2 := Y5.fro 2
  have h3 := Y5.fro 3
  have Y6 := hide ((((Y5.set 0 (.string k) (by simp)).set 1 (.string v) (by simp)).set 2 (.int .i64 at_) (by simp)).set 3 v' (by simp))
  have HT6 := hide ((((((Touch.refl (fun b => b = w.heap.size + 1 ∨ b = w.heap.size + 1 + 1) w4).setCell ⟨w.heap.size + 1 + 1, 3, none⟩ v' (fun _ => .inr rfl)).setCell ⟨w.heap.size + 1, 0, none⟩ (.string k) (fun _ => .inl rfl)).setCell ⟨w.heap.size + 1, 1, none⟩ (.string v) (fun _ => .inl rfl)).setCell ⟨w.heap.size + 1, 2, none⟩ (.int .i64 at_) (fun _ => .inl rfl)).setCell ⟨w.heap.size + 1, 3, none⟩ v' (fun _ => .inl rfl))
  have HO6 := hide (((unhide HO4).touch (unhide HT6) (fun b hb => by omega)).mono (T := fun b => w.heap.size ≤ b ∧ b < (((((w4.setCell ⟨w.heap.size + 1 + 1, 3, none⟩ v').setCell ⟨w.heap.size + 1, 0, none⟩ (.string k)).setCell ⟨w.heap.size + 1, 1, none⟩ (.string v)).setCell ⟨w.heap.size + 1, 2, none⟩ (.int .i64 at_)).setCell ⟨w.heap.size + 1, 3, none⟩ v').heap.size) (fun b hb => ⟨by omega, Nat.lt_of_lt_of_le hb.2 (unhide HT6).size⟩))
  have HB6 := hide (((((unhide HB5).setCell (p := ⟨w.heap.size + 1, 0, none⟩) (by simp) (.string k)).setCell (p := ⟨w.heap.size + 1, 1, none⟩) (by simp) (.string v)).setCell (p := ⟨w.heap.size + 1, 2, none⟩) (by simp) (.int .i64 at_)).setCell (p := ⟨w.heap.size + 1, 3, none⟩) (by simp) v')
  clear X4 hO hb4 X3 B3 Y5 Y3 HO4 HB5 Z3 hz4 HT6
  subst hv'
  go_wp2_with fail
  have z0 := (unhide Y6).cell 0 rfl
  have z1 := (unhide Y6).cell 1 rfl
  have z2 := (unhide Y6).cell 2 rfl
  have z3 := (unhide Y6).cell 3 rfl
  refine bodyPost_ret (v := .agg #[.string k, .string v, .int .i64 at_, .slice (some ⟨g, 0, none⟩) l.length l.length]) (by simp [results, Tryd.results20, go_sem, z0, z1, z2, z3]) rfl ?_
  exact ⟨g, rfl, unhide HO6, unhide HB6⟩
theorem made4_len (l : Nat) : (madeCells (Value.agg #[.string ⟨#[]⟩, .string ⟨#[]⟩, .int .i64 0, .slice none 0 0]).cells (l * 4)).toList.length = l * 4 := by
  rw [Array.length_toList, size_madeCells]
set_option maxRecDepth 100000 in
set_option maxHeartbeats 2000000 in
theorem toBranchS_any {S : Nat → Prop} {w0 : World} {v : Value} {l : List Br} (h : Brs S w0 v l) : wtL l ≤ 1048576 → ∀ (w : World), Below w0.heap.size w0 w →
    Calls Tryd.prog 40 #[v] w fun e w' => ∃ g, e = .returned (.slice (some ⟨g, 0, none⟩) l.length l.length) ∧ BrO w' (fun b => w.heap.size ≤ b ∧ b < w'.heap.size) (.slice (some ⟨g, 0, none⟩) l.length l.length) l ∧ Below w.heap.size w w' := by
  obtain ⟨i0, hi, hz0, hz1, hz2⟩ := info_parts infoBr
  induction h with
  | nil a cap hc =>
    intro hs w hb0
    clear hb0 hc hs
    go_enter Tryd.func40, Tryd.ntmps40
    go_wp2_with (at_make; refine wpList_make_full _ rfl _ _ 32 rfl w.heap.size 34 i0 _ 4 Tryd.underlying32 hi hz0 hz1 .i64 .i64 _ _ 0 rfl rfl rfl rfl (by rw [hz2]; omega) (by unfold maxLen; omega) (Nat.le_refl _) ?_; intro w1 hown1 hg1)
    have HZ := hide ((Below.refl w.heap.size w).grown hg1 (Nat.le_refl _) (fun k h => by cases h))
    clear hown1 hg1
    go_loopw [4] (fun i wr => i = .int .i64 0 ∧ wr = w1) (fun i _ => 0)
    case atStart => exact ⟨rfl, rfl⟩
    case round =>
      obtain ⟨rfl, hwr⟩ := hrel
      subst wr
      go_wp2_with fail
      go_ret
      exact ⟨w.heap.size, rfl, .nil _ _ _ (by unfold maxLen; omega), unhide HZ⟩
  | row b off cap l kv p0 p1 p2 p3 p4 p5 p6 p7 ih =>
    intro hs w hb0
    have HC := hide (BrAt.mk p3 p4 p5 p6 p7 : BrAt S w0 b off l kv)
    have HI := hide ih
    have HB0 := hide hb0
    have hw9 := wtL_eq l
    have hw8 := wtS_lo l
    have hs' : l.length ≤ 1048576 := by omega
    have HWT := hide (fun k (hk : k < l.length) => show wtL (l.getD k default).kids ≤ 1048576 by
      have q1 := kid_wt l k hk
      rw [Br.wt_eq] at q1
      omega)
    clear p3 p4 p5 p6 p7 ih hb0 p1 p2 hs hw9 hw8
    go_enter Tryd.func40, Tryd.ntmps40
    go_wp2_with (at_make; refine wpList_make_full _ rfl _ _ 32 rfl w.heap.size 34 i0 _ 4 Tryd.underlying32 hi hz0 hz1 .i64 .i64 _ _ l.length rfl rfl rfl rfl (by rw [hz2]; omega) (by unfold maxLen; omega) (Nat.le_refl _) ?_; intro w1 hown1 hg1)
    have HZ := hide (And.intro hown1 ((Below.refl w.heap.size w).grown hg1 (Nat.le_refl _) (fun k h => by cases h)))
    have hlt1 : w.heap.size < w1.heap.size := (World.ownsRow.lt hown1 w.heap.size rfl).2
    clear hown1 hg1
    go_loopw [4] (fun i wr => ∃ (k : Nat) (xs : List Value) (kvs : Nat → Value) (lo : Nat → Nat), k ≤ l.length ∧ i = .int .i64 k ∧ wr.ownsRow w.heap.size 34 4 (.slice (some ⟨w.heap.size, 0, none⟩) l.length l.length) l.length xs ∧ Below w.heap.size w wr ∧ RowIs xs l kvs k ∧
      (∀ j, j < k → BrO wr (fun b => lo j ≤ b ∧ b < lo (j + 1)) (kvs j) (l.getD j default).kids) ∧ (∀ j, j ≤ k → w.heap.size < lo j ∧ lo j ≤ wr.heap.size) ∧ (∀ j, j < k → lo j ≤ lo (j + 1))) (fun i _ => l.length - (intOf i).toNat)
    case atStart => exact ⟨0, _, fun _ => .bool false, fun _ => w1.heap.size, Nat.zero_le _, rfl, (unhide HZ).1, (unhide HZ).2, fun i hi => by omega, fun j hj => by omega, fun j hj => ⟨hlt1, Nat.le_refl _⟩, fun j hj => by omega⟩
    case round =>
      clear hlt1 HZ
      obtain ⟨k, xs, kvs, lo, hk, rfl, hL, hbel, hR, hK, hlo, hmo⟩ := hrel
      by_cases hlt : k < l.length
      · obtain ⟨s0, s1, s2, s3⟩ := (unhide HC).cells k hlt
        have hbl := (unhide HC).lt
        have hb00 := (unhide HB0).trans (hbel.mono (unhide HB0).size)
        have c0 := (hb00.cell (p := ⟨b, off + k * 4, none⟩) hbl).trans s0
        have c1 := (hb00.cell (p := ⟨b, off + k * 4 + 1, none⟩) hbl).trans s1
        have c2 := (hb00.cell (p := ⟨b, off + k * 4 + 2, none⟩) hbl).trans s2
        have c3 := (hb00.cell (p := ⟨b, off + k * 4 + 3, none⟩) hbl).trans s3
        obtain ⟨ka, kc, hkv, _, _⟩ := ((unhide HC).kids k hlt).shape
        have hk0 : (0 : Int) ≤ (k : Int) := by omega
        have hk1 : (k : Int) < (l.length : Int) := by omega
        have hbs := hbel.size
        have HT := hide (toBranch_of (l.getD k default).key (l.getD k default).val (l.getD k default).at_ (l.getD k default).kids ka (l.getD k default).kids.length kc wr
          (fun wy q2 => by
            have := unhide HI k hlt (unhide HWT k hlt) wy ((unhide HB0).trans ((hbel.trans (q2.mono hbel.size)).mono (unhide HB0).size))
            rw [hkv] at this
            exact this))
        rw [hkv] at c3
        have hws : Hid (w.heap.size < wr.heap.size) := hide (by have := hlo k (Nat.le_refl _); omega)
        have HL := hide hL
        have HB := hide hbel
        have HP := hide (And.intro hR (And.intro hK (And.intro hlo hmo)))
        clear hb00 s0 s1 s2 s3 hbel hkv hL hR hK hlo hmo
        obtain ⟨fk, hfk⟩ : ∃ x, x = (l.getD k default).key := ⟨_, rfl⟩
        obtain ⟨fv, hfv⟩ : ∃ x, x = (l.getD k default).val := ⟨_, rfl⟩
        obtain ⟨fa, hfa⟩ : ∃ x, x = (l.getD k default).at_ := ⟨_, rfl⟩
        obtain ⟨fs, hfs⟩ : ∃ x, x = (l.getD k default).kids := ⟨_, rfl⟩
        rw [← hfk] at c0 HT
        rw [← hfv] at c1 HT
        rw [← hfa] at c2 HT
        rw [← hfs] at c3 HT
        have HFE := hide (And.intro hfk (And.intro hfv (And.intro hfa hfs)))
        clear hfk hfv hfa hfs
        go_wp2_with fail
        refine (unhide HT).mono ?_
        rintro e w2 ⟨g2, rfl, hO2, hb2⟩
        have hO : w2.ownsRow w.heap.size 34 4 (.slice (some ⟨w.heap.size, 0, none⟩) l.length l.length) l.length xs := own_kept (T := fun _ => False) (unhide HL) (Touch.ofBelow hb2) (fun _ _ h => h)
        have hB2 := (unhide HB).trans (hb2.mono hbs)
        have hxl : xs.length = l.length * 4 := hO.1
        obtain ⟨o0, u0⟩ := get_some hxl (show k * 4 < l.length * 4 by omega)
        obtain ⟨o1, u1⟩ := get_some hxl (show k * 4 + 1 < l.length * 4 by omega)
        obtain ⟨o2, u2⟩ := get_some hxl (show k * 4 + 2 < l.length * 4 by omega)
        obtain ⟨o3, u3⟩ := get_some hxl (show k * 4 + 3 < l.length * 4 by omega)
        have d0 := (hO.cellAt (k * 4) (by omega)).trans u0
        have d1 := (hO.cellAt (k * 4 + 1) (by omega)).trans u1
        have d2 := (hO.cellAt (k * 4 + 2) (by omega)).trans u2
        have d3 := (hO.cellAt (k * 4 + 3) (by omega)).trans u3
        have f0 := hO.frozenAt (k * 4)
        have f1 := hO.frozenAt (k * 4 + 1)
        have f2 := hO.frozenAt (k * 4 + 2)
        have f3 := hO.frozenAt (k * 4 + 3)
        have q0 := (hO.stored (k * 4) (.string fk)).1
        have q1 := (q0.stored (k * 4 + 1) (.string fv)).1
        have q2 := (q1.stored (k * 4 + 2) (.int .i64 fa)).1
        have q3 := (q2.stored (k * 4 + 3) (.slice (some ⟨g2, 0, none⟩) fs.length fs.length)).1
        have RB := hide (((((hB2.setCell (p := ⟨w.heap.size, k * 4, none⟩) (Nat.le_refl _) (.string fk)).setCell (p := ⟨w.heap.size, k * 4 + 1, none⟩) (Nat.le_refl _) (.string fv)).setCell (p := ⟨w.heap.size, k * 4 + 2, none⟩) (Nat.le_refl _) (.int .i64 fa)).setCell (p := ⟨w.heap.size, k * 4 + 3, none⟩) (Nat.le_refl _) (.slice (some ⟨g2, 0, none⟩) fs.length fs.length)))
        have RT := hide (((((Touch.refl (fun b => b = w.heap.size) w2).setCell ⟨w.heap.size, k * 4, none⟩ (.string fk) (fun _ => rfl)).setCell ⟨w.heap.size, k * 4 + 1, none⟩ (.string fv) (fun _ => rfl)).setCell ⟨w.heap.size, k * 4 + 2, none⟩ (.int .i64 fa) (fun _ => rfl)).setCell ⟨w.heap.size, k * 4 + 3, none⟩ (.slice (some ⟨g2, 0, none⟩) fs.length fs.length) (fun _ => rfl))
        have RQ := hide q3
        have RK := hide (And.intro hb2 hO2)
        have HXL := hide hxl
        clear q0 q1 q2 q3 hO hB2 hb2 hO2 HT HL HB u0 u1 u2 u3 hxl
        go_wp2_with fail
        refine ⟨⟨k + 1, _, fun j => if j = k then .slice (some ⟨g2, 0, none⟩) fs.length fs.length else kvs j, fun j => if j ≤ k then lo j else w2.heap.size, by omega, by go_num, unhide RQ, unhide RB, ?_, ?_, ?_, ?_⟩, ?_⟩
        · intro j hj
          dsimp only
          by_cases e : j = k
          · subst e
            rw [if_pos rfl]
            obtain ⟨g0, g1, g2', g3⟩ := set4_same xs j l.length (.string fk) (.string fv) (.int .i64 fa) (.slice (some ⟨g2, 0, none⟩) fs.length fs.length) (unhide HXL) hlt
            obtain ⟨r0, r1, r2, r3⟩ := unhide HFE
            rw [← r0, ← r1, ← r2]
            exact ⟨g0, g1, g2', g3⟩
          · rw [if_neg e, set4_other _ _ _ _ _ _ _ (by omega), set4_other _ _ _ _ _ _ _ (by omega), set4_other _ _ _ _ _ _ _ (by omega), set4_other _ _ _ _ _ _ _ (by omega)]
            exact (unhide HP).1 j (by omega)
        · intro j hj
          dsimp only
          by_cases e : j = k
          · subst e
            rw [if_pos rfl, ← (unhide HFE).2.2.2]
            refine ((unhide RK).2.touch (unhide RT) (fun b hb (e : b = w.heap.size) => by have h1 := unhide hws; have h2 : wr.heap.size ≤ b := hb.1; omega)).mono (fun b hb => ?_)
            have h2 : wr.heap.size ≤ b ∧ b < w2.heap.size := hb
            have := ((unhide HP).2.2.1 j (Nat.le_refl _)).2
            rw [if_pos (Nat.le_refl _), if_neg (by omega)]
            omega
          · rw [if_neg e]
            have q := ((unhide HP).2.1 j (by omega)).blw (unhide RK).1
            refine (q.touch (unhide RT) (fun b hb (e : b = w.heap.size) => by have h1 := ((unhide HP).2.2.1 j (by omega)).1; have h2 : lo j ≤ b := hb.1; omega)).mono (fun b hb => ?_)
            rw [if_pos (by omega), if_pos (by omega)]
            exact hb
        · intro j hj
          dsimp only
          have q1 := (unhide RT).size
          have q2 := (unhide RK).1.size
          have q3 := unhide hws
          by_cases e : j ≤ k
          · rw [if_pos e]
            have := (unhide HP).2.2.1 j e
            omega
          · rw [if_neg e]
            omega
        · intro j hj
          dsimp only
          have q2 := (unhide RK).1.size
          by_cases e : j < k
          · rw [if_pos (by omega), if_pos (by omega)]
            exact (unhide HP).2.2.2 j e
          · rw [if_pos (by omega), if_neg (by omega)]
            have := ((unhide HP).2.2.1 j (by omega)).2
            omega
        · simp [intOf]; omega
      · obtain rfl : k = l.length := by omega
        have hg0 := (World.ownsRow.lt hL w.heap.size rfl).2
        have RR := hide (And.intro hL (And.intro hbel (And.intro hR (And.intro hK (And.intro hlo hmo)))))
        clear hL hbel hR hK hlo hmo
        go_wp2_with fail
        go_ret
        obtain ⟨r1, r2, r3, r4, r5, r6⟩ := unhide RR
        have lo_le : ∀ d j, j + d ≤ l.length → lo j ≤ lo (j + d) := by
          intro d
          induction d with
          | zero => intro j _; exact Nat.le_refl _
          | succ d ihd => intro j hj; have := ihd j (by omega); have := r6 (j + d) (by omega); rw [show j + (d + 1) = j + d + 1 by omega]; omega
        refine ⟨w.heap.size, rfl, .row _ w.heap.size l.length l kvs xs (fun j b => lo j ≤ b ∧ b < lo (j + 1)) p0 ⟨Nat.le_refl _, hg0⟩ (World.ownsRow.mono r1 (Nat.zero_le _)) r3 (unhide HC).small ?_ ?_ r4, r2⟩
        · intro i b hi hb
          have q1 := r5 i (by omega)
          have q2 := r5 (i + 1) (by omega)
          exact ⟨⟨by omega, by omega⟩, by omega⟩
        · intro i j b hij hj hb hb'
          have := lo_le (j - (i + 1)) (i + 1) (by omega)
          rw [show i + 1 + (j - (i + 1)) = j by omega] at this
          omega
end Go.Proofs.YtinpoaghedhknaaDoor.Sha
