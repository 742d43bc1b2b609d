/- The letter of a record: strings.IndexByte of "TCE". impl.readRecord, walked. (*State).follow, walked. impl.FoldRecords, walked. impl.FoldRecords, walked: the loops. What a log's records fold to, whatever their number and length: pure. -/
import Derived.Test.YtpdjfjapdmopoaaIn
import Derived.Laws.Externs
import Derived.Test.YtpdjfjapdmopoaaRdEI
import Derived.Test.YtpdjfjapdmopoaaSgM
import Derived.Test.YtpdjfjapdmopoaaSta
import Derived.Test.YtpdjfjapdmopoaaQb
import Derived.Deep.DeepCutAuto
import Derived.Test.YtpdjfjapdmopoaaStL
import Derived.Test.YtpdjfjapdmopoaaAppR
import Derived.Deep.RegionLaw
import Derived.Test.YtpdjfjapdmopoaaStO
import Derived.Test.YtpdjfjapdmopoaaLgP
namespace Go.Proofs.Ytpdjfjapdmopoaa
open Go.ChangeShapes Go.WideShapes Go.ChangeAt Go.RowKit
set_option linter.unusedVariables false

def letP (c : Int) : Int := if c = 84 then 0 else if c = 67 then 1 else if c = 69 then 2 else -1
theorem idx_let (c : Int) (h0 : 0 ≤ c) (h1 : c ≤ 255) : firstIdx ⟨#[84, 67, 69]⟩ c.toNat.toUInt8 = letP c := by
  have key : ∀ n : Nat, n < 256 → firstIdx ⟨#[84, 67, 69]⟩ n.toUInt8 = letP (n : Int) := by decide +kernel
  have h := key c.toNat (by omega)
  rwa [Int.toNat_of_nonneg h0] at h
theorem call_idx (c : Int) (h0 : 0 ≤ c) (h1 : c ≤ 255) (w : World) : (callFunc 68 #[.string ⟨#[84, 67, 69]⟩, .int .u8 c]).run Try.prog w = .ok (.value (.int .i64 (letP c))) w := by
  rw [run_callFunc_extern Try.func68 (by kernel_rfl) (by kernel_rfl) (by kernel_rfl) (e := Extern.BytealgIndexByte.indexByte) (by kernel_rfl), run_indexByte_string, idx_let c h0 h1]; rfl
set_option maxRecDepth 100000 in
theorem sliteIndexByte_any (c : Int) (h0 : 0 ≤ c) (h1 : c ≤ 255) (w : World) :
    Calls Try.prog 53 #[.string ⟨#[84, 67, 69]⟩, .int .u8 c] w fun e w' => e = .returned (.int .i64 (letP c)) ∧ w' = w := by
  have h := call_idx c h0 h1 w
  generalize letP c = r at *
  go_enter Try.func53, Try.ntmps53
  go_wp2_with fail
  go_ret
  exact ⟨rfl, rfl⟩
set_option maxRecDepth 100000 in
theorem indexByte_any (c : Int) (h0 : 0 ≤ c) (h1 : c ≤ 255) (w : World) :
    Calls Try.prog 36 #[.string ⟨#[84, 67, 69]⟩, .int .u8 c] w fun e w' => e = .returned (.int .i64 (letP c)) ∧ w' = w := by
  have H := hide (sliteIndexByte_any c h0 h1 w)
  generalize letP c = r at *
  go_enter Try.func36, Try.ntmps36
  go_wp2_with fail
  refine (unhide H).mono ?_
  rintro e w' ⟨rfl, hw⟩
  have hw2 := hw.symm
  clear hw
  subst hw2
  go_wp2_with fail
  go_ret
  exact ⟨rfl, rfl⟩
end Go.Proofs.Ytpdjfjapdmopoaa
namespace Go.Proofs.Ytpdjfjapdmopoaa
open Go.ChangeShapes Go.WideShapes Go.ChangeAt Go.RowKit
set_option linter.unusedVariables false
set_option linter.unusedSimpArgs false

/-- A record. -/
inductive Rc where
  | T (a b : Int)
  | C (k : Int)
  | E (e : En)
def rcV : Option Rc → Value
  | none => .nilIface
  | some (.T a b) => .iface 73 (.agg #[.int .i64 a, .int .i64 b])
  | some (.C k) => .iface 76 (.agg #[.int .i64 k])
  | some (.E e) => .iface 82 (.agg #[.int .i64 e.t, .int .i64 e.k, .string e.d])
/-- The record of a text, and whether it is one. -/
def rcOf (t : ByteArray) : Option Rc × Bool :=
  if t.size = 0 then (none, false)
  else if bAt t 0 = 84 then (some (.T (numP 4 (some ((bytesI t).drop 1))).1 ((numP 1 (numP 4 (some ((bytesI t).drop 1))).2).1 - 1)), doneP (numP 1 (numP 4 (some ((bytesI t).drop 1))).2).2)
  else if bAt t 0 = 67 then (some (.C (numP 4 (some ((bytesI t).drop 1))).1), doneP (numP 4 (some ((bytesI t).drop 1))).2)
  else if bAt t 0 = 69 then (some (.E ⟨(entRead ((bytesI t).drop 1)).1.1, (entRead ((bytesI t).drop 1)).1.2.1, (entRead ((bytesI t).drop 1)).1.2.2⟩), decide ((entRead ((bytesI t).drop 1)).2 = 0))
  else (none, false)
theorem bytes_ext (t : ByteArray) (h : 1 ≤ t.size) : bytesI (t.extract 1 t.size) = (bytesI t).drop 1 := by
  unfold bytesI
  rw [← List.map_drop]
  congr 1
  obtain ⟨⟨l⟩⟩ := t
  simp [ByteArray.extract, ByteArray.copySlice]
  apply List.take_of_length_le
  show l.tail.length ≤ l.length - 1
  rw [List.length_tail]; omega
theorem RdV.up {w : World} {b b' : Nat} {v : Value} {rs : List Int} (h : RdV w b v rs) (hb : b ≤ b') : RdV w b' v rs := by
  obtain ⟨a, cap, hv, h1, h2, hc, hr⟩ := h
  refine ⟨a, cap, hv, h1, h2, ?_, hr⟩
  rcases hc with h0 | ⟨c, off, ha, hlt, hcell⟩
  · exact .inl h0
  · exact .inr ⟨c, off, ha, by omega, hcell⟩
theorem rec_ret {x y : Value} {a b : Bool} (h : x = y ∧ a = b) : Ending.returned (.tuple #[x, .bool a]) = .returned (.tuple #[y, .bool b]) := by rw [h.1, h.2]

set_option maxRecDepth 100000 in
set_option maxHeartbeats 1000000 in
theorem readRecord_any (t : ByteArray) (w : World) (hs : t.size ≤ 65536) :
    Calls Try.prog 21 #[.string t] w fun e w' => e = .returned (.tuple #[rcV (rcOf t).1, .bool (rcOf t).2]) ∧ Below w.heap.size w w' := by
  by_cases h0 : t.size = 0
  · have he : t.toList.isEmpty = true := emptyB_iff.2 h0
    have HD := hide (show rcOf t = (none, false) by unfold rcOf; rw [if_pos h0])
    go_enter Try.func21, Try.ntmps21
    go_wp2_with fail
    go_ret2
    exact ⟨by rw [unhide HD]; rfl, Below.refl _ _⟩
  · have he : t.toList.isEmpty = false := by
      rw [← Bool.not_eq_true]; exact fun h => h0 (emptyB_iff.1 h)
    have h1 : (1 : Int) ≤ (t.size : Int) := by omega
    have e0 := bAt_eq t 0 (by omega)
    have l0 := bAt_lo t 0
    have k0 := bAt_hi t 0
    have HH0 := hide h0
    have hx : (t.extract 1 t.size).size ≤ t.size := by rw [ByteArray.size_extract]; omega
    obtain ⟨cap1, w1, hcv, hRd, hb1⟩ := str_bytes (t.extract 1 t.size) w (by unfold maxLen; omega)
    have HBE := bytes_ext t (by omega)
    rw [HBE] at hcv hRd
    have hbl : ((bytesI t).drop 1).length ≤ 65536 := by rw [List.length_drop, bytesI_len2]; omega
    have HOF := hide (show rcOf t = _ by unfold rcOf; rw [if_neg h0])
    have HIX := hide (fun wx => indexByte_any (bAt t 0) l0 k0 wx)
    clear HBE h0 hx
    generalize (bytesI t).drop 1 = b at *
    generalize bAt t 0 = c at *
    have R2 := hide (Rd.new _ b w1 hRd 68)
    have HRV := hide ((hRd.kept (T := fun _ => False) (Nat.le_refl _) ((Touch.refl _ w1).alloc (.cells #[.slice (some ⟨w.heap.size, 0, none⟩) b.length cap1, .bool false] 68)) (fun _ _ h => h)).up (b' := w1.heap.size + 1) (by omega))
    have B2 := hide (hb1.alloc hb1.size (.cells #[.slice (some ⟨w.heap.size, 0, none⟩) b.length cap1, .bool false] 68))
    have hz1 := hb1.size
    have HZ2 : Hid ((w1.alloc (.cells #[.slice (some ⟨w.heap.size, 0, none⟩) b.length cap1, .bool false] 68)).heap.size = w1.heap.size + 1) := hide (by simp)
    have X2 := hide (Blk.new w1 #[.slice (some ⟨w.heap.size, 0, none⟩) b.length cap1, .bool false] 68 w1.heap.size rfl)
    have hc1 : Try.prog.concrete 73 = true := by kernel_rfl
    have hc2 : Try.prog.concrete 76 = true := by kernel_rfl
    have hc3 : Try.prog.concrete 82 = true := by kernel_rfl
    clear hRd hb1
    go_enter Try.func21, Try.ntmps21
    go_wp2_with fail
    clear hcv e0
    generalize w1.alloc (.cells #[.slice (some ⟨w.heap.size, 0, none⟩) b.length cap1, .bool false] 68) = w2 at *
    generalize w1.heap.size = rb at *
    refine (unhide HIX w2).mono ?_
    rintro e wx ⟨rfl, hwx⟩
    have hwx2 := hwx.symm
    clear hwx HIX
    subst hwx2
    by_cases c1 : c = 84
    · have hl : letP c = 0 := by unfold letP; rw [if_pos c1]
      rw [hl]
      rw [if_pos c1] at HOF
      have N1 := hide (implNumber_any 4 4 rfl rb (some b) w2 (unhide R2) (by omega))
      have hr1 := (takeP_range (unhide R2).range 4).2
      obtain ⟨x1, hx1⟩ : ∃ x1, x1 = (numP 4 (some b)).1 := ⟨_, rfl⟩
      obtain ⟨s1, hs1⟩ : ∃ s1, s1 = (numP 4 (some b)).2 := ⟨_, rfl⟩
      have hs1r : rangeP s1 := by rw [hs1]; exact hr1
      rw [← hx1, ← hs1] at N1 HOF
      obtain ⟨x2, hx2⟩ : ∃ x2, x2 = (numP 1 s1).1 := ⟨_, rfl⟩
      obtain ⟨s2, hs2⟩ : ∃ s2, s2 = (numP 1 s1).2 := ⟨_, rfl⟩
      have hr2 := num1_range hs1r
      rw [← hx2] at hr2
      rw [← hx2, ← hs2] at HOF
      have N2 := hide (fun wx (h : Rd wx rb s1) => implNumber_any 1 1 rfl rb s1 wx h (by omega))
      rw [← hx2, ← hs2] at N2
      have mw := wrapSg (x2 - 1) (by omega) (by omega)
      clear hx1 hs1 hx2 hs2 hr1 hs1r
      go_wp2_with fail
      refine (unhide N1).mono ?_
      rintro e w3 ⟨rfl, hR3, hT3, hz3⟩
      have R3 := hide hR3
      have B3 := hide ((unhide B2).trans (hT3.below (unhide B2).size (fun k hk e => by omega)))
      clear hR3 hT3 N1 hz3
      go_wp2_with fail
      refine (unhide N2 w3 (unhide R3)).mono ?_
      rintro e w4 ⟨rfl, hR4, hT4, hz4⟩
      have B4 := hide ((unhide B3).trans (hT4.below (unhide B3).size (fun k hk e => by omega)))
      have AA := (Below.refl w4.heap.size w4).alloc (Nat.le_refl _) (.cells #[.int .i64 x1, .int .i64 (x2 - 1)] 73)
      have R5 := hide (hR4.alloc (.cells #[.int .i64 x1, .int .i64 (x2 - 1)] 73))
      have Y5 := hide (Blk.new w4 #[.int .i64 x1, .int .i64 (x2 - 1)] 73 w4.heap.size rfl)
      have B5 := hide ((unhide B4).trans (AA.mono (unhide B4).size))
      clear hR4 hT4 AA B3 B4 R3 N2 hz4
      go_upto_region 7 with fail
      generalize w4.alloc (.cells #[.int .i64 x1, .int .i64 (x2 - 1)] 73) = w5 at *
      generalize w4.heap.size = xb at *
      have y0 := Wb.cell ((unhide Y5).cell 0 rfl) (unhide Y5).1
      have y1 := Wb.cell ((unhide Y5).cell 1 rfl) (unhide Y5).1
      have HDN := hide (fun (p : Wb w5) => done_any rb s2 p.at_ ((unhide R5).kept (T := fun _ => False) (Touch.ofBelow p.below) (fun _ _ h => h)))
      go_wp2_with fail
      refine wp_region_wb (by kernel_rfl) (by kernel_rfl) ?_
      repeat (go_big_quiet_step ((go_at_call 38; exact wb_same (unhide HDN _))))
      refine wpQuiet_nil ?_
      intro w6 hw'
      obtain ⟨⟨wq, hb6⟩, hq⟩ := hw'
      change w6 = wq at hq
      subst hq
      have B6 := hide ((unhide B5).trans (hb6.mono (unhide B5).size))
      clear hb6 y0 y1 HDN
      go_wp2_with fail
      go_ret2
      exact ⟨by rw [unhide HOF]; rfl, unhide B6⟩
    by_cases c2 : c = 67
    · have hl : letP c = 1 := by unfold letP; rw [if_neg c1, if_pos c2]
      rw [hl]
      rw [if_neg c1, if_pos c2] at HOF
      have N1 := hide (implNumber_any 4 4 rfl rb (some b) w2 (unhide R2) (by omega))
      obtain ⟨x1, hx1⟩ : ∃ x1, x1 = (numP 4 (some b)).1 := ⟨_, rfl⟩
      obtain ⟨s1, hs1⟩ : ∃ s1, s1 = (numP 4 (some b)).2 := ⟨_, rfl⟩
      rw [← hx1, ← hs1] at N1 HOF
      clear hx1 hs1
      go_wp2_with fail
      refine (unhide N1).mono ?_
      rintro e w4 ⟨rfl, hR4, hT4, hz4⟩
      have B4 := hide ((unhide B2).trans (hT4.below (unhide B2).size (fun k hk e => by omega)))
      have AA := (Below.refl w4.heap.size w4).alloc (Nat.le_refl _) (.cells #[.int .i64 x1] 76)
      have R5 := hide (hR4.alloc (.cells #[.int .i64 x1] 76))
      have Y5 := hide (Blk.new w4 #[.int .i64 x1] 76 w4.heap.size rfl)
      have B5 := hide ((unhide B4).trans (AA.mono (unhide B4).size))
      clear hR4 hT4 AA B4 N1 hz4
      go_upto_region 10 with fail
      generalize w4.alloc (.cells #[.int .i64 x1] 76) = w5 at *
      generalize w4.heap.size = xb at *
      have y0 := Wb.cell ((unhide Y5).cell 0 rfl) (unhide Y5).1
      have HDN := hide (fun (p : Wb w5) => done_any rb s1 p.at_ ((unhide R5).kept (T := fun _ => False) (Touch.ofBelow p.below) (fun _ _ h => h)))
      go_wp2_with fail
      refine wp_region_wb (by kernel_rfl) (by kernel_rfl) ?_
      repeat (go_big_quiet_step ((go_at_call 38; exact wb_same (unhide HDN _))))
      refine wpQuiet_nil ?_
      intro w6 hw'
      obtain ⟨⟨wq, hb6⟩, hq⟩ := hw'
      change w6 = wq at hq
      subst hq
      have B6 := hide ((unhide B5).trans (hb6.mono (unhide B5).size))
      clear hb6 y0 HDN
      go_wp2_with fail
      go_ret2
      exact ⟨by rw [unhide HOF]; rfl, unhide B6⟩
    by_cases c3 : c = 69
    · have hl : letP c = 2 := by unfold letP; rw [if_neg c1, if_neg c2, if_pos c3]
      rw [hl]
      rw [if_neg c1, if_neg c2, if_pos c3] at HOF
      have E1 := hide (implReadEntry_any _ _ b w2 (by rw [unhide HZ2]; exact unhide HRV))
      generalize entRead b = er at *
      obtain ⟨⟨et, ek, ed⟩, ec⟩ := er
      dsimp only [entVal] at E1 HOF
      have x0 := (unhide X2).cell 0 rfl
      go_wp2_with fail
      refine (unhide E1).mono ?_
      rintro e w4 ⟨rfl, hb4⟩
      have AA := (Below.refl w4.heap.size w4).alloc (Nat.le_refl _) (.cells #[.int .i64 et, .int .i64 ek, .string ed] 78)
      have B5 := hide (((unhide B2).trans (hb4.mono (unhide B2).size)).trans (AA.mono (Nat.le_trans (unhide B2).size hb4.size)))
      clear hb4 AA E1 x0
      have hcb : (ec == 0) = decide (ec = 0) := by rw [Bool.eq_iff_iff]; simp
      go_wp2_with fail
      go_ret2
      exact ⟨rec_ret (by rw [unhide HOF]; exact ⟨rfl, hcb⟩), unhide B5⟩
    · have hl : letP c = -1 := by unfold letP; rw [if_neg c1, if_neg c2, if_neg c3]
      rw [hl]
      rw [if_neg c1, if_neg c2, if_neg c3] at HOF
      go_wp2_with fail
      go_ret2
      exact ⟨by rw [unhide HOF]; rfl, unhide B2⟩
end Go.Proofs.Ytpdjfjapdmopoaa
namespace Go.Proofs.Ytpdjfjapdmopoaa
open Go.ChangeShapes Go.WideShapes Go.ChangeAt Go.RowKit
set_option linter.unusedVariables false
set_option linter.unusedSimpArgs false

structure St where
  tm : Int
  vo : Int
  l : List En
/-- A record followed. -/
def folP (s : St) : Rc → Option St
  | .T a b => some ⟨a, b, s.l⟩
  | .C k => if (s.l.length : Int) < k then none else some ⟨s.tm, s.vo, s.l.take k.toNat⟩
  | .E e => if 60 ≤ s.l.length then none else some ⟨s.tm, s.vo, s.l ++ [e]⟩
def rcOk : Rc → Prop
  | .C k => 0 ≤ k ∧ k < 4294967296
  | _ => True
/-- The state in block sb, its log the call's own. -/
def StW (B sb : Nat) (w : World) (s : St) : Prop := ∃ a c, Blk w sb [.int .i64 s.tm, .int .i64 s.vo, .slice a s.l.length c] ∧ OwnE B w (.slice a s.l.length c) s.l ∧ ∀ k, (Value.slice a s.l.length c).ownBlock = some k → k ≠ sb
theorem StW.below {B sb : Nat} {w w' : World} {s : St} (h : StW B sb w s) (hb : Below w.heap.size w w') : StW B sb w' s := by
  obtain ⟨a, c, h1, h2, h3⟩ := h
  exact ⟨a, c, h1.below hb, h2.below hb, h3⟩
theorem OwnE.form {B : Nat} {w : World} {a : Option Addr} {n c : Nat} {l : List En} (h : OwnE B w (.slice a n c) l) : (a = none ∧ l.length = 0 ∧ c = 0) ∨ ∃ g, a = some ⟨g, 0, none⟩ ∧ B ≤ g ∧ g < w.heap.size ∧ l.length ≤ c ∧ c ≤ maxLen := by
  rcases own_shape h with ⟨h1, h0⟩ | ⟨g, c', h1, hb, hlt, hn, hm⟩
  · obtain ⟨h2, _, h4⟩ := Value.slice.inj h1
    exact .inl ⟨h2, h0, h4⟩
  · obtain ⟨h2, h3, h4⟩ := Value.slice.inj h1
    subst h4
    exact .inr ⟨g, h2, hb, hlt, hn, hm⟩

theorem ta_same {P : Program} (t xT : TypeId) (fs : Array Field) (v : Value) (w : World) (h : P.underlying t = some (.struct fs)) : (Instr.typeAssert (.iface t v) xT t true).run P w = .ok (.tuple #[v, .bool true]) w := by
  simp [Instr.typeAssert, run_underlying h, go_sem, Result.andThen]
theorem ta_other {P : Program} (t t' xT : TypeId) (fs : Array Field) (v z : Value) (w : World) (h : P.underlying t' = some (.struct fs)) (hne : t ≠ t') (hz : (P.info? t').map (·.zero) = some (some z)) : (Instr.typeAssert (.iface t v) xT t' true).run P w = .ok (.tuple #[z, .bool false]) w := by
  cases hi : P.info? t' with
  | none => rw [hi] at hz; cases hz
  | some i =>
    rw [hi] at hz
    have hz' : i.zero = some z := by simpa using hz
    simp [Instr.typeAssert, run_underlying h, go_sem, Result.andThen, hne, zeroValue, typeInfo, hi, hz']
theorem ensC_app (x y : List En) : ensC (x ++ y) = ensC x ++ ensC y := by simp [ensC]
theorem ens_rw {w : World} {g c : Nat} {l : List En} {B n : Nat} (h : w.ownsRow B 78 3 (.slice (some ⟨g, 0, none⟩) n c) n (ensC l)) (k : Nat) (hk : k ≤ l.length) : ∀ j u, (ensC (l.take k))[j]? = some u → w.cell? ((⟨g, 0, none⟩ : Addr).add j) = some u := fun j u hu => by
  have hadd : (⟨g, 0, none⟩ : Addr).add j = ⟨g, 0 + j, none⟩ := by unfold Addr.add; split <;> simp_all
  have hjl : j < (ensC (l.take k)).length := by
    rcases Nat.lt_or_ge j (ensC (l.take k)).length with h1 | h1
    · exact h1
    · rw [List.getElem?_eq_none h1] at hu; cases hu
  have hsp : ensC l = ensC (l.take k) ++ ensC (l.drop k) := by rw [← ensC_app, List.take_append_drop]
  have hn : (ensC l).length = n * 3 := h.1
  rw [hadd, Nat.zero_add, h.cellAt j (by rw [hsp, List.length_append] at hn; omega), hsp, List.getElem?_append_left hjl]
  exact hu

/-- A log of the call's own laid into the state's box. -/
theorem cut_done {B sb n : Nat} {w w7 : World} {tm vo : Int} {lv : Value} {m : List En} {a7 : Option Addr} {c7 : Nat} (hB : Blk w sb [.int .i64 tm, .int .i64 vo, lv]) (h1 : w7.ownsRow B 78 3 (.slice a7 (0 + n) c7) (0 + n) ([] ++ ensC m)) (hg : w.grownBy w7 (Value.slice none 0 0).ownBlock) (hat : (Value.slice a7 (0 + n) c7).ownBlock = (Value.slice none 0 0).ownBlock ∨ (Value.slice a7 (0 + n) c7).ownBlock = some w.heap.size) (hn : m.length = n) (hsb : B ≤ sb) (hBw : B ≤ w.heap.size) :
    w7.cell? ⟨sb, 2, none⟩ = some lv ∧ w7.frozen? ⟨sb, 2, none⟩ = false ∧ StW B sb (w7.setCell ⟨sb, 2, none⟩ (.slice a7 (0 + n) c7)) ⟨tm, vo, m⟩ ∧ Below B w (w7.setCell ⟨sb, 2, none⟩ (.slice a7 (0 + n) c7)) := by
  have hT : Touch (fun _ => False) w w7 := (Touch.refl _ w).grown hg (fun k hk _ => by cases hk)
  have hB7 := hB.kept hT (fun h => h)
  have hs := (Touch.refl (fun k => k = sb) w7).setCell ⟨sb, 2, none⟩ (.slice a7 (0 + n) c7) (fun _ => rfl)
  have hne : ∀ k, (Value.slice a7 (0 + n) c7).ownBlock = some k → k ≠ sb := fun k hk e => by
    rcases hat with h0 | h0
    · rw [h0] at hk; cases hk
    · rw [h0] at hk; cases hk; have := hB.1; omega
  subst hn
  rw [List.nil_append] at h1
  rw [Nat.zero_add] at h1 hs hne ⊢
  refine ⟨hB7.cell 2 rfl, hB7.fro 2, ⟨a7, c7, hB7.set 2 _ (by simp), OwnE.kept h1 hs hne, hne⟩, ?_⟩
  exact (hT.below hBw (fun k _ h => h)).setCell (p := ⟨sb, 2, none⟩) hsb _

theorem push_done {B sb gg capg : Nat} {w w7 : World} {tm vo : Int} {a : Option Addr} {c : Nat} {l : List En} {e : En} {o : Obj} (hB : Blk w sb [.int .i64 tm, .int .i64 vo, .slice a l.length c]) (hne : ∀ k, (Value.slice a l.length c).ownBlock = some k → k ≠ sb) (h1 : w7.ownsRow B 78 3 (.slice (some ⟨gg, 0, none⟩) (l.length + 1) capg) (l.length + 1) (ensC l ++ enC e)) (hg : (w.alloc o).drew.grownBy w7 (Value.slice a l.length c).ownBlock) (hat : (Value.slice a l.length c).ownBlock = some gg ∨ gg = w.heap.size + 1) (hsb : B ≤ sb) (hBw : B ≤ w.heap.size) (hO : OwnE B w (.slice a l.length c) l) :
    w7.cell? ⟨sb, 2, none⟩ = some (.slice a l.length c) ∧ w7.frozen? ⟨sb, 2, none⟩ = false ∧ StW B sb (w7.setCell ⟨sb, 2, none⟩ (.slice (some ⟨gg, 0, none⟩) (l.length + 1) capg)) ⟨tm, vo, l ++ [e]⟩ ∧ Below B w (w7.setCell ⟨sb, 2, none⟩ (.slice (some ⟨gg, 0, none⟩) (l.length + 1) capg)) := by
  have hT : Touch (fun k => (Value.slice a l.length c).ownBlock = some k) w w7 := ((((Touch.refl _ w).alloc o).drew).grown hg (fun k hk _ => hk))
  have hB7 := hB.kept hT (fun h => hne sb h rfl)
  have hs := (Touch.refl (fun k => k = sb) w7).setCell ⟨sb, 2, none⟩ (.slice (some ⟨gg, 0, none⟩) (l.length + 1) capg) (fun _ => rfl)
  have hne' : ∀ k, (Value.slice (some ⟨gg, 0, none⟩) (l.length + 1) capg).ownBlock = some k → k ≠ sb := fun k hk e => by
    have e2 : gg = k := by simpa [Value.ownBlock] using hk
    subst e2
    rcases hat with h0 | h0
    · exact hne gg h0 e
    · have := hB.1; omega
  have hln : (l ++ [e]).length = l.length + 1 := by simp
  have h1' : OwnE B w7 (.slice (some ⟨gg, 0, none⟩) (l.length + 1) capg) (l ++ [e]) := by
    unfold OwnE
    rw [ensC_app, hln]
    have : ensC [e] = enC e := by simp [ensC]
    rw [this]
    exact h1
  refine ⟨hB7.cell 2 rfl, hB7.fro 2, ⟨some ⟨gg, 0, none⟩, capg, ?_, ?_, ?_⟩, ?_⟩
  · show Blk _ sb [.int .i64 tm, .int .i64 vo, .slice (some ⟨gg, 0, none⟩) (l ++ [e]).length capg]
    rw [hln]
    exact hB7.set 2 _ (by simp)
  · show OwnE B _ (.slice (some ⟨gg, 0, none⟩) (l ++ [e]).length capg) (l ++ [e])
    rw [hln]
    exact h1'.kept hs hne'
  · show ∀ k, (Value.slice (some ⟨gg, 0, none⟩) (l ++ [e]).length capg).ownBlock = some k → k ≠ sb
    rw [hln]; exact hne'
  · exact (hT.below hBw (fun k hk h => by have := (World.ownsRow.lt hO k h).1; omega)).setCell (p := ⟨sb, 2, none⟩) hsb _

set_option maxRecDepth 100000 in
set_option maxHeartbeats 1000000 in
theorem follow_any (B sb : Nat) (s : St) (rc : Rc) (w : World) (h : StW B sb w s) (hsb : B ≤ sb) (hBw : B ≤ w.heap.size) (hok : rcOk rc) (hl : s.l.length ≤ 60) :
    Calls Try.prog 22 #[.pointer (some ⟨sb, 0, none⟩), rcV (some rc)] w fun e w' => e = .returned (.bool (folP s rc).isSome) ∧ StW B sb w' ((folP s rc).getD s) ∧ Below B w w' := by
  obtain ⟨a, c, hB, hO, hne⟩ := h
  obtain ⟨tm, vo, l⟩ := s
  dsimp only at hB hO hne hl
  have HB := hide hB
  have HO := hide hO
  have HNE := hide hne
  clear hB hO hne
  cases rc with
  | T x1 x2 =>
    have AA := (Below.refl w.heap.size w).alloc (Nat.le_refl _) (.cells #[.int .i64 x1, .int .i64 x2] 73)
    have B1 := hide ((unhide HB).below AA)
    have O1 := hide ((unhide HO).below AA)
    have Y1 := hide (Blk.new w #[.int .i64 x1, .int .i64 x2] 73 w.heap.size rfl)
    have K1 := hide (AA.mono hBw)
    have hBw1 := Nat.le_trans hBw AA.size
    clear AA
    have t1 := fun wx => ta_same (P := Try.prog) 73 49 _ (.agg #[.int .i64 x1, .int .i64 x2]) wx Try.underlying73
    have s0 := (unhide B1).cell 0 rfl
    have s1 := (unhide B1).cell 1 rfl
    have f0 := (unhide B1).fro 0
    have f1 := (unhide B1).fro 1
    show Calls _ _ #[_, .iface 73 (.agg #[.int .i64 x1, .int .i64 x2])] _ _
    go_enter Try.func22, Try.ntmps22
    go_upto_region 4 with fail
    generalize w.alloc (.cells #[.int .i64 x1, .int .i64 x2] 73) = w1 at *
    generalize w.heap.size = xb at *
    have y0 := (unhide Y1).cell 0 rfl
    have y1 := (unhide Y1).cell 1 rfl
    go_wp2_with fail
    go_big_region
    have hbd := below_drewN (Below.refl w1.heap.size w1) 1
    have Bd := (unhide B1).below hbd
    have Od := (unhide O1).below hbd
    have ht := ((Touch.refl (fun k => k = sb) w1.drew).setCell ⟨sb, 0, none⟩ (.int .i64 x1) (fun _ => rfl)).setCell ⟨sb, 1, none⟩ (.int .i64 x2) (fun _ => rfl)
    have R := hide (show StW B sb ((w1.drew.setCell ⟨sb, 0, none⟩ (.int .i64 x1)).setCell ⟨sb, 1, none⟩ (.int .i64 x2)) ⟨x1, x2, l⟩ ∧ Below B w ((w1.drew.setCell ⟨sb, 0, none⟩ (.int .i64 x1)).setCell ⟨sb, 1, none⟩ (.int .i64 x2)) from
      ⟨⟨a, c, (Bd.set 0 (.int .i64 x1) (by simp)).set 1 (.int .i64 x2) (by simp), Od.kept ht (unhide HNE), unhide HNE⟩, (((unhide K1).trans (hbd.mono hBw1)).setCell (p := ⟨sb, 0, none⟩) hsb _).setCell (p := ⟨sb, 1, none⟩) hsb _⟩)
    clear hbd Bd Od ht
    go_wp2_with fail
    go_ret
    exact ⟨rfl, (unhide R).1, (unhide R).2⟩
  | C k =>
    obtain ⟨hk0, hk1⟩ := hok
    have AA := (Below.refl w.heap.size w).alloc (Nat.le_refl _) (.cells #[.int .i64 k] 76)
    have B1 := hide ((unhide HB).below AA)
    have O1 := hide ((unhide HO).below AA)
    have Y1 := hide (Blk.new w #[.int .i64 k] 76 w.heap.size rfl)
    have K1 := hide (AA.mono hBw)
    have hBw1 := Nat.le_trans hBw AA.size
    clear AA
    have t1 := fun wx => ta_other (P := Try.prog) 76 73 49 _ (.agg #[.int .i64 k]) (.agg #[.int .i64 0, .int .i64 0]) wx Try.underlying73 (by decide) (by kernel_rfl)
    have t2 := fun wx => ta_same (P := Try.prog) 76 49 _ (.agg #[.int .i64 k]) wx Try.underlying76
    have s2 := (unhide B1).cell 2 rfl
    have f2 := (unhide B1).fro 2
    show Calls _ _ #[_, .iface 76 (.agg #[.int .i64 k])] _ _
    go_enter Try.func22, Try.ntmps22
    go_upto_region 7 with fail
    generalize w.alloc (.cells #[.int .i64 k] 76) = w1 at *
    generalize w.heap.size = xb at *
    have y0 := (unhide Y1).cell 0 rfl
    by_cases hkl : (l.length : Int) < k
    · have HD := hide (show folP ⟨tm, vo, l⟩ (.C k) = none by show (if (l.length : Int) < k then none else some (St.mk tm vo (l.take k.toNat))) = none; rw [if_pos hkl])
      have hd : decide ((l.length : Int) < k) = true := decide_eq_true hkl
      go_wp2_with fail
      go_quiet (fail)
      go_wp2_with fail
      go_ret
      rw [unhide HD]
      exact ⟨rfl, ⟨a, c, (unhide B1).drewN _, (unhide O1).drewN _, unhide HNE⟩, below_drewN (unhide K1) _⟩
    · obtain ⟨n, rfl⟩ : ∃ n : Nat, k = (n : Int) := ⟨k.toNat, by omega⟩
      have HD := hide (show folP ⟨tm, vo, l⟩ (.C (n : Int)) = some ⟨tm, vo, l.take n⟩ by show (if (l.length : Int) < (n : Int) then none else some (St.mk tm vo (l.take (n : Int).toNat))) = _; rw [if_neg hkl, Int.toNat_natCast])
      have hd : decide ((l.length : Int) < (n : Int)) = false := decide_eq_false hkl
      have hd2 : decide (l.length < n) = false := by rw [decide_eq_false_iff_not]; omega
      have hnl : n ≤ l.length := by omega
      go_wp2_with fail
      go_quiet (fail)
      have B2 := hide ((unhide B1).drewN nq)
      have O2 := hide ((unhide O1).drewN nq)
      have Y2 := hide ((unhide Y1).drewN nq)
      have K2 := hide (below_drewN (unhide K1) nq)
      have hBw2' : B ≤ (w1.drewN nq).heap.size := hBw1
      clear s2 f2 y0 B1 O1 Y1 K1 hd hd2
      generalize w1.drewN nq = w2 at *
      have hBw2 : B ≤ w2.heap.size := hBw2'
      have s2 := (unhide B2).cell 2 rfl
      have f2 := (unhide B2).fro 2
      have y0 := (unhide Y2).cell 0 rfl
      have hbd := below_drewN (Below.refl w2.heap.size w2) 1
      have Od := hide ((unhide O2).below hbd)
      have Bd := hide ((unhide B2).below hbd)
      obtain ⟨i0, hi, hz0, hz1, hz2⟩ := info_parts infoEn
      have q0 : (n : Int) ≤ (l.length : Int) := by omega
      have hln : (l.take n).length = n := by rw [List.length_take]; omega
      have hlc : (ensC (l.take n)).length = n * 3 := by rw [ensC_len, hln]
      have hone : ∀ u ∈ ensC (l.take n), u.oneCell' = true := fun u hu => by
        obtain ⟨e, _, he⟩ := List.mem_flatMap.1 hu
        simp only [enC, List.mem_cons, List.mem_nil_iff, or_false] at he
        rcases he with rfl | rfl | rfl <;> rfl
      have HLN := hide hln
      clear hln hbd
      rcases (unhide O2).form with ⟨ha, hl0, hcc⟩ | ⟨g, ha, hg1, hg2, hg3, hg4⟩
      · obtain rfl : n = 0 := by omega
        subst ha hcc
        obtain rfl : l = [] := List.eq_nil_of_length_eq_zero hl0
        go_wp2_with fail
        go_region_law (refine step_append_row (by rfl) _ _ _ (by rfl) B 78 i0 _ 3 32 Try.underlying24 hi hz0 hz1 hz2 rfl (by omega) (.slice none 0 0) 0 [] (by rfl) (World.ownsRow_nil _ B 78 3) (.slice none 0 0) 0 [] (by rfl) ⟨_, _, rfl, .inl rfl⟩ (by simp) (by simp) (by unfold maxLen; omega) (by omega) hBw2 ?_; intro a7 c7 w7 hown7 hgrow7 hat7; have P7 := cut_done (m := []) (unhide Bd) hown7 hgrow7 hat7 rfl hsb hBw2; have hc7 := P7.1; have hf7 := P7.2.1)
        all_goals
          have R := hide P7.2.2
          clear P7 hc7 hf7 hown7 hgrow7 hat7
          generalize w7.setCell ⟨sb, 2, none⟩ (.slice a7 (0 + 0) c7) = w8 at *
          go_wp2_with fail
          go_ret
          rw [unhide HD]
          exact ⟨rfl, (unhide R).1, ((unhide K2).trans ((below_drewN (Below.refl w2.heap.size w2) 1).mono hBw2)).trans (unhide R).2⟩
      · subst ha
        have q1 : (n : Int) ≤ (c : Int) := by omega
        have q2 : c ≤ 9223372036854775807 := by unfold maxLen at hg4; omega
        have hrw := hide (ens_rw (unhide Od) n hnl)
        go_wp2_with fail
        go_region_law (refine step_append_row (by rfl) _ _ _ (by rfl) B 78 i0 _ 3 32 Try.underlying24 hi hz0 hz1 hz2 rfl (by omega) (.slice none 0 0) 0 [] (by rfl) (World.ownsRow_nil _ B 78 3) (.slice (some ⟨g, 0, none⟩) n c) n (ensC (l.take n)) (by rfl) ⟨_, _, rfl, .inr ⟨_, rfl, unhide hrw⟩⟩ hlc hone (by unfold maxLen; omega) (by omega) hBw2 ?_; intro a7 c7 w7 hown7 hgrow7 hat7; have P7 := cut_done (unhide Bd) hown7 hgrow7 hat7 (unhide HLN) hsb hBw2; have hc7 := P7.1; have hf7 := P7.2.1)
        all_goals
          have R0 := P7.2.2
          rw [Nat.zero_add] at R0
          have R := hide R0
          clear P7 hc7 hf7 hown7 hgrow7 hat7 R0
          generalize w7.setCell ⟨sb, 2, none⟩ (.slice a7 n c7) = w8 at *
          go_wp2_with fail
          go_ret
          rw [unhide HD]
          exact ⟨rfl, (unhide R).1, ((unhide K2).trans ((below_drewN (Below.refl w2.heap.size w2) 1).mono hBw2)).trans (unhide R).2⟩
  | E e =>
    obtain ⟨et, ek, ed⟩ := e
    have AA := (Below.refl w.heap.size w).alloc (Nat.le_refl _) (.cells #[.int .i64 et, .int .i64 ek, .string ed] 82)
    have B1 := hide ((unhide HB).below AA)
    have O1 := hide ((unhide HO).below AA)
    have Y1 := hide (Blk.new w #[.int .i64 et, .int .i64 ek, .string ed] 82 w.heap.size rfl)
    have K1 := hide (AA.mono hBw)
    have hBw1 := Nat.le_trans hBw AA.size
    clear AA
    have t1 := fun wx => ta_other (P := Try.prog) 82 73 49 _ (.agg #[.int .i64 et, .int .i64 ek, .string ed]) (.agg #[.int .i64 0, .int .i64 0]) wx Try.underlying73 (by decide) (by kernel_rfl)
    have t2 := fun wx => ta_other (P := Try.prog) 82 76 49 _ (.agg #[.int .i64 et, .int .i64 ek, .string ed]) (.agg #[.int .i64 0]) wx Try.underlying76 (by decide) (by kernel_rfl)
    have t3 := fun wx => ta_same (P := Try.prog) 82 49 _ (.agg #[.int .i64 et, .int .i64 ek, .string ed]) wx Try.underlying82
    have s2 := (unhide B1).cell 2 rfl
    have f2 := (unhide B1).fro 2
    show Calls _ _ #[_, .iface 82 (.agg #[.int .i64 et, .int .i64 ek, .string ed])] _ _
    go_enter Try.func22, Try.ntmps22
    go_upto_region 12 with fail
    generalize w.alloc (.cells #[.int .i64 et, .int .i64 ek, .string ed] 82) = w1 at *
    generalize w.heap.size = xb at *
    by_cases h60 : 60 ≤ l.length
    · have HD := hide (show folP ⟨tm, vo, l⟩ (.E ⟨et, ek, ed⟩) = none by show (if 60 ≤ l.length then none else some (St.mk tm vo (l ++ [En.mk et ek ed]))) = none; rw [if_pos h60])
      have h60i : (60 : Int) ≤ (l.length : Int) := by omega
      go_wp2_with fail
      go_ret
      rw [unhide HD]
      exact ⟨rfl, ⟨a, c, unhide B1, unhide O1, unhide HNE⟩, unhide K1⟩
    · have HD := hide (show folP ⟨tm, vo, l⟩ (.E ⟨et, ek, ed⟩) = some ⟨tm, vo, l ++ [⟨et, ek, ed⟩]⟩ by show (if 60 ≤ l.length then none else some (St.mk tm vo (l ++ [En.mk et ek ed]))) = _; rw [if_neg h60])
      have h60i : ¬ (60 : Int) ≤ (l.length : Int) := by omega
      have y0 := (unhide Y1).cell 0 rfl
      have y1 := (unhide Y1).cell 1 rfl
      have y2 := (unhide Y1).cell 2 rfl
      obtain ⟨i0, hi, hz0, hz1, hz2⟩ := info_parts infoEn
      have Od := hide (World.ownsRow.drew ((unhide O1).alloc (.cells #[.int .i64 et, .int .i64 ek, .string ed] 78)))
      have hz1w := (unhide B1).1
      have s2a : (w1.alloc (.cells #[.int .i64 et, .int .i64 ek, .string ed] 78)).cell? ⟨sb, 2, none⟩ = some (.slice a l.length c) := (((Touch.refl (fun _ => False) w1).alloc _).cell (p := ⟨sb, 2, none⟩) (by simp; omega) (fun h => h)).trans s2
      go_wp2_with fail
      go_region_law (refine step_append_lies _ (by rfl) _ _ _ (by rfl) B 78 i0 _ 3 32 Try.underlying24 hi hz0 hz1 hz2 rfl (by omega) (.slice a l.length c) l.length (ensC l) (by rfl) (unhide Od) ⟨w1.heap.size, 0, none⟩ 1 1 [_, _, _] (by rfl) (by rfl) (World.news_of_block (cs := #[_, _, _]) (t := 78) (fr := (0, 0)) (heap_alloc_new w1 _)) (by simp [Value.oneCell']) (by omega) (by unfold maxLen; omega) (by omega) (by simp; omega) (w1.heap.size + 1) (by simp) ?_; intro gg capg w7 hown7 hgrow7 hat7 hlt7; have P7 := push_done (e := ⟨et, ek, ed⟩) (unhide B1) (unhide HNE) hown7 hgrow7 hat7 hsb hBw1 (unhide O1); have hc7 := P7.1; have hf7 := P7.2.1)
      all_goals
        have R := hide P7.2.2
        clear P7 hc7 hf7 hown7 hgrow7 hat7 hlt7
        generalize w7.setCell ⟨sb, 2, none⟩ (.slice (some ⟨gg, 0, none⟩) (l.length + 1) capg) = w8 at *
        go_wp2_with fail
        go_ret
        rw [unhide HD]
        exact ⟨rfl, (unhide R).1, (unhide K1).trans (unhide R).2⟩
end Go.Proofs.Ytpdjfjapdmopoaa
namespace Go.Proofs.Ytpdjfjapdmopoaa
open Go.ChangeShapes Go.WideShapes Go.ChangeAt Go.RowKit
set_option linter.unusedVariables false
set_option linter.unusedSimpArgs false

def stepP (s : St) (t : ByteArray) : Option St :=
  if (rcOf t).2 = true then (match (rcOf t).1 with
    | some rc => folP s rc
    | none => none) else none
def foldAt (l : List ByteArray) : Nat → Option St
  | 0 => some ⟨0, -1, []⟩
  | k + 1 => match foldAt l k with
    | some s => stepP s (l.getD k ByteArray.empty)
    | none => none
def st0 : St := ⟨0, 0, []⟩
def allShort (l : List ByteArray) : Bool := (List.range l.length).all fun i => decide ((l.getD i ByteArray.empty).size ≤ 110)
/-- The state that records lead to, from the first on. -/
def foldS (l : List ByteArray) : Option St := match foldAt l l.length with
  | some s => if stateB s.tm s.vo s.l then some s else none
  | none => none
def foldOut (l : List ByteArray) : St × Int :=
  if 4096 < l.length then (st0, 2) else if allShort l = false then (st0, 4) else match foldS l with
    | some s => (s, 0)
    | none => (st0, 3)
/-- A state whose log is small. -/
def StOk (s : St) : Prop := s.l.length ≤ 60 ∧ ∀ i, (s.l.getD i default).d.size ≤ 1048576
theorem num4_range {st : Option (List Int)} (h : rangeP st) : 0 ≤ (numP 4 st).1 ∧ (numP 4 st).1 < 4294967296 := by
  have h1 := (takeP_range h 4).1
  have h2 := takeP_len 4 st
  show 0 ≤ decN _ _ ∧ decN _ _ < 4294967296
  have h3 := decN_lo (takeP 4 st).1 h1 (takeP 4 st).1.length
  generalize (takeP 4 st).1.length = n at *
  have : (256 : Int) ^ n ≤ 256 ^ 4 := by
    have hn : n = 0 ∨ n = 1 ∨ n = 2 ∨ n = 3 ∨ n = 4 := by omega
    rcases hn with rfl | rfl | rfl | rfl | rfl <;> decide
  have e : (256 : Int) ^ 4 = 4294967296 := by decide
  omega
theorem rc_ok {t : ByteArray} (h : (rcOf t).2 = true) : ∃ rc, (rcOf t).1 = some rc ∧ rcOk rc ∧ ∀ e, rc = .E e → e.d.size ≤ 100 := by
  have hr : rangeP (some ((bytesI t).drop 1)) := range_drop 1 (bytesI_range t)
  unfold rcOf at h ⊢
  by_cases h0 : t.size = 0
  · rw [if_pos h0] at h; cases h
  · rw [if_neg h0] at h ⊢
    by_cases h1 : bAt t 0 = 84
    · rw [if_pos h1] at h ⊢; exact ⟨_, rfl, trivial, fun e he => by cases he⟩
    · rw [if_neg h1] at h ⊢
      by_cases h2 : bAt t 0 = 67
      · rw [if_pos h2] at h ⊢; exact ⟨_, rfl, num4_range hr, fun e he => by cases he⟩
      · rw [if_neg h2] at h ⊢
        by_cases h3 : bAt t 0 = 69
        · rw [if_pos h3] at h ⊢
          refine ⟨_, rfl, trivial, fun e he => ?_⟩
          cases he
          have hc : (entRead ((bytesI t).drop 1)).2 = 0 := of_decide_eq_true h
          unfold entRead at hc ⊢
          split at hc
          · simp at hc
          · split at hc
            · rename_i ha hb
              rw [if_neg ha, if_pos hb]
              rw [Bool.and_eq_true] at hb
              exact (entOK_bounds hb.2).2.2.2.2
            · simp at hc
        · rw [if_neg h3] at h; cases h
theorem getD_small {x : List En} {e : En} (h : ∀ i, (x.getD i default).d.size ≤ 1048576) (he : e.d.size ≤ 1048576) : ∀ i, ((x ++ [e]).getD i default).d.size ≤ 1048576 := fun i => by
  by_cases hi : i < x.length
  · rw [List.getD_eq_getElem?_getD, List.getElem?_append_left hi, ← List.getD_eq_getElem?_getD]; exact h i
  · by_cases hi2 : i = x.length
    · subst hi2; rw [List.getD_eq_getElem?_getD, List.getElem?_append_right (by omega)]; simp; exact he
    · rw [List.getD_eq_getElem?_getD, List.getElem?_eq_none (by simp; omega)]
      show (default : En).d.size ≤ _
      exact Nat.zero_le _
theorem StOk.step {s s' : St} {t : ByteArray} (h : StOk s) (hs : stepP s t = some s') : StOk s' := by
  unfold stepP at hs
  split at hs
  · rename_i hb
    obtain ⟨rc, h1, h2, h3⟩ := rc_ok hb
    rw [h1] at hs
    dsimp only at hs
    cases rc with
    | T a b => cases hs; exact h
    | C k =>
      simp only [folP] at hs
      split at hs
      · cases hs
      · cases hs
        refine ⟨by rw [List.length_take]; have := h.1; omega, fun i => ?_⟩
        show ((s.l.take k.toNat).getD i default).d.size ≤ _
        by_cases hi : i < k.toNat
        · rw [List.getD_eq_getElem?_getD, List.getElem?_take_of_lt hi, ← List.getD_eq_getElem?_getD]; exact h.2 i
        · rw [List.getD_eq_getElem?_getD, List.getElem?_eq_none (by rw [List.length_take]; omega)]
          show (default : En).d.size ≤ _
          exact Nat.zero_le _
    | E e =>
      simp only [folP] at hs
      split at hs
      · cases hs
      · cases hs
        exact ⟨by simp; omega, getD_small h.2 (by have := h3 e rfl; omega)⟩
  · cases hs
theorem foldAt_ok (l : List ByteArray) : ∀ k s, foldAt l k = some s → StOk s
  | 0, s, h => by
    cases h
    exact ⟨by simp, fun i => by show (default : En).d.size ≤ _; exact Nat.zero_le _⟩
  | k + 1, s, h => by
    simp only [foldAt] at h
    cases hq : foldAt l k with
    | none => rw [hq] at h; cases h
    | some s' => rw [hq] at h; exact (foldAt_ok l k s' hq).step h
theorem foldAt_none (l : List ByteArray) (k : Nat) (h : foldAt l k = none) : ∀ j, foldAt l (k + j) = none
  | 0 => h
  | j + 1 => by
    show (match foldAt l (k + j) with
      | some s => stepP s (l.getD (k + j) ByteArray.empty)
      | none => none) = none
    rw [foldAt_none l k h j]
theorem short_bad {l : List ByteArray} {k : Nat} (hk : k < l.length) (h : 110 < (l.getD k ByteArray.empty).size) : allShort l = false := by
  unfold allShort
  rw [List.all_eq_false]; exact ⟨k, by simpa using hk, by simp only [decide_eq_true_eq]; omega⟩
theorem short_all {l : List ByteArray} (h : ∀ i, i < l.length → (l.getD i ByteArray.empty).size ≤ 110) : allShort l = true := by
  unfold allShort
  rw [List.all_eq_true]; exact fun i hi => decide_eq_true (h i (by simpa using hi))
/-- The answer's block with a state laid into it. -/
theorem fold_ret {B rb : Nat} {wz : World} {tm vo : Int} {a : Option Addr} {n c : Nat} {l : List En} {x0 x1 x2 : Value} (hr : Blk wz rb [x0, x1, x2]) (hO : OwnE B wz (.slice a n c) l) (hrb : rb < B) :
    Blk (((wz.setCell ⟨rb, 0, none⟩ (.int .i64 tm)).setCell ⟨rb, 1, none⟩ (.int .i64 vo)).setCell ⟨rb, 2, none⟩ (.slice a n c)) rb [.int .i64 tm, .int .i64 vo, .slice a n c] ∧ OwnE B (((wz.setCell ⟨rb, 0, none⟩ (.int .i64 tm)).setCell ⟨rb, 1, none⟩ (.int .i64 vo)).setCell ⟨rb, 2, none⟩ (.slice a n c)) (.slice a n c) l ∧ Below rb wz (((wz.setCell ⟨rb, 0, none⟩ (.int .i64 tm)).setCell ⟨rb, 1, none⟩ (.int .i64 vo)).setCell ⟨rb, 2, none⟩ (.slice a n c)) := by
  have T5 := ((((Touch.refl (fun k => k = rb) wz).setCell ⟨rb, 0, none⟩ (.int .i64 tm) (fun _ => rfl)).setCell ⟨rb, 1, none⟩ (.int .i64 vo) (fun _ => rfl)).setCell ⟨rb, 2, none⟩ (.slice a n c) (fun _ => rfl))
  exact ⟨((hr.set 0 (.int .i64 tm) (by simp)).set 1 (.int .i64 vo) (by simp)).set 2 (.slice a n c) (by simp), OwnE.kept hO T5 (fun k hk e => by have := (World.ownsRow.lt hO k hk).1; omega), T5.below (B := rb) (Nat.le_of_lt hr.1) (fun k hk e => by omega)⟩
end Go.Proofs.Ytpdjfjapdmopoaa
namespace Go.Proofs.Ytpdjfjapdmopoaa
open Go.ChangeShapes Go.WideShapes Go.ChangeAt Go.RowKit
set_option linter.unusedVariables false
set_option linter.unusedSimpArgs false

set_option maxRecDepth 100000 in
set_option maxHeartbeats 2000000 in
theorem implFold_any (v : Value) (l : List ByteArray) (w : World) (h : Strs w v l) (hl : l.length ≤ 1048576) (hz : ∀ i, (l.getD i ByteArray.empty).size ≤ 1048576) :
    Calls Try.prog 8 #[v] w fun e w' => ∃ a c, e = .returned (.tuple #[.agg #[.int .i64 (foldOut l).1.tm, .int .i64 (foldOut l).1.vo, .slice a (foldOut l).1.l.length c], .int .i64 (foldOut l).2]) ∧ OwnE (w.heap.size + 1) w' (.slice a (foldOut l).1.l.length c) (foldOut l).1.l ∧ Below w.heap.size w w' := by
  obtain ⟨a, cap, rfl, hm, hc⟩ := h
  have HC := hide hc
  have HZ := hide hz
  clear hc hz
  have K0 := hide ((Below.refl w.heap.size w).alloc (Nat.le_refl _) (.cells #[.int .i64 0, .int .i64 0, .slice none 0 0] 26))
  have R0 := hide (Blk.new w #[.int .i64 0, .int .i64 0, .slice none 0 0] 26 w.heap.size rfl)
  by_cases h4 : 4096 < l.length
  · have HD := hide (show foldOut l = (st0, 2) by unfold foldOut; rw [if_pos h4])
    have h4i : (4096 : Int) < (l.length : Int) := by omega
    go_enter Try.func8, Try.ntmps8
    go_upto_region 2 with fail
    generalize w.alloc (.cells #[.int .i64 0, .int .i64 0, .slice none 0 0] 26) = w0 at *
    have r0 := (unhide R0).cell 0 rfl
    have r1 := (unhide R0).cell 1 rfl
    have r2 := (unhide R0).cell 2 rfl
    have f0 := (unhide R0).fro 0
    have f1 := (unhide R0).fro 1
    have f2 := (unhide R0).fro 2
    have W1 := hide (fold_ret (B := w.heap.size + 1) (tm := 0) (vo := 0) (a := none) (n := 0) (c := 0) (l := []) (unhide R0) (World.ownsRow_nil _ _ 78 3) (by omega))
    have K9 := hide ((unhide K0).trans (unhide W1).2.2)
    go_wp2_with fail
    generalize ((w0.setCell ⟨w.heap.size, 0, none⟩ (.int .i64 0)).setCell ⟨w.heap.size, 1, none⟩ (.int .i64 0)).setCell ⟨w.heap.size, 2, none⟩ (.slice none 0 0) = wf at *
    have z0 := (unhide W1).1.cell 0 rfl
    have z1 := (unhide W1).1.cell 1 rfl
    have z2 := (unhide W1).1.cell 2 rfl
    refine bodyPost_ret (v := .tuple #[.agg #[.int .i64 0, .int .i64 0, .slice none 0 0], .int .i64 2]) (by simp [results, Try.results8, go_sem, z0, z1, z2]) rfl ?_
    rw [unhide HD]
    exact ⟨none, 0, rfl, (unhide W1).2.1, unhide K9⟩
  have h4i : ¬ (4096 : Int) < (l.length : Int) := by omega
  go_enter Try.func8, Try.ntmps8
  go_wp2_with fail
  generalize w.alloc (.cells #[.int .i64 0, .int .i64 0, .slice none 0 0] 26) = w0 at *
  go_loop [17] (fun i => ∃ k : Nat, k ≤ l.length ∧ i = .int .i64 k ∧ ∀ j, j < k → (l.getD j ByteArray.empty).size ≤ 110) (fun i => l.length - (intOf i).toNat)
  case atStart => exact ⟨0, Nat.zero_le _, rfl, fun j hj => by omega⟩
  case round =>
    obtain ⟨k, hk, rfl, hgo⟩ := hrel
    by_cases hlt : k < l.length
    · obtain ⟨b, off, rfl, hbl, hsrc⟩ : ∃ b off, a = some ⟨b, off, none⟩ ∧ b < w.heap.size ∧ ∀ i, i < l.length → w.cell? ⟨b, off + i, none⟩ = some (.string (l.getD i ByteArray.empty)) := by
        rcases unhide HC with h0 | h1
        · omega
        · exact h1
      have c0 := ((unhide K0).cell (p := ⟨b, off + k, none⟩) hbl).trans (hsrc k hlt)
      have hk0 : (0 : Int) ≤ (k : Int) := by omega
      have hk1 : (k : Int) < (l.length : Int) := by omega
      have hzk := unhide HZ k
      have HGO := hide hgo
      have HSB := hide (short_bad (l := l) (k := k) hlt)
      clear hsrc hgo
      generalize htk : l.getD k ByteArray.empty = t at *
      have HTK := hide htk
      clear htk
      by_cases ht : 110 < t.size
      · have HD := hide (show foldOut l = (st0, 4) by unfold foldOut; rw [if_neg h4, if_pos (unhide HSB ht)])
        have hti : (110 : Int) < (t.size : Int) := by omega
        go_upto_region 7 with fail
        clear c0
        have r0 := (unhide R0).cell 0 rfl
        have r1 := (unhide R0).cell 1 rfl
        have r2 := (unhide R0).cell 2 rfl
        have f0 := (unhide R0).fro 0
        have f1 := (unhide R0).fro 1
        have f2 := (unhide R0).fro 2
        have W1 := hide (fold_ret (B := w.heap.size + 1) (tm := 0) (vo := 0) (a := none) (n := 0) (c := 0) (l := []) (unhide R0) (World.ownsRow_nil _ _ 78 3) (by omega))
        have K9 := hide ((unhide K0).trans (unhide W1).2.2)
        go_wp2_with fail
        generalize ((w0.setCell ⟨w.heap.size, 0, none⟩ (.int .i64 0)).setCell ⟨w.heap.size, 1, none⟩ (.int .i64 0)).setCell ⟨w.heap.size, 2, none⟩ (.slice none 0 0) = wf at *
        have z0 := (unhide W1).1.cell 0 rfl
        have z1 := (unhide W1).1.cell 1 rfl
        have z2 := (unhide W1).1.cell 2 rfl
        refine bodyPost_ret (v := .tuple #[.agg #[.int .i64 0, .int .i64 0, .slice none 0 0], .int .i64 4]) (by simp [results, Try.results8, go_sem, z0, z1, z2]) rfl ?_
        rw [unhide HD]
        exact ⟨none, 0, rfl, (unhide W1).2.1, unhide K9⟩
      · have hti : ¬ (110 : Int) < (t.size : Int) := by omega
        go_wp2_with fail
        go_round
        case rel => exact ⟨k + 1, by omega, by go_num, fun j hj => by
          by_cases e : j = k
          · subst e; rw [unhide HTK]; omega
          · exact unhide HGO j (by omega)⟩
        case measure => simp [intOf]; omega
    · obtain rfl : k = l.length := by omega
      have HSH := hide (short_all hgo)
      have HGO := hide hgo
      clear hgo
      have HDO := hide (show foldOut l = (match foldS l with
        | some s => (s, 0)
        | none => (st0, 3)) by unfold foldOut; rw [if_neg h4, unhide HSH]; rfl)
      have AA := (Below.refl w0.heap.size w0).alloc (Nat.le_refl _) (.cells #[.int .i64 0, .int .i64 (-1), .slice none 0 0] 26)
      have K1 := hide ((unhide K0).trans (AA.mono (unhide K0).size))
      have R1 := hide ((unhide R0).below AA)
      have hz0 := (unhide R0).1
      have S1 : Hid (StW (w.heap.size + 1) w0.heap.size (w0.alloc (.cells #[.int .i64 0, .int .i64 (-1), .slice none 0 0] 26)) ⟨0, -1, []⟩) := hide ⟨none, 0, Blk.new w0 #[.int .i64 0, .int .i64 (-1), .slice none 0 0] 26 w0.heap.size rfl, World.ownsRow_nil _ _ 78 3, fun k hk => by cases hk⟩
      clear AA
      go_upto_region 10 with fail
      have HZ1 : Hid ((w0.alloc (.cells #[.int .i64 0, .int .i64 (-1), .slice none 0 0] 26)).heap.size = w0.heap.size + 1) := hide (by simp)
      generalize w0.alloc (.cells #[.int .i64 0, .int .i64 (-1), .slice none 0 0] 26) = w1 at *
      generalize w0.heap.size = sb at *
      go_wp2_with fail
      go_loopw [29] (fun i wr => ∃ (k : Nat) (s : St), k ≤ l.length ∧ i = .int .i64 k ∧ foldAt l k = some s ∧ StW (w.heap.size + 1) sb wr s ∧ Below (w.heap.size + 1) w1 wr) (fun i _ => l.length - (intOf i).toNat)
      case atStart => exact ⟨0, ⟨0, -1, []⟩, Nat.zero_le _, rfl, rfl, unhide S1, Below.refl _ _⟩
      case round =>
        obtain ⟨k, s, hk, rfl, hfo, hS, hb⟩ := hrel
        have hzr := hb.size
        have hz1 := unhide HZ1
        have KR := hide ((unhide K1).trans (hb.mono (by omega)))
        have RR := hide ((unhide R1).kept (T := fun k => w.heap.size + 1 ≤ k) ⟨hb.os, hb.tape, hb.output, hb.size, fun k _ hn => hb.block k (by omega)⟩ (by omega))
        have HB := hide hb
        have HS := hide hS
        have HFO := hide hfo
        have hok := foldAt_ok l k s hfo
        clear hb hS hfo
        by_cases hlt : k < l.length
        · obtain ⟨b, off, rfl, hbl, hsrc⟩ : ∃ b off, a = some ⟨b, off, none⟩ ∧ b < w.heap.size ∧ ∀ i, i < l.length → w.cell? ⟨b, off + i, none⟩ = some (.string (l.getD i ByteArray.empty)) := by
            rcases unhide HC with h0 | h1
            · omega
            · exact h1
          have c0 := ((unhide KR).cell (p := ⟨b, off + k, none⟩) hbl).trans (hsrc k hlt)
          have hk0 : (0 : Int) ≤ (k : Int) := by omega
          have hk1 : (k : Int) < (l.length : Int) := by omega
          have htz := unhide HGO k hlt
          have HNX : Hid (foldAt l (k + 1) = stepP s (l.getD k ByteArray.empty)) := hide (by
            show (match foldAt l k with
              | some s => stepP s (l.getD k ByteArray.empty)
              | none => none) = _
            rw [unhide HFO])
          have HBAD : Hid (foldAt l (k + 1) = none → foldOut l = (st0, 3)) := hide (fun h => by
            have h2 := foldAt_none l (k + 1) h (l.length - (k + 1))
            rw [show k + 1 + (l.length - (k + 1)) = l.length by omega] at h2
            rw [unhide HDO]
            unfold foldS
            rw [h2])
          clear hsrc
          generalize l.getD k ByteArray.empty = t at *
          have HRD := hide (readRecord_any t wr (by omega))
          go_wp2_with fail
          clear c0
          refine (unhide HRD).mono ?_
          rintro e w2 ⟨rfl, hb2⟩
          have K2 := hide ((unhide KR).trans (hb2.mono (unhide KR).size))
          have R2 := hide ((unhide RR).below hb2)
          have S2 := hide ((unhide HS).below hb2)
          have B2 := hide ((unhide HB).trans (hb2.mono (by omega)))
          have hz2 := hb2.size
          clear hb2 HRD KR RR HS HB
          cases hrc : (rcOf t).2
          · have HD := hide (unhide HBAD (by rw [unhide HNX]; unfold stepP; rw [hrc]; rfl))
            generalize rcV (rcOf t).1 = rv at *
            go_upto_region 15 with fail
            have r0 := (unhide R2).cell 0 rfl
            have r1 := (unhide R2).cell 1 rfl
            have r2 := (unhide R2).cell 2 rfl
            have f0 := (unhide R2).fro 0
            have f1 := (unhide R2).fro 1
            have f2 := (unhide R2).fro 2
            have W1 := hide (fold_ret (B := w.heap.size + 1) (tm := 0) (vo := 0) (a := none) (n := 0) (c := 0) (l := []) (unhide R2) (World.ownsRow_nil _ _ 78 3) (by omega))
            have K9 := hide ((unhide K2).trans (unhide W1).2.2)
            go_wp2_with fail
            generalize ((w2.setCell ⟨w.heap.size, 0, none⟩ (.int .i64 0)).setCell ⟨w.heap.size, 1, none⟩ (.int .i64 0)).setCell ⟨w.heap.size, 2, none⟩ (.slice none 0 0) = wf at *
            have z0 := (unhide W1).1.cell 0 rfl
            have z1 := (unhide W1).1.cell 1 rfl
            have z2 := (unhide W1).1.cell 2 rfl
            refine bodyPost_ret (v := .tuple #[.agg #[.int .i64 0, .int .i64 0, .slice none 0 0], .int .i64 3]) (by simp [results, Try.results8, go_sem, z0, z1, z2]) rfl ?_
            rw [unhide HD]
            exact ⟨none, 0, rfl, (unhide W1).2.1, unhide K9⟩
          obtain ⟨rc, hr1, hr2, hr3⟩ := rc_ok hrc
          have HST : Hid (stepP s t = folP s rc) := hide (by unfold stepP; rw [hrc, hr1]; rfl)
          have HFL := hide (follow_any (w.heap.size + 1) sb s rc w2 (unhide S2) (by omega) (by omega) hr2 hok.1)
          rw [hr1]
          clear hr1 hr2 hr3 hrc
          generalize rcV (some rc) = rv at *
          go_wp2_with fail
          refine (unhide HFL).mono ?_
          rintro e w3 ⟨rfl, hS3, hb3⟩
          have K3 := hide ((unhide K2).trans (hb3.mono (by omega)))
          have R3 := hide ((unhide R2).kept (T := fun k => w.heap.size + 1 ≤ k) ⟨hb3.os, hb3.tape, hb3.output, hb3.size, fun k _ hn => hb3.block k (by omega)⟩ (by omega))
          have S3 := hide hS3
          have B3 := hide ((unhide B2).trans hb3)
          clear hS3 hb3 HFL K2 R2 S2 B2
          cases hfp : folP s rc with
          | none =>
            have HD := hide (unhide HBAD (by rw [unhide HNX, unhide HST]; exact hfp))
            dsimp only [Option.isSome]
            go_upto_region 15 with fail
            have r0 := (unhide R3).cell 0 rfl
            have r1 := (unhide R3).cell 1 rfl
            have r2 := (unhide R3).cell 2 rfl
            have f0 := (unhide R3).fro 0
            have f1 := (unhide R3).fro 1
            have f2 := (unhide R3).fro 2
            have W1 := hide (fold_ret (B := w.heap.size + 1) (tm := 0) (vo := 0) (a := none) (n := 0) (c := 0) (l := []) (unhide R3) (World.ownsRow_nil _ _ 78 3) (by omega))
            have K9 := hide ((unhide K3).trans (unhide W1).2.2)
            go_wp2_with fail
            generalize ((w3.setCell ⟨w.heap.size, 0, none⟩ (.int .i64 0)).setCell ⟨w.heap.size, 1, none⟩ (.int .i64 0)).setCell ⟨w.heap.size, 2, none⟩ (.slice none 0 0) = wf at *
            have z0 := (unhide W1).1.cell 0 rfl
            have z1 := (unhide W1).1.cell 1 rfl
            have z2 := (unhide W1).1.cell 2 rfl
            refine bodyPost_ret (v := .tuple #[.agg #[.int .i64 0, .int .i64 0, .slice none 0 0], .int .i64 3]) (by simp [results, Try.results8, go_sem, z0, z1, z2]) rfl ?_
            rw [unhide HD]
            exact ⟨none, 0, rfl, (unhide W1).2.1, unhide K9⟩
          | some s' =>
            have HN := hide (show foldAt l (k + 1) = some s' by rw [unhide HNX, unhide HST]; exact hfp)
            rw [hfp] at S3
            dsimp only [Option.isSome, Option.getD] at S3 ⊢
            go_wp2_with fail
            refine ⟨⟨k + 1, s', by omega, by go_num, unhide HN, unhide S3, unhide B3⟩, ?_⟩
            simp [intOf]; omega
        · obtain rfl : k = l.length := by omega
          obtain ⟨sa, sc, hSb, hSo, hSn⟩ := unhide HS
          have HOKz := hide hok
          have HSO := hide hSo
          have s0 := hSb.cell 0 rfl
          have s1 := hSb.cell 1 rfl
          have s2 := hSb.cell 2 rfl
          have HSB := hide hSb
          have HFD := hide (show foldS l = (if stateB s.tm s.vo s.l then some s else none) by unfold foldS; rw [unhide HFO])
          have HOK := hide (implStateOK_any s.tm s.vo _ s.l wr hSo.ens hok.2)
          clear hSb hSo hSn HS hok
          go_wp2_with fail
          clear s0 s1 s2
          refine (unhide HOK).mono ?_
          rintro e w2 ⟨rfl, hb2⟩
          have K2 := hide ((unhide KR).trans (hb2.mono (unhide KR).size))
          have R2 := hide ((unhide RR).below hb2)
          have SB2 := hide ((unhide HSB).below hb2)
          have SO2 := hide ((unhide HSO).below hb2)
          clear hb2 HOK HSB HSO KR RR HB
          cases hst : stateB s.tm s.vo s.l
          · have HD := hide (show foldOut l = (st0, 3) by rw [unhide HDO, unhide HFD, hst]; rfl)
            go_upto_region 18 with fail
            have r0 := (unhide R2).cell 0 rfl
            have r1 := (unhide R2).cell 1 rfl
            have r2 := (unhide R2).cell 2 rfl
            have f0 := (unhide R2).fro 0
            have f1 := (unhide R2).fro 1
            have f2 := (unhide R2).fro 2
            have W1 := hide (fold_ret (B := w.heap.size + 1) (tm := 0) (vo := 0) (a := none) (n := 0) (c := 0) (l := []) (unhide R2) (World.ownsRow_nil _ _ 78 3) (by omega))
            have K9 := hide ((unhide K2).trans (unhide W1).2.2)
            go_wp2_with fail
            generalize ((w2.setCell ⟨w.heap.size, 0, none⟩ (.int .i64 0)).setCell ⟨w.heap.size, 1, none⟩ (.int .i64 0)).setCell ⟨w.heap.size, 2, none⟩ (.slice none 0 0) = wf at *
            have z0 := (unhide W1).1.cell 0 rfl
            have z1 := (unhide W1).1.cell 1 rfl
            have z2 := (unhide W1).1.cell 2 rfl
            refine bodyPost_ret (v := .tuple #[.agg #[.int .i64 0, .int .i64 0, .slice none 0 0], .int .i64 3]) (by simp [results, Try.results8, go_sem, z0, z1, z2]) rfl ?_
            rw [unhide HD]
            exact ⟨none, 0, rfl, (unhide W1).2.1, unhide K9⟩
          · have HD := hide (show foldOut l = (s, 0) by rw [unhide HDO, unhide HFD, hst]; rfl)
            have s0 := (unhide SB2).cell 0 rfl
            have s1 := (unhide SB2).cell 1 rfl
            have s2 := (unhide SB2).cell 2 rfl
            have r0 := (unhide R2).cell 0 rfl
            have r1 := (unhide R2).cell 1 rfl
            have r2 := (unhide R2).cell 2 rfl
            have f0 := (unhide R2).fro 0
            have f1 := (unhide R2).fro 1
            have f2 := (unhide R2).fro 2
            have W1 := hide (fold_ret (B := w.heap.size + 1) (tm := s.tm) (vo := s.vo) (unhide R2) (unhide SO2) (by omega))
            have K9 := hide ((unhide K2).trans (unhide W1).2.2)
            go_wp2_with fail
            generalize ((w2.setCell ⟨w.heap.size, 0, none⟩ (.int .i64 s.tm)).setCell ⟨w.heap.size, 1, none⟩ (.int .i64 s.vo)).setCell ⟨w.heap.size, 2, none⟩ (.slice sa s.l.length sc) = wf at *
            have z0 := (unhide W1).1.cell 0 rfl
            have z1 := (unhide W1).1.cell 1 rfl
            have z2 := (unhide W1).1.cell 2 rfl
            refine bodyPost_ret (v := .tuple #[.agg #[.int .i64 s.tm, .int .i64 s.vo, .slice sa s.l.length sc], .int .i64 0]) (by simp [results, Try.results8, go_sem, z0, z1, z2]) rfl ?_
            rw [unhide HD]
            exact ⟨sa, sc, rfl, (unhide W1).2.1, unhide K9⟩
end Go.Proofs.Ytpdjfjapdmopoaa
namespace Go.Proofs.Ytpdjfjapdmopoaa
open Go.ChangeShapes Go.WideShapes Go.ChangeAt Go.RowKit
set_option linter.unusedVariables false

theorem frP_len6 (b : List Int) : ∀ n p, b.length - p = n → 6 * (frP b p).1.length ≤ n := by
  intro n
  induction n using Nat.strongRecOn with
  | ind n ih =>
    intro p hp
    rw [frP]
    split
    · rename_i hpl
      split
      · rename_i h1
        have hk := frStep_ok (rs := b.drop p) (d := (frStep (b.drop p)).2) (Prod.ext h1 rfl)
        have hl : (b.drop p).length = b.length - p := List.length_drop
        have := ih (b.length - (p + 6 + (frStep (b.drop p)).2.length)) (by omega) _ rfl
        simp only [List.length_cons]
        omega
      · simp
    · simp
theorem frP_eachL (b : List Int) : ∀ n p, b.length - p = n → ∀ d ∈ (frP b p).1, d.length ≤ 200 := by
  intro n
  induction n using Nat.strongRecOn with
  | ind n ih =>
    intro p hp d hd
    rw [frP] at hd
    split at hd
    · split at hd
      · rename_i hpl h1
        have hk := frStep_ok (rs := b.drop p) (d := (frStep (b.drop p)).2) (Prod.ext h1 rfl)
        rcases List.mem_cons.1 hd with rfl | hd
        · exact hk.2.2.2.1
        · exact ih (b.length - (p + 6 + (frStep (b.drop p)).2.length)) (by omega) _ rfl d hd
      · simp at hd
    · simp at hd
theorem lgAt_recs6 (sg : List Fl) (hs : ∀ f ∈ sg, f.d.size ≤ 3000) : ∀ i, i ≤ sg.length → (lgAt sg i).recs.length ≤ i * 500 ∧ ∀ r ∈ (lgAt sg i).recs, r.size ≤ 200
  | 0, _ => by simp [lgAt, lg0]
  | i + 1, h => by
    obtain ⟨ih, ih2⟩ := lgAt_recs6 sg hs i (by omega)
    have hf := frP_len6 (bytesI (sg.getD i default).d) _ 0 rfl
    rw [bytesI_len2] at hf
    have hf2 : 6 * (frF (sg.getD i default)).1.length ≤ (sg.getD i default).d.size - 0 := hf
    have hd := hs (sg.getD i default) (by rw [List.getD_eq_getElem?_getD, List.getElem?_eq_getElem (by omega)]; exact List.getElem_mem _)
    refine ⟨?_, fun r hr => ?_⟩
    · simp only [lgAt, lgNext, List.length_append, List.length_map, List.length_drop]
      omega
    · simp only [lgAt, lgNext] at hr
      rcases List.mem_append.1 hr with h1 | h1
      · exact ih2 r h1
      · obtain ⟨d, hd1, rfl⟩ := List.mem_map.1 h1
        rw [strOfNums_size]
        exact frP_eachL _ _ 0 rfl d (List.mem_of_mem_drop hd1)
theorem lgRun_fst (sg : List Fl) : ∀ n i, sg.length - i = n → (lgRun sg i).1 = lg0 ∨ ∃ j, (j ≤ sg.length ∨ j = i) ∧ (lgRun sg i).1 = lgAt sg j := by
  intro n
  induction n using Nat.strongRecOn with
  | ind n ih =>
    intro i hi
    rw [lgRun]
    by_cases h1 : i < sg.length
    · rw [dif_pos h1]
      by_cases h2 : lgCode sg i (lgAt sg i) = 0
      · rw [if_pos h2]
        rcases ih (sg.length - (i + 1)) (by omega) (i + 1) rfl with h | ⟨j, hj, h⟩
        · exact .inl h
        · exact .inr ⟨j, by omega, h⟩
      · rw [if_neg h2]; exact .inl rfl
    · rw [dif_neg h1]; exact .inr ⟨i, .inr rfl, rfl⟩
theorem segs_le {room : Int} {l : List Fl} (h : diskB room l = true) : (segsP l).length ≤ 8 := by
  have h1 : (segsP l).length ≤ l.length := List.length_filter_le _ _
  have h2 : l.length ≤ 8 := by
    unfold diskB at h
    simp only [Bool.and_eq_true, decide_eq_true_eq] at h
    omega
  omega
theorem wal_recs (room : Int) (l : List Fl) : (walOut room l).1.recs.length ≤ 4000 ∧ ∀ r ∈ (walOut room l).1.recs, r.size ≤ 200 := by
  unfold walOut
  by_cases hd : diskB room l = true
  · rw [if_pos hd]
    have h8 := segs_le hd
    rcases lgRun_fst (segsP l) _ 0 rfl with h | ⟨j, hj, h⟩
    · rw [h]; simp [lg0]
    · rw [h]
      have h1 := lgAt_recs6 (segsP l) (fun f hf => seg_small hd f (List.mem_filter.1 hf).1) j (by omega)
      exact ⟨by omega, h1.2⟩
  · rw [if_neg hd]; simp [lg0]
theorem take_len {n : Nat} {st : Option (List Int)} {r : List Int} (h : (takeP n st).2 = some r) : ∃ b, st = some b ∧ b.length = n + r.length ∧ (takeP n st).1.length = n := by
  cases st with
  | none => cases h
  | some b =>
    simp only [takeP] at h ⊢
    split at h
    · rename_i hn
      rw [if_pos hn]
      cases h
      exact ⟨b, rfl, by rw [List.length_drop]; omega, by rw [List.length_take]; omega⟩
    · cases h
theorem done_nil {st : Option (List Int)} (h : doneP st = true) : st = some [] := by
  cases st with
  | none => cases h
  | some r => cases r with
    | nil => rfl
    | cons _ _ => cases h
theorem rc_short {t : ByteArray} (h : (rcOf t).2 = true) : t.size ≤ 110 := by
  have hb : ((bytesI t).drop 1).length = t.size - 1 := by rw [List.length_drop, bytesI_len2]
  unfold rcOf at h
  split at h
  · cases h
  · split at h
    · obtain ⟨b1, e1, l1, _⟩ := take_len (done_nil h)
      obtain ⟨b2, e2, l2, _⟩ := take_len e1
      cases e2
      simp only [List.length_nil] at l1
      omega
    · split at h
      · obtain ⟨b1, e1, l1, _⟩ := take_len (done_nil h)
        cases e1
        simp only [List.length_nil] at l1
        omega
      · split at h
        · have hc : (entRead ((bytesI t).drop 1)).2 = 0 := of_decide_eq_true h
          unfold entRead at hc
          split at hc
          · simp at hc
          · split at hc
            · rename_i ha hq
              rw [Bool.and_eq_true] at hq
              have hd := (entOK_bounds hq.2).2.2.2.2
              obtain ⟨b1, e1, l1, k1⟩ := take_len (done_nil hq.1)
              obtain ⟨b2, e2, l2, _⟩ := take_len e1
              obtain ⟨b3, e3, l3, _⟩ := take_len e2
              obtain ⟨b4, e4, l4, _⟩ := take_len e3
              cases e4
              have hs : (entP (some ((bytesI t).drop 1))).1.2.2.size = (textP (numP 1 (numP 4 (some ((bytesI t).drop 1))).2).2).1.length := strOfNums_size _
              have hk : (textP (numP 1 (numP 4 (some ((bytesI t).drop 1))).2).2).1.length = (numP 1 (numP 1 (numP 4 (some ((bytesI t).drop 1))).2).2).1.toNat := k1
              simp only [List.length_nil] at l1
              omega
            · simp at hc
        · cases h
/-- A record that is too long folds to nothing. -/
theorem fold_long {l : List ByteArray} (h : allShort l = false) : foldS l = none := by
  unfold allShort at h
  rw [List.all_eq_false] at h
  obtain ⟨i, hi, hs⟩ := h
  simp only [decide_eq_true_eq] at hs
  have hi2 : i < l.length := by simpa using hi
  have hn : foldAt l (i + 1) = none := by
    show (match foldAt l i with | some s => stepP s (l.getD i ByteArray.empty) | none => none) = none
    cases foldAt l i with
    | none => rfl
    | some s =>
      show stepP s _ = none
      unfold stepP
      rw [if_neg (fun h => hs (rc_short h))]
  have q := foldAt_none l (i + 1) hn (l.length - (i + 1))
  rw [show i + 1 + (l.length - (i + 1)) = l.length by omega] at q
  unfold foldS
  rw [q]
/-- What LoadState answers. -/
def ldOut (room : Int) (l : List Fl) : St × Int := if (walOut room l).2 = 0 then (match foldS (walOut room l).1.recs with | some s => (s, 0) | none => (st0, 3)) else (st0, (walOut room l).2)
theorem fold_code (l : List ByteArray) (h : l.length ≤ 4000) : (match foldS l with | some s => (s, (0 : Int)) | none => (st0, 3)) = if (foldOut l).2 = 0 then ((foldOut l).1, 0) else (st0, 3) := by
  have e : foldOut l = if allShort l = false then (st0, 4) else (match foldS l with | some s => (s, (0 : Int)) | none => (st0, 3)) := by
    unfold foldOut
    exact if_neg (show ¬ 4096 < l.length by omega)
  by_cases hs : allShort l = false
  · rw [if_pos hs] at e
    rw [e, fold_long hs]; rfl
  · rw [if_neg hs] at e
    rw [e]
    cases foldS l <;> rfl
end Go.Proofs.Ytpdjfjapdmopoaa
