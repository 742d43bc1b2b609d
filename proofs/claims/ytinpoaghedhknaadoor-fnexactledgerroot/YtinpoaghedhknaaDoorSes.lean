/- Lists of sessions: what can be read, what is one's own; the laws' eq, marks, held. -/
import Derived.Test.YtinpoaghedhknaaDoorStrO
import Derived.Test.YtinpoaghedhknaaDoorStr
import Derived.Test.YtinpoaghedhknaaDoorLawG
import Derived.Test.YtinpoaghedhknaaDoorBlk
import Derived.Deep.Fields
import Derived.Deep.Slices
import Derived.Deep.RegionHeld3
namespace Go.Proofs.YtinpoaghedhknaaDoor
open Go.ChangeShapes Go.WideShapes Go.ChangeAt Go.RowKit Go.Deep
set_option linter.unusedVariables false
set_option linter.unusedSimpArgs false

structure Se where
  id : Int
  sq : Int
  kd : Int
  pl : Int
  vl : ByteArray
deriving Inhabited
def seC (f : Se) : List Value := [.int .i64 f.id, .int .i64 f.sq, .int .i64 f.kd, .int .i64 f.pl, .string f.vl]
def sesC (l : List Se) : List Value := l.flatMap seC
/-- The value is a slice that holds these sessions. -/
def Sess (w : World) (v : Value) (l : List Se) : Prop :=
  ∃ a cap, v = .slice a l.length cap ∧ l.length ≤ cap ∧ cap ≤ maxLen ∧ (l.length = 0 ∨ ∃ b off, a = some ⟨b, off, none⟩ ∧ b < w.heap.size ∧ ∀ i, i < l.length → w.cell? ⟨b, off + i * 5, none⟩ = some (.int .i64 (l.getD i default).id) ∧ w.cell? ⟨b, off + i * 5 + 1, none⟩ = some (.int .i64 (l.getD i default).sq) ∧ w.cell? ⟨b, off + i * 5 + 2, none⟩ = some (.int .i64 (l.getD i default).kd) ∧ w.cell? ⟨b, off + i * 5 + 3, none⟩ = some (.int .i64 (l.getD i default).pl) ∧ w.cell? ⟨b, off + i * 5 + 4, none⟩ = some (.string (l.getD i default).vl))
theorem Sess.below {w w' : World} {v : Value} {l : List Se} (h : Sess w v l) (hb : Below w.heap.size w w') : Sess w' v l := by
  obtain ⟨a, cap, hv, hn, hm, hc⟩ := h
  refine ⟨a, cap, hv, hn, hm, ?_⟩
  rcases hc with h0 | ⟨b, off, ha, hlt, hc⟩
  · exact .inl h0
  · exact .inr ⟨b, off, ha, Nat.lt_of_lt_of_le hlt hb.size, fun i hi => ⟨(hb.cell (p := ⟨b, off + i * 5, none⟩) hlt).trans (hc i hi).1, (hb.cell (p := ⟨b, off + i * 5 + 1, none⟩) hlt).trans (hc i hi).2.1, (hb.cell (p := ⟨b, off + i * 5 + 2, none⟩) hlt).trans (hc i hi).2.2.1, (hb.cell (p := ⟨b, off + i * 5 + 3, none⟩) hlt).trans (hc i hi).2.2.2.1, (hb.cell (p := ⟨b, off + i * 5 + 4, none⟩) hlt).trans (hc i hi).2.2.2.2⟩⟩
theorem sesC_len (l : List Se) : (sesC l).length = l.length * 5 := by
  induction l with
  | nil => rfl
  | cons f r ih => simp only [sesC, List.flatMap_cons, List.length_append, List.length_cons] at ih ⊢; rw [ih]; simp [seC]; omega
theorem sesC_app (x y : List Se) : sesC (x ++ y) = sesC x ++ sesC y := by simp [sesC]
theorem sesC_get : ∀ (l : List Se) (i : Nat), i < l.length → (sesC l)[i * 5]? = some (.int .i64 (l.getD i default).id) ∧ (sesC l)[i * 5 + 1]? = some (.int .i64 (l.getD i default).sq) ∧ (sesC l)[i * 5 + 2]? = some (.int .i64 (l.getD i default).kd) ∧ (sesC l)[i * 5 + 3]? = some (.int .i64 (l.getD i default).pl) ∧ (sesC l)[i * 5 + 4]? = some (.string (l.getD i default).vl)
  | [], i, h => by simp at h
  | f :: r, 0, h => ⟨rfl, rfl, rfl, rfl, rfl⟩
  | f :: r, i + 1, h => by
    have ih := sesC_get r i (by simpa using h)
    have e : sesC (f :: r) = .int .i64 f.id :: .int .i64 f.sq :: .int .i64 f.kd :: .int .i64 f.pl :: .string f.vl :: sesC r := rfl
    rw [e, show (i + 1) * 5 = i * 5 + 1 + 1 + 1 + 1 + 1 by omega, show i * 5 + 1 + 1 + 1 + 1 + 1 + 1 = (i * 5 + 1) + 1 + 1 + 1 + 1 + 1 by omega, show i * 5 + 1 + 1 + 1 + 1 + 1 + 2 = (i * 5 + 2) + 1 + 1 + 1 + 1 + 1 by omega, show i * 5 + 1 + 1 + 1 + 1 + 1 + 3 = (i * 5 + 3) + 1 + 1 + 1 + 1 + 1 by omega, show i * 5 + 1 + 1 + 1 + 1 + 1 + 4 = (i * 5 + 4) + 1 + 1 + 1 + 1 + 1 by omega]
    simp only [List.getElem?_cons_succ, List.getD_cons_succ]
    exact ih
theorem sesC_set : ∀ (l : List Se) (k : Nat) (f : Se), k < l.length → ((((((sesC l).set (k * 5) (.int .i64 f.id)).set (k * 5 + 1) (.int .i64 f.sq)).set (k * 5 + 2) (.int .i64 f.kd)).set (k * 5 + 3) (.int .i64 f.pl)).set (k * 5 + 4) (.string f.vl)) = sesC (l.set k f)
  | [], k, f, h => by simp at h
  | g :: r, 0, f, h => rfl
  | g :: r, k + 1, f, h => by
    have ih := sesC_set r k f (by simpa using h)
    have e : ∀ (g : Se) (r : List Se), sesC (g :: r) = .int .i64 g.id :: .int .i64 g.sq :: .int .i64 g.kd :: .int .i64 g.pl :: .string g.vl :: sesC r := fun _ _ => rfl
    rw [List.set_cons_succ, e, e, ← ih, show (k + 1) * 5 = k * 5 + 1 + 1 + 1 + 1 + 1 by omega, show k * 5 + 1 + 1 + 1 + 1 + 1 + 1 = (k * 5 + 1) + 1 + 1 + 1 + 1 + 1 by omega, show k * 5 + 1 + 1 + 1 + 1 + 1 + 2 = (k * 5 + 2) + 1 + 1 + 1 + 1 + 1 by omega, show k * 5 + 1 + 1 + 1 + 1 + 1 + 3 = (k * 5 + 3) + 1 + 1 + 1 + 1 + 1 by omega, show k * 5 + 1 + 1 + 1 + 1 + 1 + 4 = (k * 5 + 4) + 1 + 1 + 1 + 1 + 1 by omega]
    simp only [List.set_cons_succ]
/-- The value is a slice of the call's own, from block B on, that holds these sessions. -/
def OwnSe (B : Nat) (w : World) (v : Value) (l : List Se) : Prop := w.ownsRow B 77 5 v l.length (sesC l)
theorem OwnSe.cells {B : Nat} {w : World} {g cap n : Nat} {l : List Se} (h : w.ownsRow B 77 5 (.slice (some ⟨g, 0, none⟩) n cap) n (sesC l)) (i : Nat) (hi : i < l.length) (hn : n = l.length) :
    w.cell? ⟨g, i * 5, none⟩ = some (.int .i64 (l.getD i default).id) ∧ w.cell? ⟨g, i * 5 + 1, none⟩ = some (.int .i64 (l.getD i default).sq) ∧ w.cell? ⟨g, i * 5 + 2, none⟩ = some (.int .i64 (l.getD i default).kd) ∧ w.cell? ⟨g, i * 5 + 3, none⟩ = some (.int .i64 (l.getD i default).pl) ∧ w.cell? ⟨g, i * 5 + 4, none⟩ = some (.string (l.getD i default).vl) := by
  obtain ⟨e0, e1, e2, e3, e4⟩ := sesC_get l i hi
  exact ⟨(h.cellAt _ (by omega)).trans e0, (h.cellAt _ (by omega)).trans e1, (h.cellAt _ (by omega)).trans e2, (h.cellAt _ (by omega)).trans e3, (h.cellAt _ (by omega)).trans e4⟩
theorem OwnSe.read {B : Nat} {w : World} {v : Value} {l : List Se} (h : OwnSe B w v l) : Sess w v l := by
  rcases h.2 with ⟨rfl, h0⟩ | ⟨g, cap, cur, rfl, hb, hg, hn, hm, _⟩
  · obtain rfl := List.eq_nil_of_length_eq_zero h0
    exact ⟨none, 0, rfl, Nat.le_refl _, by unfold maxLen; omega, .inl rfl⟩
  · refine ⟨_, _, rfl, hn, hm, .inr ⟨g, 0, rfl, (Array.getElem?_eq_some_iff.1 hg).1, fun i hi => ?_⟩⟩
    have := OwnSe.cells h i hi rfl
    simpa using this
theorem OwnSe.kept {T : Nat → Prop} {B : Nat} {w w' : World} {v : Value} {l : List Se} (h : OwnSe B w v l) (ht : Touch T w w') (hn : ∀ k, v.ownBlock = some k → ¬ T k) : OwnSe B w' v l := own_kept h ht hn
theorem OwnSe.below {B : Nat} {w w' : World} {v : Value} {l : List Se} (h : OwnSe B w v l) (hb : Below w.heap.size w w') : OwnSe B w' v l := h.kept (T := fun _ => False) (Touch.ofBelow hb) (fun _ _ h => h)
theorem OwnSe.lt {B : Nat} {w : World} {v : Value} {l : List Se} (h : OwnSe B w v l) : ∀ k, v.ownBlock = some k → B ≤ k ∧ k < w.heap.size := World.ownsRow.lt h
theorem OwnSe.down {B B' : Nat} {w : World} {v : Value} {l : List Se} (h : OwnSe B w v l) (hB : B' ≤ B) : OwnSe B' w v l := by
  obtain ⟨hl, hc⟩ := h
  refine ⟨hl, ?_⟩
  rcases hc with h0 | ⟨g, cap, cur, hv, hg, rest⟩
  · exact .inl h0
  · exact .inr ⟨g, cap, cur, hv, by omega, rest⟩
theorem OwnSe.nil (B : Nat) (w : World) : OwnSe B w (.slice none 0 0) [] := World.ownsRow_nil w B 77 5
theorem infoSe : (Tryd.prog.info? 77).map (fun i => (i.zero, i.size, i.bytes)) = some (some (.agg #[.int .i64 0, .int .i64 0, .int .i64 0, .int .i64 0, .string ⟨#[]⟩]), 5, 48) := by kernel_rfl
theorem wrapSe (n : Int) (h0 : 0 ≤ n) (h1 : n < 9223372036854775808) : IntKind.i64.wrap n = n := by
  simp only [IntKind.wrap, IntKind.bits, IntKind.signed]
  simp
  omega
/-- Bytes of the texts of the first k sessions. -/
def zwTo (l : List Se) : Nat → Int
  | 0 => 0
  | k + 1 => zwTo l k + ((l.getD k default).vl.size : Int)
theorem zw_mono (l : List Se) (i j : Nat) (h : i ≤ j) : zwTo l i ≤ zwTo l j := by
  induction j with
  | zero => obtain rfl : i = 0 := by omega
            exact Int.le_refl _
  | succ j ih =>
    by_cases e : i = j + 1
    · subst e; exact Int.le_refl _
    · have := ih (by omega)
      show _ ≤ zwTo l j + _
      omega
def zszR (L : Int) (l : List Se) : Int := if (l.length : Int) + zwTo l l.length ≤ L then L - (l.length : Int) - zwTo l l.length else -1
def zszF (f : Se) (left : Int) : Int := if left - (f.vl.size : Int) < 0 then -1 else left - (f.vl.size : Int)
theorem zszR_cases (L : Int) (l : List Se) : zszR L l = -1 ∨ (0 ≤ zszR L l ∧ zszR L l ≤ L) := by
  have hw0 := zw_mono l 0 l.length (Nat.zero_le _)
  have hw00 : zwTo l 0 = 0 := rfl
  unfold zszR; split
  · right; omega
  · left; rfl
theorem zsmall_of (L : Int) (hL : L ≤ 1048576) (l : List Se) (h : 0 ≤ zszR L l) : l.length ≤ 1048576 ∧ ∀ i, (l.getD i default).vl.size ≤ 1048576 := by
  have h1 : (l.length : Int) + zwTo l l.length ≤ L := by
    unfold zszR at h
    split at h
    · assumption
    · omega
  have hw0 := zw_mono l 0 l.length (Nat.zero_le _)
  have hw00 : zwTo l 0 = 0 := rfl
  refine ⟨by omega, fun i => ?_⟩
  by_cases hi : i < l.length
  · have e2 : zwTo l (i + 1) = zwTo l i + ((l.getD i default).vl.size : Int) := rfl
    have := zw_mono l (i + 1) l.length (by omega)
    have := zw_mono l 0 i (Nat.zero_le _)
    omega
  · rw [List.getD_eq_getElem?_getD, List.getElem?_eq_none (by omega)]
    have e : (default : Se).vl.size = 0 := rfl
    simp only [Option.getD_none]
    omega
set_option maxRecDepth 100000 in
set_option maxHeartbeats 1000000 in
theorem szReply_one (f2 : Int) (f3 : Int) (f4 : ByteArray) (left : Int) (w : World) (h0 : 0 ≤ left) (h1 : left ≤ 1048576) (hd : f4.size ≤ maxLen) :
    Calls Tryd.prog 57 #[.agg #[.int .i64 f2, .int .i64 f3, .string f4], .int .i64 left] w fun e w' => e = .returned (.int .i64 (if left - (f4.size : Int) < 0 then -1 else left - (f4.size : Int))) ∧ Below w.heap.size w w' := by
  unfold maxLen at hd
  by_cases q1 : left - (f4.size : Int) < 0
  · have E : Hid ((if left - (f4.size : Int) < 0 then -1 else left - (f4.size : Int)) = -1) := hide (by rw [if_pos (by omega)])
    rw [unhide E]
    go_enter Tryd.func57, Tryd.ntmps57
    go_wp2_with fail
    go_ret
    exact ⟨rfl, (Below.refl _ _).alloc (Nat.le_refl _) _⟩
  · have E : Hid ((if left - (f4.size : Int) < 0 then -1 else left - (f4.size : Int)) = left - (f4.size : Int)) := hide (by rw [if_neg (by omega)])
    rw [unhide E]
    go_enter Tryd.func57, Tryd.ntmps57
    go_wp2_with fail
    go_ret
    exact ⟨rfl, (Below.refl _ _).alloc (Nat.le_refl _) _⟩
set_option maxRecDepth 100000 in
set_option maxHeartbeats 1000000 in
theorem toReply_one (f2 : Int) (f3 : Int) (f4 : ByteArray) (w : World) :
    Calls Tryd.prog 67 #[.agg #[.int .i64 f2, .int .i64 f3, .string f4]] w fun e w' => e = .returned (.agg #[.int .i64 f2, .int .i64 f3, .string f4]) ∧ Below w.heap.size w w' := by
  go_enter Tryd.func67, Tryd.ntmps67
  go_wp2_with fail
  refine bodyPost_ret (v := .agg #[.int .i64 f2, .int .i64 f3, .string f4]) (by simp [results, Tryd.results67, go_sem]) rfl ⟨rfl, ?_⟩
  exact (((Below.refl _ _).alloc (Nat.le_refl _) _).alloc (by simp) _).alloc (by simp; omega) _
set_option maxRecDepth 100000 in
set_option maxHeartbeats 1000000 in
theorem eqReply_one (f2 : Int) (f3 : Int) (f4 : ByteArray) (w : World) :
    Calls Tryd.prog 78 #[.agg #[.int .i64 f2, .int .i64 f3, .string f4], .agg #[.int .i64 f2, .int .i64 f3, .string f4]] w fun e w' => e = .returned (.bool true) ∧ Below w.heap.size w w' := by
  go_enter Tryd.func78, Tryd.ntmps78
  go_wp2_with fail
  go_ret
  exact ⟨rfl, ((Below.refl _ _).alloc (Nat.le_refl _) _).alloc (by simp) _⟩
set_option maxRecDepth 100000 in
set_option maxHeartbeats 1000000 in
theorem szSession_any (f : Se) (left : Int) (w : World) (h0 : 0 ≤ left) (h1 : left ≤ 1048576) (hd : f.vl.size ≤ maxLen) :
    Calls Tryd.prog 33 #[.agg #[.int .i64 f.id, .int .i64 f.sq, .int .i64 f.kd, .int .i64 f.pl, .string f.vl], .int .i64 left] w fun e w' => e = .returned (.int .i64 (zszF f left)) ∧ Below w.heap.size w w' := by
  obtain ⟨f0, f1, f2, f3, f4⟩ := f
  dsimp only at hd ⊢
  have HN := hide (fun wx => szReply_one f2 f3 f4 left wx h0 h1 hd)
  have E : Hid (zszF ⟨f0, f1, f2, f3, f4⟩ left = if left - (f4.size : Int) < 0 then -1 else left - (f4.size : Int)) := rfl
  have B0 := hide ((Below.refl w.heap.size w).alloc (Nat.le_refl _) (.cells #[.int .i64 f0, .int .i64 f1, .int .i64 f2, .int .i64 f3, .string f4] 72))
  have HR : Hid (left - (f4.size : Int) < 0 ∨ ¬ left - (f4.size : Int) < 0) := hide (Classical.em _)
  obtain ⟨r, hr⟩ : ∃ r, r = if left - (f4.size : Int) < 0 then -1 else left - (f4.size : Int) := ⟨_, rfl⟩
  have HC : Hid (r = -1 ∨ ¬ r < 0) := hide (by rw [hr]; split <;> omega)
  rw [← hr] at HN E
  clear hr hd
  go_enter Tryd.func33, Tryd.ntmps33
  go_wp2_with fail
  refine (unhide HN _).mono ?_
  rintro e w1 ⟨rfl, hb1⟩
  have B1 := hide ((unhide B0).trans (hb1.mono (unhide B0).size))
  clear hb1
  rcases unhide HC with hr | hr
  · subst hr
    go_wp2_with fail
    go_ret
    exact ⟨ret_int (unhide E).symm, unhide B1⟩
  · go_wp2_with fail
    go_ret
    exact ⟨ret_int (unhide E).symm, unhide B1⟩
set_option maxRecDepth 100000 in
set_option maxHeartbeats 1000000 in
theorem szSessionS_any (L : Int) (hL0 : 0 ≤ L) (hL1 : L ≤ 1048576) (v : Value) (l : List Se) (w : World) (h : Sess w v l) (hz : ∀ i, i < l.length → (l.getD i default).vl.size ≤ maxLen) :
    Calls Tryd.prog 16 #[v, .int .i64 L] w fun e w' => e = .returned (.int .i64 (zszR L l)) ∧ Below w.heap.size w w' := by
  obtain ⟨a, cap, rfl, hn, hm, hc⟩ := h
  have HC := hide hc
  have HZ := hide hz
  have hlm : l.length ≤ 9223372036854775807 := by unfold maxLen at hm; omega
  clear hc hz hm hn
  have hw0 := zw_mono l 0 l.length (Nat.zero_le _)
  have hw00 : zwTo l 0 = 0 := rfl
  by_cases hl : L < l.length
  · have E : Hid (zszR L l = -1) := hide (by unfold zszR; rw [if_neg (by omega)])
    have hl2 : L - (l.length : Int) < 0 := by omega
    go_enter Tryd.func16, Tryd.ntmps16
    go_wp2_with fail
    go_ret
    exact ⟨ret_int (unhide E).symm, Below.refl _ _⟩
  · have hl2 : ¬ L - (l.length : Int) < 0 := by omega
    go_enter Tryd.func16, Tryd.ntmps16
    go_wp2_with fail
    go_loopw [1, 5] (fun lf i wr => ∃ (k : Nat) (x : Int), k ≤ l.length ∧ i = .int .i64 k ∧ lf = .int .i64 x ∧ x = L - (l.length : Int) - zwTo l k ∧ 0 ≤ x ∧ Below w.heap.size w wr) (fun _ i _ => l.length - (intOf i).toNat)
    case atStart => exact ⟨0, _, Nat.zero_le _, rfl, rfl, by rw [hw00]; omega, by omega, Below.refl _ _⟩
    case round =>
      obtain ⟨k, x, hk, rfl, rfl, hx, hx0, hb⟩ := hrel
      by_cases hlt : k < l.length
      · obtain ⟨b, off, rfl, hbl, hsrc⟩ : ∃ b off, a = some ⟨b, off, none⟩ ∧ b < w.heap.size ∧ ∀ i, i < l.length → w.cell? ⟨b, off + i * 5, none⟩ = some (.int .i64 (l.getD i default).id) ∧ w.cell? ⟨b, off + i * 5 + 1, none⟩ = some (.int .i64 (l.getD i default).sq) ∧ w.cell? ⟨b, off + i * 5 + 2, none⟩ = some (.int .i64 (l.getD i default).kd) ∧ w.cell? ⟨b, off + i * 5 + 3, none⟩ = some (.int .i64 (l.getD i default).pl) ∧ w.cell? ⟨b, off + i * 5 + 4, none⟩ = some (.string (l.getD i default).vl) := by
          rcases unhide HC with h0 | h1
          · omega
          · exact h1
        obtain ⟨s0, s1, s2, s3, s4⟩ := hsrc k hlt
        have c0 := (hb.cell (p := ⟨b, off + k * 5, none⟩) hbl).trans s0
        have c1 := (hb.cell (p := ⟨b, off + k * 5 + 1, none⟩) hbl).trans s1
        have c2 := (hb.cell (p := ⟨b, off + k * 5 + 2, none⟩) hbl).trans s2
        have c3 := (hb.cell (p := ⟨b, off + k * 5 + 3, none⟩) hbl).trans s3
        have c4 := (hb.cell (p := ⟨b, off + k * 5 + 4, none⟩) hbl).trans s4
        have hk0 : (0 : Int) ≤ (k : Int) := by omega
        have hk1 : (k : Int) < (l.length : Int) := by omega
        have hwk := zw_mono l 0 k (Nat.zero_le _)
        have hwl := zw_mono l (k + 1) l.length (by omega)
        have hws : zwTo l (k + 1) = zwTo l k + ((l.getD k default).vl.size : Int) := rfl
        have hz := unhide HZ k hlt
        have hx1 : x ≤ 1048576 := by omega
        have hbs := hb.size
        have HB := hide hb
        clear hsrc s0 s1 s2 s3 s4 hb
        generalize l.getD k default = f at *
        have HSZ := hide (fun wx => szSession_any f x wx hx0 hx1 hz)
        have HSF : Hid (zszF f x = if x - (f.vl.size : Int) < 0 then -1 else x - (f.vl.size : Int)) := rfl
        obtain ⟨r, hr⟩ : ∃ r, r = zszF f x := ⟨_, rfl⟩
        rw [← hr] at HSZ HSF
        have HW := hide (And.intro hwl (And.intro hws hx))
        clear hr hwl hws hx hwk hw0 hw00 hz
        obtain ⟨f0, f1, f2, f3, f4⟩ := f
        dsimp only at c0 c1 c2 c3 c4 HSZ HSF HW
        go_wp2_with fail
        refine (unhide HSZ wr).mono ?_
        rintro e w2 ⟨rfl, hb2⟩
        have HB2 := hide ((unhide HB).trans (hb2.mono hbs))
        clear hb2 HB HSZ
        by_cases hr0 : r < 0
        · have E : Hid (zszR L l = -1) := hide (by
            obtain ⟨h1, h2, h3⟩ := unhide HW
            have h4 := unhide HSF
            unfold zszR; rw [if_neg]
            split at h4 <;> omega)
          go_wp2_with fail
          go_ret
          exact ⟨ret_int (unhide E).symm, unhide HB2⟩
        · go_wp2_with fail
          refine ⟨⟨k + 1, r, by omega, by go_num, rfl, ?_, by omega, unhide HB2⟩, ?_⟩
          · obtain ⟨h1, h2, h3⟩ := unhide HW
            have h4 := unhide HSF
            split at h4 <;> omega
          · simp [intOf]; omega
      · obtain rfl : k = l.length := by omega
        have E : Hid (zszR L l = x) := hide (by unfold zszR; rw [if_pos (by omega)]; omega)
        have R := hide hb
        clear hb hx
        go_wp2_with fail
        go_ret
        exact ⟨ret_int (unhide E).symm, unhide R⟩
set_option maxRecDepth 100000 in
set_option maxHeartbeats 1000000 in
theorem toSession_any (f : Se) (w : World) :
    Calls Tryd.prog 41 #[.agg #[.int .i64 f.id, .int .i64 f.sq, .int .i64 f.kd, .int .i64 f.pl, .string f.vl]] w fun e w' => e = .returned (.agg #[.int .i64 f.id, .int .i64 f.sq, .int .i64 f.kd, .int .i64 f.pl, .string f.vl]) ∧ Below w.heap.size w w' := by
  obtain ⟨f0, f1, f2, f3, f4⟩ := f
  dsimp only
  have HN := hide (fun wx => toReply_one f2 f3 f4 wx)
  go_enter Tryd.func41, Tryd.ntmps41
  go_wp2_with fail
  have B3 := hide ((((Below.refl w.heap.size w).alloc (Nat.le_refl _) (.cells #[.int .i64 f0, .int .i64 f1, .int .i64 f2, .int .i64 f3, .string f4] 72)).alloc (by simp) (.cells #[.int .i64 0, .int .i64 0, .int .i64 0, .int .i64 0, .string ⟨#[]⟩] 77)).alloc (by simp; omega) (.cells #[.int .i64 f0, .int .i64 f1, .int .i64 0, .int .i64 0, .string ⟨#[]⟩] 77))
  have X3 := hide (Blk.new ((w.alloc (.cells #[.int .i64 f0, .int .i64 f1, .int .i64 f2, .int .i64 f3, .string f4] 72)).alloc (.cells #[.int .i64 0, .int .i64 0, .int .i64 0, .int .i64 0, .string ⟨#[]⟩] 77)) #[.int .i64 f0, .int .i64 f1, .int .i64 0, .int .i64 0, .string ⟨#[]⟩] 77 (w.heap.size + 1 + 1) (by simp))
  have Y3 := hide ((Blk.new (w.alloc (.cells #[.int .i64 f0, .int .i64 f1, .int .i64 f2, .int .i64 f3, .string f4] 72)) #[.int .i64 0, .int .i64 0, .int .i64 0, .int .i64 0, .string ⟨#[]⟩] 77 (w.heap.size + 1) (by simp)).alloc (.cells #[.int .i64 f0, .int .i64 f1, .int .i64 0, .int .i64 0, .string ⟨#[]⟩] 77))
  generalize ((w.alloc (.cells #[.int .i64 f0, .int .i64 f1, .int .i64 f2, .int .i64 f3, .string f4] 72)).alloc (.cells #[.int .i64 0, .int .i64 0, .int .i64 0, .int .i64 0, .string ⟨#[]⟩] 77)).alloc (.cells #[.int .i64 f0, .int .i64 f1, .int .i64 0, .int .i64 0, .string ⟨#[]⟩] 77) = w3 at *
  refine (unhide HN w3).mono ?_
  rintro e w4 ⟨rfl, hb4⟩
  have X4 := (unhide X3).below hb4
  have Y4 := (unhide Y3).below hb4
  have B4 := hide ((unhide B3).trans (hb4.mono (unhide B3).size))
  clear hb4 B3 X3 Y3 HN
  have c0 := X4.cell 0 rfl
  have f0x := X4.fro 0
  have y0 := Y4.cell 0 rfl
  have h0x := Y4.fro 0
  have c1 := X4.cell 1 rfl
  have f1x := X4.fro 1
  have y1 := Y4.cell 1 rfl
  have h1x := Y4.fro 1
  have c2 := X4.cell 2 rfl
  have f2x := X4.fro 2
  have y2 := Y4.cell 2 rfl
  have h2x := Y4.fro 2
  have c3 := X4.cell 3 rfl
  have f3x := X4.fro 3
  have y3 := Y4.cell 3 rfl
  have h3x := Y4.fro 3
  have c4 := X4.cell 4 rfl
  have f4x := X4.fro 4
  have y4 := Y4.cell 4 rfl
  have h4x := Y4.fro 4
  have X5 := (((X4.set 2 (.int .i64 f2) (by simp)).set 3 (.int .i64 f3) (by simp)).set 4 (.string f4) (by simp))
  have Y5 := (((Y4.other (C := w.heap.size + 1 + 1) 2 (.int .i64 f2) (by omega)).other (C := w.heap.size + 1 + 1) 3 (.int .i64 f3) (by omega)).other (C := w.heap.size + 1 + 1) 4 (.string f4) (by omega))
  have x50 := X5.cell 0 rfl
  have y50 := Y5.cell 0 rfl
  have fy50 := Y5.fro 0
  have x51 := X5.cell 1 rfl
  have y51 := Y5.cell 1 rfl
  have fy51 := Y5.fro 1
  have x52 := X5.cell 2 rfl
  have y52 := Y5.cell 2 rfl
  have fy52 := Y5.fro 2
  have x53 := X5.cell 3 rfl
  have y53 := Y5.cell 3 rfl
  have fy53 := Y5.fro 3
  have x54 := X5.cell 4 rfl
  have y54 := Y5.cell 4 rfl
  have fy54 := Y5.fro 4
  have Z6 := (((((Y5.set 0 (.int .i64 f0) (by simp)).set 1 (.int .i64 f1) (by simp)).set 2 (.int .i64 f2) (by simp)).set 3 (.int .i64 f3) (by simp)).set 4 (.string f4) (by simp))
  have z60 := Z6.cell 0 rfl
  have z61 := Z6.cell 1 rfl
  have z62 := Z6.cell 2 rfl
  have z63 := Z6.cell 3 rfl
  have z64 := Z6.cell 4 rfl
  have B6 := hide (((((((((unhide B4).setCell (p := ⟨w.heap.size + 1 + 1, 2, none⟩) (by simp; omega) (.int .i64 f2)).setCell (p := ⟨w.heap.size + 1 + 1, 3, none⟩) (by simp; omega) (.int .i64 f3)).setCell (p := ⟨w.heap.size + 1 + 1, 4, none⟩) (by simp; omega) (.string f4)).setCell (p := ⟨w.heap.size + 1, 0, none⟩) (by simp) (.int .i64 f0)).setCell (p := ⟨w.heap.size + 1, 1, none⟩) (by simp) (.int .i64 f1)).setCell (p := ⟨w.heap.size + 1, 2, none⟩) (by simp) (.int .i64 f2)).setCell (p := ⟨w.heap.size + 1, 3, none⟩) (by simp) (.int .i64 f3)).setCell (p := ⟨w.heap.size + 1, 4, none⟩) (by simp) (.string f4))
  clear X4 Y4 X5 Y5 Z6 B4
  go_wp2_with fail
  refine bodyPost_ret (v := .agg #[.int .i64 f0, .int .i64 f1, .int .i64 f2, .int .i64 f3, .string f4]) (by simp [results, Tryd.results41, go_sem, z60, z61, z62, z63, z64]) rfl ⟨rfl, unhide B6⟩
def zeroSe : Se := ⟨0, 0, 0, 0, ⟨#[]⟩⟩
def fillSe (l : List Se) (k : Nat) : List Se := (List.range l.length).map fun j => if j < k then l.getD j default else zeroSe
theorem fillSe_len (l : List Se) (k : Nat) : (fillSe l k).length = l.length := by simp [fillSe]
theorem fillSe_all (l : List Se) : fillSe l l.length = l := by
  apply List.ext_getElem?
  intro j
  by_cases hj : j < l.length
  · simp [fillSe, hj, List.getD_eq_getElem?_getD]
  · simp [fillSe, hj]
theorem fillSe_set (l : List Se) (k : Nat) (hk : k < l.length) : (fillSe l k).set k (l.getD k default) = fillSe l (k + 1) := by
  apply List.ext_getElem?
  intro j
  rw [List.getElem?_set]
  simp only [fillSe_len]
  by_cases e : k = j
  · subst e
    rw [if_pos rfl, if_pos hk]
    simp [fillSe, hk]
  · rw [if_neg e]
    by_cases hj : j < l.length
    · by_cases h1 : j < k
      · simp [fillSe, hj, h1, show j < k + 1 by omega]
      · simp [fillSe, hj, h1, show ¬ j < k + 1 by omega]
    · simp [fillSe, hj]
theorem madeSe_at (x0 x1 x2 x3 x4 : Value) (n j : Nat) (hj : j < n) : (madeCells #[x0, x1, x2, x3, x4] n).toList[j]? = some (if j % 5 = 0 then x0 else if j % 5 = 1 then x1 else if j % 5 = 2 then x2 else if j % 5 = 3 then x3 else x4) := by
  have h3 : (#[x0, x1, x2, x3, x4] : Array Value).size = 5 := rfl
  unfold madeCells
  rw [h3, Array.getElem?_toList, Array.getElem?_map]
  have hr : (Array.range n)[j]? = some j := by simp [hj]
  rw [hr, Option.map_some]
  rcases (show j % 5 = 0 ∨ j % 5 = 1 ∨ j % 5 = 2 ∨ j % 5 = 3 ∨ j % 5 = 4 by omega) with e | e | e | e | e
  · rw [e]; rfl
  · rw [e]; rfl
  · rw [e]; rfl
  · rw [e]; rfl
  · rw [e]; rfl
theorem madeSe (l : List Se) : (madeCells (Value.agg #[.int .i64 0, .int .i64 0, .int .i64 0, .int .i64 0, .string ⟨#[]⟩]).cells (l.length * 5)).toList = sesC (fillSe l 0) := by
  have hcs : (Value.agg #[.int .i64 0, .int .i64 0, .int .i64 0, .int .i64 0, .string ⟨#[]⟩]).cells = #[Value.int .i64 0, Value.int .i64 0, Value.int .i64 0, Value.int .i64 0, Value.string ⟨#[]⟩] := rfl
  rw [hcs]
  apply List.ext_getElem?
  intro j
  by_cases hj : j < l.length * 5
  · have hq : j / 5 < (fillSe l 0).length := by rw [fillSe_len]; omega
    obtain ⟨g0, g1, g2, g3, g4⟩ := sesC_get (fillSe l 0) (j / 5) hq
    have hz : (fillSe l 0).getD (j / 5) default = zeroSe := by
      rw [fillSe_len] at hq
      rw [List.getD_eq_getElem?_getD]
      simp [fillSe, hq]
    rw [hz] at g0 g1 g2 g3 g4
    rw [madeSe_at _ _ _ _ _ _ _ hj]
    rcases (show j % 5 = 0 ∨ j % 5 = 1 ∨ j % 5 = 2 ∨ j % 5 = 3 ∨ j % 5 = 4 by omega) with e | e | e | e | e
    · rw [show j / 5 * 5 = j by omega] at g0; rw [g0, e]; rfl
    · rw [show j / 5 * 5 + 1 = j by omega] at g1; rw [g1, e]; rfl
    · rw [show j / 5 * 5 + 2 = j by omega] at g2; rw [g2, e]; rfl
    · rw [show j / 5 * 5 + 3 = j by omega] at g3; rw [g3, e]; rfl
    · rw [show j / 5 * 5 + 4 = j by omega] at g4; rw [g4, e]; rfl
  · have e1 : (madeCells #[Value.int .i64 0, Value.int .i64 0, Value.int .i64 0, Value.int .i64 0, Value.string ⟨#[]⟩] (l.length * 5)).toList[j]? = none := List.getElem?_eq_none (by rw [Array.length_toList, size_madeCells]; omega)
    have e2 : (sesC (fillSe l 0))[j]? = none := List.getElem?_eq_none (by rw [sesC_len, fillSe_len]; omega)
    rw [e1, e2]
set_option maxRecDepth 100000 in
set_option maxHeartbeats 1000000 in
theorem toSessionS_any (v : Value) (l : List Se) (w : World) (h : Sess w v l) (hs : l.length ≤ 1048576) :
    Calls Tryd.prog 21 #[v] w fun e w' => e = .returned (.slice (some ⟨w.heap.size, 0, none⟩) l.length l.length) ∧ OwnSe w.heap.size w' (.slice (some ⟨w.heap.size, 0, none⟩) l.length l.length) l ∧ w.heap.size < w'.heap.size ∧ Below w.heap.size w w' := by
  obtain ⟨i0, hi, hz0, hz1, hz2⟩ := info_parts infoSe
  obtain ⟨a, cap, rfl, hn, hm, hc⟩ := h
  have HC := hide hc
  clear hc hm hn
  go_enter Tryd.func21, Tryd.ntmps21
  go_wp2_with (at_make; refine wpList_make_full _ rfl _ _ 35 rfl w.heap.size 77 i0 _ 5 Tryd.underlying35 hi hz0 hz1 .i64 .i64 _ _ l.length rfl rfl rfl rfl (by rw [hz2]; omega) (by unfold maxLen; omega) (Nat.le_refl _) ?_; intro w1 hown1 hg1)
  rw [madeSe] at hown1
  have HZ := hide (And.intro hown1 ((Below.refl w.heap.size w).grown hg1 (Nat.le_refl _) (fun k h => by cases h)))
  clear hown1 hg1
  go_loopw [4] (fun i wr => ∃ k : Nat, k ≤ l.length ∧ i = .int .i64 k ∧ wr.ownsRow w.heap.size 77 5 (.slice (some ⟨w.heap.size, 0, none⟩) l.length l.length) l.length (sesC (fillSe l k)) ∧ Below w.heap.size w wr) (fun i _ => l.length - (intOf i).toNat)
  case atStart => exact ⟨0, Nat.zero_le _, rfl, (unhide HZ).1, (unhide HZ).2⟩
  case round =>
    obtain ⟨k, hk, rfl, hL, hbel⟩ := hrel
    by_cases hlt : k < l.length
    · obtain ⟨b, off, rfl, hbl, hsrc⟩ : ∃ b off, a = some ⟨b, off, none⟩ ∧ b < w.heap.size ∧ ∀ i, i < l.length → w.cell? ⟨b, off + i * 5, none⟩ = some (.int .i64 (l.getD i default).id) ∧ w.cell? ⟨b, off + i * 5 + 1, none⟩ = some (.int .i64 (l.getD i default).sq) ∧ w.cell? ⟨b, off + i * 5 + 2, none⟩ = some (.int .i64 (l.getD i default).kd) ∧ w.cell? ⟨b, off + i * 5 + 3, none⟩ = some (.int .i64 (l.getD i default).pl) ∧ w.cell? ⟨b, off + i * 5 + 4, none⟩ = some (.string (l.getD i default).vl) := by
        rcases unhide HC with h0 | h1
        · omega
        · exact h1
      obtain ⟨s0, s1, s2, s3, s4⟩ := hsrc k hlt
      have c0 := (hbel.cell (p := ⟨b, off + k * 5, none⟩) hbl).trans s0
      have c1 := (hbel.cell (p := ⟨b, off + k * 5 + 1, none⟩) hbl).trans s1
      have c2 := (hbel.cell (p := ⟨b, off + k * 5 + 2, none⟩) hbl).trans s2
      have c3 := (hbel.cell (p := ⟨b, off + k * 5 + 3, none⟩) hbl).trans s3
      have c4 := (hbel.cell (p := ⟨b, off + k * 5 + 4, none⟩) hbl).trans s4
      have hk0 : (0 : Int) ≤ (k : Int) := by omega
      have hk1 : (k : Int) < (l.length : Int) := by omega
      have hbs := hbel.size
      have HL := hide hL
      have HB := hide hbel
      clear hsrc s0 s1 s2 s3 s4 hL hbel
      obtain ⟨f, hf⟩ : ∃ f, f = l.getD k default := ⟨_, rfl⟩
      rw [← hf] at c0 c1 c2 c3 c4
      have HFe := hide hf
      clear hf
      have HT := hide (fun wx => toSession_any f wx)
      obtain ⟨f0, f1, f2, f3, f4⟩ := f
      dsimp only at c0 c1 c2 c3 c4 HT
      go_wp2_with fail
      refine (unhide HT wr).mono ?_
      rintro e w2 ⟨rfl, hb2⟩
      have hO : w2.ownsRow w.heap.size 77 5 (.slice (some ⟨w.heap.size, 0, none⟩) l.length l.length) l.length (sesC (fillSe l k)) := own_kept (T := fun _ => False) (unhide HL) (Touch.ofBelow hb2) (fun _ _ h => h)
      have hB2 := (unhide HB).trans (hb2.mono hbs)
      obtain ⟨d0, d1, d2, d3, d4⟩ := OwnSe.cells hO k (by rw [fillSe_len]; exact hlt) (fillSe_len l k).symm
      have g0 := hO.frozenAt (k * 5)
      have g1 := hO.frozenAt (k * 5 + 1)
      have g2 := hO.frozenAt (k * 5 + 2)
      have g3 := hO.frozenAt (k * 5 + 3)
      have g4 := hO.frozenAt (k * 5 + 4)
      have q0 := (hO.stored (k * 5) (.int .i64 f0)).1
      have q1 := (q0.stored (k * 5 + 1) (.int .i64 f1)).1
      have q2 := (q1.stored (k * 5 + 2) (.int .i64 f2)).1
      have q3 := (q2.stored (k * 5 + 3) (.int .i64 f3)).1
      have q4 := (q3.stored (k * 5 + 4) (.string f4)).1
      have hset : ((((((sesC (fillSe l k)).set (k * 5) (.int .i64 f0)).set (k * 5 + 1) (.int .i64 f1)).set (k * 5 + 2) (.int .i64 f2)).set (k * 5 + 3) (.int .i64 f3)).set (k * 5 + 4) (.string f4)) = sesC (fillSe l (k + 1)) := by
        have h1 := sesC_set (fillSe l k) k ⟨f0, f1, f2, f3, f4⟩ (by rw [fillSe_len]; exact hlt)
        dsimp only at h1
        rw [h1, ← fillSe_set l k hlt, ← unhide HFe]
      rw [hset] at q4
      have R := hide (And.intro q4 (((((hB2.setCell (p := ⟨w.heap.size, k * 5, none⟩) (Nat.le_refl _) (.int .i64 f0)).setCell (p := ⟨w.heap.size, k * 5 + 1, none⟩) (Nat.le_refl _) (.int .i64 f1)).setCell (p := ⟨w.heap.size, k * 5 + 2, none⟩) (Nat.le_refl _) (.int .i64 f2)).setCell (p := ⟨w.heap.size, k * 5 + 3, none⟩) (Nat.le_refl _) (.int .i64 f3)).setCell (p := ⟨w.heap.size, k * 5 + 4, none⟩) (Nat.le_refl _) (.string f4)))
      clear q0 q1 q2 q3 q4 hset hO hB2 hb2 HT HL HB
      go_wp2_with fail
      refine ⟨⟨k + 1, by omega, by go_num, (unhide R).1, (unhide R).2⟩, ?_⟩
      simp [intOf]; omega
    · obtain rfl : k = l.length := by omega
      rw [fillSe_all] at hL
      have hlt9 := (hL.lt w.heap.size rfl).2
      have R := hide (And.intro hL hbel)
      clear hL hbel
      go_wp2_with fail
      go_ret
      exact ⟨rfl, (unhide R).1, hlt9, (unhide R).2⟩
set_option maxRecDepth 100000 in
/-- sessions that came in, opened. -/
theorem open_sessions {H : Type} {enc : TypeId × Value → H} {W : World} {base : Nat} {sp : Nat → Bool} {held : Bool} {fuel : Nat} {c0 : Value} {x : DataW H × List MemPlace}
    (h : DataW.trod enc Tryd.prog W base sp held fuel 26 [c0] = some x) :
    ∃ l : List Se, Sess W c0 l ∧ ∀ i, i < l.length → (l.getD i default).vl.size ≤ maxLen := by
  have i3 : Tryd.prog.cellsOf 3 = 1 := by kernel_rfl
  have i9 : Tryd.prog.cellsOf 9 = 1 := by kernel_rfl
  have iF : Tryd.prog.cellsOf 72 = 5 := by kernel_rfl
  have iN : Tryd.prog.cellsOf 70 = 3 := by kernel_rfl
  rcases open_slice Tryd.underlying26 h with ⟨hc, _⟩ | ⟨a, len, cap, m, n, D, Pl, hc, hb, hl, hm, hmm, _, hx⟩
  · simp only [List.cons.injEq, and_true] at hc
    subst hc
    exact ⟨[], ⟨none, 0, rfl, Nat.le_refl _, by unfold maxLen; omega, .inl rfl⟩, fun i hi => by simp at hi⟩
  · simp only [List.cons.injEq, and_true] at hc
    subst hc
    have hlm : len ≤ m := by rw [hmm]; split <;> omega
    rw [iF] at hx
    have each : ∀ i, i < len → ∃ f : Se, W.cell? (a.add (i * 5)) = some (.int .i64 f.id) ∧ W.cell? (a.add (i * 5 + 1)) = some (.int .i64 f.sq) ∧ W.cell? (a.add (i * 5 + 2)) = some (.int .i64 f.kd) ∧ W.cell? (a.add (i * 5 + 3)) = some (.int .i64 f.pl) ∧ W.cell? (a.add (i * 5 + 4)) = some (.string f.vl) ∧ f.vl.size ≤ maxLen := by
      intro i hi
      obtain ⟨cs', h1, h2⟩ := hx i (by omega)
      obtain ⟨_, hlen, hcell⟩ := World.cells?_some h1
      obtain ⟨xs, k, hk, hxy, _, hxl, hf⟩ := DataW.trod_struct Tryd.underlying72 h2
      match cs', hlen with
      | [v0, v1, v2, v3, v4], _ =>
        obtain ⟨y0, e0⟩ := get_some hxl (show 0 < 3 by omega)
        obtain ⟨y1, e1⟩ := get_some hxl (show 1 < 3 by omega)
        obtain ⟨y2, e2⟩ := get_some hxl (show 2 < 3 by omega)
        have g0 : DataW.trod enc Tryd.prog W base sp held k 3 [v0] = some y0 := by simpa [Value.cells, i3, i9] using (hf 0 _ rfl).trans e0
        have g1 : DataW.trod enc Tryd.prog W base sp held k 3 [v1] = some y1 := by simpa [Value.cells, i3, i9] using (hf 1 _ rfl).trans e1
        have gn : DataW.trod enc Tryd.prog W base sp held k 70 [v2, v3, v4] = some y2 := by simpa [Value.cells, i3, i9, iN] using (hf 2 _ rfl).trans e2
        obtain ⟨xs2, k2, hk2, hxy2, _, hxl2, hf2⟩ := DataW.trod_struct Tryd.underlying70 gn
        obtain ⟨z2, ez2⟩ := get_some hxl2 (show 0 < 3 by omega)
        have g2 : DataW.trod enc Tryd.prog W base sp held k2 3 [v2] = some z2 := by simpa [Value.cells, i3, i9] using (hf2 0 _ rfl).trans ez2
        obtain ⟨z3, ez3⟩ := get_some hxl2 (show 1 < 3 by omega)
        have g3 : DataW.trod enc Tryd.prog W base sp held k2 3 [v3] = some z3 := by simpa [Value.cells, i3, i9] using (hf2 1 _ rfl).trans ez3
        obtain ⟨z4, ez4⟩ := get_some hxl2 (show 2 < 3 by omega)
        have g4 : DataW.trod enc Tryd.prog W base sp held k2 9 [v4] = some z4 := by simpa [Value.cells, i3, i9] using (hf2 2 _ rfl).trans ez4
        obtain ⟨a0, f0, _, q0⟩ := DataW.trod_int Tryd.underlying3 g0
        obtain ⟨a1, f1, _, q1⟩ := DataW.trod_int Tryd.underlying3 g1
        obtain ⟨a2, f2, _, q2⟩ := DataW.trod_int Tryd.underlying3 g2
        obtain ⟨a3, f3, _, q3⟩ := DataW.trod_int Tryd.underlying3 g3
        obtain ⟨a4, f4, _, q4⟩ := DataW.trod_string Tryd.underlying9 g4
        simp only [List.cons.injEq, and_true] at f0 f1 f2 f3 f4
        subst f0 f1 f2 f3 f4
        have c0 := hcell 0 (by omega)
        have c1 := hcell 1 (by omega)
        have c2 := hcell 2 (by omega)
        have c3 := hcell 3 (by omega)
        have c4 := hcell 4 (by omega)
        rw [add_add] at c0 c1 c2 c3 c4
        exact ⟨⟨a0, a1, a2, a3, a4⟩, by simpa using c0, by simpa using c1, by simpa using c2, by simpa using c3, by simpa using c4, q4⟩
    obtain ⟨F, hF⟩ := choose_lt each
    have hlen : ((List.range len).map F).length = len := by simp
    have hget : ∀ i, i < len → ((List.range len).map F).getD i default = F i := fun i hi => by simp [List.getD_eq_getElem?_getD, hi]
    refine ⟨(List.range len).map F, ⟨some a, cap, by rw [hlen], by rw [hlen]; exact hl, hm, ?_⟩, fun i hi => ?_⟩
    · by_cases h0 : len = 0
      · exact .inl (by rw [hlen]; exact h0)
      · obtain ⟨b, off, spot⟩ := a
        have hc := (hF 0 (by omega)).1
        have hspot : spot = none := by simpa [Addr.add] using World.cell?_spot hc
        subst hspot
        have hblk := World.block_lt_of_cell? W _ hc
        have e0 : ∀ i, (⟨b, off, none⟩ : Addr).add i = ⟨b, off + i, none⟩ := fun i => by unfold Addr.add; split <;> simp_all
        rw [e0] at hblk
        refine .inr ⟨b, off, rfl, hblk, fun i hi => ?_⟩
        rw [hlen] at hi
        rw [hget i hi]
        have h9 := hF i hi
        simp only [e0] at h9
        obtain ⟨u0, u1, u2, u3, u4, _⟩ := h9
        exact ⟨by first | exact u0 | simpa [Nat.add_assoc] using u0, by first | exact u1 | simpa [Nat.add_assoc] using u1, by first | exact u2 | simpa [Nat.add_assoc] using u2, by first | exact u3 | simpa [Nat.add_assoc] using u3, by first | exact u4 | simpa [Nat.add_assoc] using u4⟩
    · rw [hlen] at hi
      rw [hget i hi]
      exact (hF i hi).2.2.2.2.2
set_option maxRecDepth 100000 in
set_option maxHeartbeats 1000000 in
theorem eqSession_any (f : Se) (w : World) :
    Calls Tryd.prog 52 #[.agg #[.int .i64 f.id, .int .i64 f.sq, .int .i64 f.kd, .int .i64 f.pl, .string f.vl], .agg #[.int .i64 f.id, .int .i64 f.sq, .int .i64 f.kd, .int .i64 f.pl, .string f.vl]] w fun e w' => e = .returned (.bool true) ∧ Below w.heap.size w w' := by
  obtain ⟨f0, f1, f2, f3, f4⟩ := f
  dsimp only
  have HN := hide (fun wx => eqReply_one f2 f3 f4 wx)
  have B0 := hide (((Below.refl w.heap.size w).alloc (Nat.le_refl _) (.cells #[.int .i64 f0, .int .i64 f1, .int .i64 f2, .int .i64 f3, .string f4] 77)).alloc (by simp) (.cells #[.int .i64 f0, .int .i64 f1, .int .i64 f2, .int .i64 f3, .string f4] 77))
  go_enter Tryd.func52, Tryd.ntmps52
  go_wp2_with fail
  refine (unhide HN _).mono ?_
  rintro e w1 ⟨rfl, hb1⟩
  have B1 := hide ((unhide B0).trans (hb1.mono (unhide B0).size))
  clear hb1
  go_wp2_with fail
  go_ret
  exact ⟨rfl, unhide B1⟩
set_option maxRecDepth 100000 in
set_option maxHeartbeats 2000000 in
theorem eqSessionS_any (v v2 : Value) (l : List Se) (w : World) (h : Sess w v l) (h2 : Sess w v2 l) (hs : l.length ≤ 1048576) :
    Calls Tryd.prog 26 #[v, v2] w fun e w' => e = .returned (.bool true) ∧ Below w.heap.size w w' := by
  obtain ⟨a, cap, rfl, hn, hm, hc⟩ := h
  obtain ⟨a2, cap2, rfl, hn2, hm2, hc2⟩ := h2
  have HC := hide hc
  have HC2 := hide hc2
  clear hc hm hc2 hm2 hn hn2
  go_enter Tryd.func26, Tryd.ntmps26
  go_wp2_with fail
  go_loopw [5] (fun i wr => ∃ k : Nat, k ≤ l.length ∧ i = .int .i64 k ∧ Below w.heap.size w wr) (fun i _ => l.length - (intOf i).toNat)
  case atStart => exact ⟨0, Nat.zero_le _, rfl, Below.refl _ _⟩
  case round =>
    obtain ⟨k, hk, rfl, hb⟩ := hrel
    by_cases hlt : k < l.length
    · obtain ⟨b, off, rfl, hbl, hsrc⟩ : ∃ b off, a = some ⟨b, off, none⟩ ∧ b < w.heap.size ∧ ∀ i, i < l.length → w.cell? ⟨b, off + i * 5, none⟩ = some (.int .i64 (l.getD i default).id) ∧ w.cell? ⟨b, off + i * 5 + 1, none⟩ = some (.int .i64 (l.getD i default).sq) ∧ w.cell? ⟨b, off + i * 5 + 2, none⟩ = some (.int .i64 (l.getD i default).kd) ∧ w.cell? ⟨b, off + i * 5 + 3, none⟩ = some (.int .i64 (l.getD i default).pl) ∧ w.cell? ⟨b, off + i * 5 + 4, none⟩ = some (.string (l.getD i default).vl) := by
        rcases unhide HC with h0 | h1
        · omega
        · exact h1
      obtain ⟨b2, off2, rfl, hbl2, hsrc2⟩ : ∃ b off, a2 = some ⟨b, off, none⟩ ∧ b < w.heap.size ∧ ∀ i, i < l.length → w.cell? ⟨b, off + i * 5, none⟩ = some (.int .i64 (l.getD i default).id) ∧ w.cell? ⟨b, off + i * 5 + 1, none⟩ = some (.int .i64 (l.getD i default).sq) ∧ w.cell? ⟨b, off + i * 5 + 2, none⟩ = some (.int .i64 (l.getD i default).kd) ∧ w.cell? ⟨b, off + i * 5 + 3, none⟩ = some (.int .i64 (l.getD i default).pl) ∧ w.cell? ⟨b, off + i * 5 + 4, none⟩ = some (.string (l.getD i default).vl) := by
        rcases unhide HC2 with h0 | h1
        · omega
        · exact h1
      obtain ⟨s0, s1, s2, s3, s4⟩ := hsrc k hlt
      obtain ⟨t0, t1, t2, t3, t4⟩ := hsrc2 k hlt
      have c0 := (hb.cell (p := ⟨b, off + k * 5, none⟩) hbl).trans s0
      have d0 := (hb.cell (p := ⟨b2, off2 + k * 5, none⟩) hbl2).trans t0
      have c1 := (hb.cell (p := ⟨b, off + k * 5 + 1, none⟩) hbl).trans s1
      have d1 := (hb.cell (p := ⟨b2, off2 + k * 5 + 1, none⟩) hbl2).trans t1
      have c2 := (hb.cell (p := ⟨b, off + k * 5 + 2, none⟩) hbl).trans s2
      have d2 := (hb.cell (p := ⟨b2, off2 + k * 5 + 2, none⟩) hbl2).trans t2
      have c3 := (hb.cell (p := ⟨b, off + k * 5 + 3, none⟩) hbl).trans s3
      have d3 := (hb.cell (p := ⟨b2, off2 + k * 5 + 3, none⟩) hbl2).trans t3
      have c4 := (hb.cell (p := ⟨b, off + k * 5 + 4, none⟩) hbl).trans s4
      have d4 := (hb.cell (p := ⟨b2, off2 + k * 5 + 4, none⟩) hbl2).trans t4
      have hk0 : (0 : Int) ≤ (k : Int) := by omega
      have hk1 : (k : Int) < (l.length : Int) := by omega
      have hbs := hb.size
      have HB := hide hb
      clear hsrc hsrc2 s0 t0 s1 t1 s2 t2 s3 t3 s4 t4 hb
      generalize l.getD k default = f at *
      have HT := hide (fun wx => eqSession_any f wx)
      obtain ⟨f0, f1, f2, f3, f4⟩ := f
      dsimp only at c0 d0 c1 d1 c2 d2 c3 d3 c4 d4 HT
      go_wp2_with fail
      go_region_held3 (fun wx => wx.cell? ⟨b, off + k * 5, none⟩ = some (.int .i64 f0) ∧ wx.cell? ⟨b, off + k * 5 + 1, none⟩ = some (.int .i64 f1) ∧ wx.cell? ⟨b, off + k * 5 + 2, none⟩ = some (.int .i64 f2) ∧ wx.cell? ⟨b, off + k * 5 + 3, none⟩ = some (.int .i64 f3) ∧ wx.cell? ⟨b, off + k * 5 + 4, none⟩ = some (.string f4) ∧ wx.cell? ⟨b2, off2 + k * 5, none⟩ = some (.int .i64 f0) ∧ wx.cell? ⟨b2, off2 + k * 5 + 1, none⟩ = some (.int .i64 f1) ∧ wx.cell? ⟨b2, off2 + k * 5 + 2, none⟩ = some (.int .i64 f2) ∧ wx.cell? ⟨b2, off2 + k * 5 + 3, none⟩ = some (.int .i64 f3) ∧ wx.cell? ⟨b2, off2 + k * 5 + 4, none⟩ = some (.string f4))
        (first | go_keep | exact ⟨(hb2.cell (p := ⟨b, off + k * 5, none⟩) (by simp; omega)).trans c0, (hb2.cell (p := ⟨b, off + k * 5 + 1, none⟩) (by simp; omega)).trans c1, (hb2.cell (p := ⟨b, off + k * 5 + 2, none⟩) (by simp; omega)).trans c2, (hb2.cell (p := ⟨b, off + k * 5 + 3, none⟩) (by simp; omega)).trans c3, (hb2.cell (p := ⟨b, off + k * 5 + 4, none⟩) (by simp; omega)).trans c4, (hb2.cell (p := ⟨b2, off2 + k * 5, none⟩) (by simp; omega)).trans d0, (hb2.cell (p := ⟨b2, off2 + k * 5 + 1, none⟩) (by simp; omega)).trans d1, (hb2.cell (p := ⟨b2, off2 + k * 5 + 2, none⟩) (by simp; omega)).trans d2, (hb2.cell (p := ⟨b2, off2 + k * 5 + 3, none⟩) (by simp; omega)).trans d3, (hb2.cell (p := ⟨b2, off2 + k * 5 + 4, none⟩) (by simp; omega)).trans d4⟩)
        ((go_at_call 52; refine (unhide HT _).mono ?_; rintro e w2 ⟨rfl, hb2⟩))
      all_goals
        have HBZ := hide ((unhide HB).trans (show Below w.heap.size wr w2 from (below_drewN (Below.refl _ wr) 1).trans (hb2.mono (by simpa using hbs))))
        clear hb2 HB
        go_wp2_with fail
        refine ⟨⟨k + 1, by omega, by go_num, unhide HBZ⟩, ?_⟩
        simp [intOf]; omega
    · have HB := hide hb
      clear hb
      go_wp2_with fail
      go_ret
      exact ⟨rfl, unhide HB⟩
def zmk (c j : Nat) : Se := ⟨(c : Int) + 5 * (j : Int), (c : Int) + 5 * (j : Int) + 1, (c : Int) + 5 * (j : Int) + 1 + 1, (c : Int) + 5 * (j : Int) + 1 + 1 + 1, mtx (c + 5 * j + 4)⟩
def zmkTo (c : Nat) (l : List Se) (k : Nat) : List Se := (List.range l.length).map fun j => if j < k then zmk c j else l.getD j default
def zmks (c n : Nat) : List Se := (List.range n).map fun j => zmk c j
theorem zmkTo_len (c : Nat) (l : List Se) (k : Nat) : (zmkTo c l k).length = l.length := by simp [zmkTo]
theorem zmks_len (c n : Nat) : (zmks c n).length = n := by simp [zmks]
theorem zmks_get (c n j : Nat) (h : j < n) : (zmks c n).getD j default = zmk c j := by simp [zmks, List.getD_eq_getElem?_getD, h]
theorem zmkTo_zero (c : Nat) (l : List Se) : zmkTo c l 0 = l := by
  apply List.ext_getElem?
  intro j
  by_cases hj : j < l.length
  · simp [zmkTo, hj, List.getD_eq_getElem?_getD]
  · simp [zmkTo, hj]
theorem zmkTo_all (c : Nat) (l : List Se) : zmkTo c l l.length = zmks c l.length := by
  apply List.ext_getElem?
  intro j
  by_cases hj : j < l.length
  · simp [zmkTo, zmks, hj]
  · simp [zmkTo, zmks, hj]
theorem zmkTo_set (c : Nat) (l : List Se) (k : Nat) (hk : k < l.length) : (zmkTo c l k).set k (zmk c k) = zmkTo c l (k + 1) := by
  apply List.ext_getElem?
  intro j
  rw [List.getElem?_set]
  simp only [zmkTo_len]
  by_cases e : k = j
  · subst e
    rw [if_pos rfl, if_pos hk]
    simp [zmkTo, hk]
  · rw [if_neg e]
    by_cases hj : j < l.length
    · by_cases h1 : j < k
      · simp [zmkTo, hj, h1, show j < k + 1 by omega]
      · simp [zmkTo, hj, h1, show ¬ j < k + 1 by omega]
    · simp [zmkTo, hj]
end Go.Proofs.YtinpoaghedhknaaDoor
