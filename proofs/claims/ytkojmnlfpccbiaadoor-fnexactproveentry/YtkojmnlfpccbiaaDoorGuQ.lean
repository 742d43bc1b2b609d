/- The laws' marks in branches: markBranchS, markBranch. The laws' markLedger. Short forms of the steps of a region that draws (claims are bounded in size). -/
import Derived.Test.YtkojmnlfpccbiaaDoorBrO
import Derived.Test.YtkojmnlfpccbiaaDoorStr
import Derived.Test.YtkojmnlfpccbiaaDoorLed
import Derived.Test.YtkojmnlfpccbiaaDoorBlk
import Derived.Test.YtkojmnlfpccbiaaDoorBase
import Derived.Deep.RegionHeld3
namespace Go.Proofs.YtkojmnlfpccbiaaDoor.Sha
open Go.ChangeShapes Go.WideShapes Go.ChangeAt Go.RowKit
set_option linter.unusedVariables false
set_option linter.unusedSimpArgs false

theorem mtxR_size : ∀ (n k : Nat), k ≤ n → ∀ out : ByteArray, (mtxR k out).size ≤ out.size + k := by
  intro n
  induction n with
  | zero =>
    intro k hk out
    obtain rfl : k = 0 := by omega
    rw [mtxR, dif_pos rfl]; omega
  | succ n ih =>
    intro k hk out
    by_cases h : k = 0
    · rw [mtxR, dif_pos h]; omega
    · rw [mtxR, dif_neg h]
      have := ih (k / 10) (by omega) (strOfNums [48 + ((k % 10 : Nat) : Int)] ++ out)
      rw [ByteArray.size_append, strOfNums_size, List.length_cons, List.length_nil] at this
      omega
theorem mtx_size (k : Nat) : (mtx k).size ≤ 1 + k := by
  unfold mtx
  rw [ByteArray.size_append, strOfNums_size]
  have := mtxR_size k k (Nat.le_refl _) (strOfNums [])
  rw [strOfNums_size] at this
  simp at this ⊢
  omega
mutual
/-- How many branches there are. -/
def Br.cnt : Br → Nat
  | .mk _ _ _ l => 1 + cntL l
def cntL : List Br → Nat
  | [] => 0
  | b :: r => Br.cnt b + cntL r
end
mutual
/-- Branches, marked from a number on. -/
def markB (k : Nat) : Br → Br
  | .mk _ _ _ l => .mk (mtx k) (mtx (k + 1)) ((k + 2 : Nat) : Int) (markL (k + 3) l)
def markL (k : Nat) : List Br → List Br
  | [] => []
  | b :: r => markB k b :: markL (k + 3 * Br.cnt b) r
end
theorem cntL_cons (b : Br) (r : List Br) : cntL (b :: r) = b.cnt + cntL r := by conv => lhs; unfold cntL
theorem Br.cnt_eq (b : Br) : b.cnt = 1 + cntL b.kids := by cases b; unfold Br.cnt; rfl
theorem markB_key (k : Nat) (b : Br) : (markB k b).key = mtx k ∧ (markB k b).val = mtx (k + 1) ∧ (markB k b).at_ = ((k + 2 : Nat) : Int) ∧ (markB k b).kids = markL (k + 3) b.kids := by
  cases b; unfold markB; exact ⟨rfl, rfl, rfl, rfl⟩
theorem markL_len : ∀ (k : Nat) (l : List Br), (markL k l).length = l.length
  | k, [] => by unfold markL; rfl
  | k, b :: r => by unfold markL; simp [markL_len _ r]
theorem markL_get : ∀ (l : List Br) (k i : Nat), i < l.length → (markL k l).getD i default = markB (k + 3 * cntL (l.take i)) (l.getD i default)
  | [], k, i, h => by simp at h
  | b :: r, k, 0, h => by unfold markL; simp [cntL]
  | b :: r, k, i + 1, h => by
    have := markL_get r (k + 3 * b.cnt) i (by simpa using h)
    unfold markL
    simp only [List.getD_cons_succ, List.take_succ_cons]
    rw [this, cntL_cons]
    congr 1
    omega
theorem cnt_take : ∀ (l : List Br) (i : Nat), i < l.length → cntL (l.take (i + 1)) = cntL (l.take i) + (l.getD i default).cnt
  | [], i, h => by simp at h
  | b :: r, 0, h => by simp [cntL]
  | b :: r, i + 1, h => by
    have := cnt_take r i (by simpa using h)
    simp only [List.take_succ_cons, List.getD_cons_succ]
    rw [cntL_cons, cntL_cons, this]
    omega
theorem cnt_take_le : ∀ (l : List Br) (i : Nat), cntL (l.take i) ≤ cntL l
  | [], i => by simp
  | b :: r, 0 => by simp [cntL]
  | b :: r, i + 1 => by
    have := cnt_take_le r i
    simp only [List.take_succ_cons]
    rw [cntL_cons, cntL_cons]
    omega
mutual
theorem Br.cnt_wt : ∀ b : Br, (b.cnt : Int) ≤ 1 + b.wt
  | .mk k v _ l => by unfold Br.cnt Br.wt; have := cntL_wt l; omega
theorem cntL_wt : ∀ l : List Br, (cntL l : Int) ≤ wtL l
  | [] => by unfold cntL wtL; omega
  | b :: r => by unfold cntL wtL; have := Br.cnt_wt b; have := cntL_wt r; omega
end
set_option maxRecDepth 100000 in
set_option maxHeartbeats 4000000 in
theorem markBranchS_any {S : Nat → Prop} {w0 : World} {v : Value} {l : List Br} (h : BrO w0 S v l) : ∀ (w : World) (T : Nat → Prop) (k : Nat), Touch T w0 w → (∀ b, S b → ¬ T b) → 0 < k → k + 3 * cntL l ≤ 8388608 →
    Calls Tryd.prog 68 #[v, .int .i64 k] w fun e w' => e = .returned (.int .i64 ((k + 3 * cntL l : Nat) : Int)) ∧ BrO w' S v (markL k l) ∧ Touch S w w' := by
  induction h with
  | nil S a cap hc =>
    intro w T k ht hn hk0 hk1
    have HO : Hid (BrO w S (.slice a 0 cap) (markL k [])) := hide (by unfold markL; exact .nil S a cap hc)
    have hcz : k + 3 * cntL [] = k := by unfold cntL; omega
    rw [hcz]
    clear ht hn hc hcz
    go_enter Tryd.func68, Tryd.ntmps68
    go_wp2_with fail
    go_loopw [1, 5] (fun kk i wr => kk = .int .i64 k ∧ i = .int .i64 0 ∧ wr = w) (fun _ i _ => 0)
    case atStart => exact ⟨rfl, rfl, rfl⟩
    case round =>
      obtain ⟨rfl, rfl, rfl⟩ := hrel
      go_wp2_with fail
      go_ret
      exact ⟨rfl, unhide HO, Touch.refl _ _⟩
  | row S g cap l kv xs Si h0 h1 h2 h3 h4 h5 h6 h7 ih =>
    intro w T k ht hn hk0 hk1
    have O0 := hide (own_kept h2 ht (fun q hq => by cases hq; exact hn g h1))
    have HK0 := hide (fun i (hi : i < l.length) => (h7 i hi).touch ht (fun q hq => hn q (h5 i q hi hq).1))
    have HIH := hide ih
    have HT0 := hide (And.intro ht hn)
    have HS5 := hide h5
    have HS6 := hide h6
    have HR := hide h3
    have HG := hide h1
    have hlm : l.length ≤ cap ∧ cap ≤ maxLen := by
      rcases h2.2 with ⟨hx, _⟩ | ⟨g', cap', cur, hv, _, _, hn', hm', _⟩
      · cases hx
      · simp only [Value.slice.injEq] at hv; obtain ⟨_, _, rfl⟩ := hv; exact ⟨hn', hm'⟩
    have hlm2 : l.length ≤ 9223372036854775807 := by obtain ⟨h1, h2⟩ := hlm; unfold maxLen at h2; omega
    clear ht hn h2 h3 h7 ih h5 h6 h1 h4
    go_enter Tryd.func68, Tryd.ntmps68
    go_wp2_with fail
    go_loopw [1, 5] (fun kk i wr => ∃ (j : Nat) (ys : List Value), j ≤ l.length ∧ kk = .int .i64 ((k + 3 * cntL (l.take j) : Nat) : Int) ∧ i = .int .i64 j ∧ wr.ownsRow 0 36 4 (.slice (some ⟨g, 0, none⟩) l.length cap) l.length ys ∧ RowIs ys (markL k l) kv j ∧ (∀ q, q < l.length → ys[q * 4 + 3]? = some (kv q)) ∧ (∀ q, q < l.length → BrO wr (Si q) (kv q) (if q < j then (markL k l).getD q default else l.getD q default).kids) ∧ Touch (fun b => b = g ∨ ∃ q, q < j ∧ Si q b) w wr) (fun _ i _ => l.length - (intOf i).toNat)
    case atStart => exact ⟨0, xs, Nat.zero_le _, by simp [cntL], rfl, unhide O0, fun i hi => by omega, fun q hq => (unhide HR q hq).2.2.2, fun q hq => by rw [if_neg (by omega)]; exact unhide HK0 q hq, Touch.refl _ _⟩
    case round =>
      obtain ⟨j, ys, hj, rfl, rfl, hO, hRI, hKV, hKD, hTS⟩ := hrel
      by_cases hlt : j < l.length
      · have hct := cnt_take l j hlt
        have hctl := cnt_take_le l (j + 1)
        have hcn := Br.cnt_eq (l.getD j default)
        obtain ⟨q, hq⟩ : ∃ q, q = k + 3 * cntL (l.take j) := ⟨_, rfl⟩
        rw [← hq]
        have hq0 : 0 < q := by omega
        have hq1 : q + 3 ≤ 8388608 := by omega
        have HMG := hide (markL_get l k j hlt)
        rw [← hq] at HMG
        have p0 : (0 : Int) ≤ (j : Int) := by omega
        have p1 : (j : Int) < (l.length : Int) := by omega
        have hyl : ys.length = l.length * 4 := hO.1
        obtain ⟨o0, u0⟩ := get_some hyl (show j * 4 < l.length * 4 by omega)
        obtain ⟨o1, u1⟩ := get_some hyl (show j * 4 + 1 < l.length * 4 by omega)
        obtain ⟨o2, u2⟩ := get_some hyl (show j * 4 + 2 < l.length * 4 by omega)
        have u3 := hKV j hlt
        have HO := hide hO
        have HX := hide (And.intro hRI (And.intro hKV (And.intro hKD hTS)))
        have HYL := hide hyl
        have HU := hide (And.intro u0 (And.intro u1 (And.intro u2 u3)))
        have HQ := hide (And.intro hq (And.intro hct (And.intro hctl hcn)))
        clear hO hRI hKV hKD hTS hyl u0 u1 u2 u3 hq hct hctl hcn
        go_wp2_with fail
        refine (markText_int _ q (by omega) wr (by omega) (by omega)).mono ?_
        rintro e w1 ⟨rfl, hb1⟩
        have O1 := own_kept (T := fun _ => False) (unhide HO) (Touch.ofBelow hb1) (fun _ _ h => h)
        have c0 := (O1.cellAt (j * 4) (by omega)).trans (unhide HU).1
        have f0 := O1.frozenAt (j * 4)
        have O2 := hide (O1.stored (j * 4) (.string (mtx q))).1
        have T2 := hide ((Touch.ofBelow (T := fun b => b = g) hb1).setCell ⟨g, j * 4, none⟩ (.string (mtx q)) (fun _ => rfl))
        have w1a : IntKind.i64.wrap ((q : Int) + 1) = ((q + 1 : Nat) : Int) := by simp only [IntKind.wrap, IntKind.bits, IntKind.signed]; simp; omega
        have w2a : IntKind.i64.wrap (((q + 1 : Nat) : Int) + 1) = ((q + 2 : Nat) : Int) := by simp only [IntKind.wrap, IntKind.bits, IntKind.signed]; simp; omega
        have w3a : IntKind.i64.wrap (((q + 2 : Nat) : Int) + 1) = ((q + 3 : Nat) : Int) := by simp only [IntKind.wrap, IntKind.bits, IntKind.signed]; simp; omega
        clear hb1 O1
        generalize hq1n : q + 1 = qa at *
        generalize hq2n : q + 2 = qb at *
        generalize hq3n : q + 3 = qc at *
        have HQN := hide (And.intro hq1n (And.intro hq2n hq3n))
        clear hq1n hq2n hq3n
        obtain ⟨m0, hm0⟩ : ∃ m0, m0 = mtx q := ⟨_, rfl⟩
        rw [← hm0] at O2 T2 ⊢
        have HM0 := hide hm0
        clear hm0
        go_wp2_with fail
        clear c0 f0
        generalize w1.setCell ⟨g, j * 4, none⟩ (.string m0) = w2 at *
        refine (markText_int _ qa (by omega) w2 (by have := (unhide HQN).1; omega) (by have := (unhide HQN).1; have := (unhide HQN).2.2; omega)).mono ?_
        rintro e w3 ⟨rfl, hb3⟩
        have O3 := own_kept (T := fun _ => False) (unhide O2) (Touch.ofBelow hb3) (fun _ _ h => h)
        have c1 := (O3.cellAt (j * 4 + 1) (by omega)).trans ((List.getElem?_set_ne (by omega)).trans (unhide HU).2.1)
        have f1 := O3.frozenAt (j * 4 + 1)
        have O4 := hide (O3.stored (j * 4 + 1) (.string (mtx qa))).1
        have T4 := hide (((unhide T2).trans (Touch.ofBelow (T := fun b => b = g) hb3) (fun _ _ h => h)).setCell ⟨g, j * 4 + 1, none⟩ (.string (mtx qa)) (fun _ => rfl))
        clear hb3 O3 O2 T2
        obtain ⟨m1, hm1⟩ : ∃ m1, m1 = mtx qa := ⟨_, rfl⟩
        rw [← hm1] at O4 T4 ⊢
        have HM1 := hide hm1
        clear hm1
        have c2 := ((unhide O4).cellAt (j * 4 + 2) (by omega)).trans ((List.getElem?_set_ne (by omega)).trans ((List.getElem?_set_ne (by omega)).trans (unhide HU).2.2.1))
        have f2 := (unhide O4).frozenAt (j * 4 + 2)
        have O5 := hide ((unhide O4).stored (j * 4 + 2) (.int .i64 qb)).1
        have T5 := hide ((unhide T4).setCell ⟨g, j * 4 + 2, none⟩ (.int .i64 qb) (fun _ => rfl))
        have c3 := ((unhide O5).cellAt (j * 4 + 3) (by omega)).trans ((List.getElem?_set_ne (by omega)).trans ((List.getElem?_set_ne (by omega)).trans ((List.getElem?_set_ne (by omega)).trans (unhide HU).2.2.2)))
        clear O4 T4
        go_wp2_with fail
        clear c1 f1 c2 f2
        generalize (w3.setCell ⟨g, j * 4 + 1, none⟩ (.string m1)).setCell ⟨g, j * 4 + 2, none⟩ (.int .i64 qb) = w5 at *
        have HBIG : Hid (Touch (fun b => T b ∨ b = g ∨ ∃ q, q < j ∧ Si q b) w0 w5) := hide ((((Touch.refl (fun b => T b ∨ b = g ∨ ∃ q, q < j ∧ Si q b) w0).trans (unhide HT0).1 (fun _ _ h => .inl h)).trans (unhide HX).2.2.2 (fun _ _ h => .inr h)).trans (unhide T5) (fun _ _ h => .inr (.inl h)))
        have HNB : Hid (∀ b, Si j b → ¬ (T b ∨ b = g ∨ ∃ q, q < j ∧ Si q b)) := hide (fun b hb h => by
          rcases h with h | h | ⟨q', hq', h⟩
          · exact (unhide HT0).2 b (unhide HS5 j b hlt hb).1 h
          · exact (unhide HS5 j b hlt hb).2 h
          · exact unhide HS6 q' j b hq' hlt h hb)
        have HKC := hide (unhide HIH j hlt w5 _ qc (unhide HBIG) (unhide HNB) (by have := (unhide HQN).2.2; omega) (by obtain ⟨a1, a2, a3, a4⟩ := unhide HQ; have := (unhide HQN).2.2; omega))
        refine (unhide HKC).mono ?_
        rintro e w6 ⟨rfl, hO6, hT6⟩
        have RR := hide (And.intro hO6 hT6)
        have O6 := hide (own_kept (unhide O5) hT6 (fun q' hq' h => by cases hq'; exact (unhide HS5 j g hlt h).2 rfl))
        clear hO6 hT6 HKC HBIG HNB c3
        have hkk : Hid (qc + 3 * cntL (l.getD j default).kids = k + 3 * cntL (l.take (j + 1))) := hide (by obtain ⟨a1, a2, a3, a4⟩ := unhide HQ; have := (unhide HQN).2.2; omega)
        generalize hnx : qc + 3 * cntL (l.getD j default).kids = nx at *
        clear hnx
        go_wp2_with fail
        obtain ⟨a1, a2, a3, a4⟩ := unhide HQ
        obtain ⟨b1, b2, b3⟩ := unhide HQN
        obtain ⟨x1, x2, x3, x4⟩ := unhide HX
        have hmb := markB_key q (l.getD j default)
        refine ⟨⟨j + 1, _, by omega, by rw [unhide hkk], by go_num, unhide O6, ?_, ?_, ?_, ?_⟩, ?_⟩
        · intro i hi
          by_cases e : i = j
          · subst e
            rw [unhide HMG, hmb.1, hmb.2.1, hmb.2.2.1]
            refine ⟨?_, ?_, ?_, ?_⟩
            · rw [List.getElem?_set_ne (by omega), List.getElem?_set_ne (by omega), List.getElem?_set_self (by have := unhide HYL; omega)]
              exact congrArg (fun z => some (Value.string z)) (unhide HM0)
            · rw [List.getElem?_set_ne (by omega), List.getElem?_set_self (by have := unhide HYL; simp; omega)]
              exact congrArg (fun z => some (Value.string z)) (by rw [unhide HM1, ← b1])
            · rw [List.getElem?_set_self (by have := unhide HYL; simp; omega), b2]
            · rw [List.getElem?_set_ne (by omega), List.getElem?_set_ne (by omega), List.getElem?_set_ne (by omega)]
              exact (unhide HU).2.2.2
          · have hx := x1 i (by omega)
            rw [List.getElem?_set_ne (by omega), List.getElem?_set_ne (by omega), List.getElem?_set_ne (by omega), List.getElem?_set_ne (by omega), List.getElem?_set_ne (by omega), List.getElem?_set_ne (by omega), List.getElem?_set_ne (by omega), List.getElem?_set_ne (by omega), List.getElem?_set_ne (by omega), List.getElem?_set_ne (by omega), List.getElem?_set_ne (by omega), List.getElem?_set_ne (by omega)]
            exact hx
        · intro i hi
          rw [List.getElem?_set_ne (by omega), List.getElem?_set_ne (by omega), List.getElem?_set_ne (by omega)]
          exact x2 i hi
        · intro i hi
          by_cases e : i = j
          · subst e
            rw [if_pos (by omega), unhide HMG, hmb.2.2.2, b3]
            exact (unhide RR).1
          · have hk := x3 i hi
            have ht1 := hk.touch (unhide T5) (fun b hb h => (unhide HS5 i b hi hb).2 h)
            have ht2 := ht1.touch (unhide RR).2 (fun b hb h => by
              rcases Nat.lt_or_ge i j with h' | h'
              · exact unhide HS6 i j b h' hlt hb h
              · exact unhide HS6 j i b (by omega) hi h hb)
            rcases Nat.lt_or_ge i j with h' | h'
            · rw [if_pos h'] at ht2; rw [if_pos (by omega)]; exact ht2
            · rw [if_neg (by omega)] at ht2; rw [if_neg (by omega)]; exact ht2
        · refine (((Touch.refl (fun b => b = g ∨ ∃ q, q < j + 1 ∧ Si q b) w).trans x4 ?_).trans (unhide T5) (fun _ _ h => .inl h)).trans (unhide RR).2 (fun b _ h => .inr ⟨j, by omega, h⟩)
          intro b _ h
          rcases h with h | ⟨q', hq', h⟩
          · exact .inl h
          · exact .inr ⟨q', by omega, h⟩
        · simp [intOf]; omega
      · obtain rfl : j = l.length := by omega
        have R := hide (And.intro hO (And.intro hRI (And.intro hKD hTS)))
        clear hO hRI hKV hKD hTS
        rw [List.take_length]
        go_wp2_with fail
        go_ret
        obtain ⟨r1, r2, r3, r4⟩ := unhide R
        have hll := markL_len k l
        refine ⟨rfl, ?_, (Touch.refl S w).trans r4 (fun b _ h => ?_)⟩
        · have hrow := BrO.row (w := wr) S g cap (markL k l) kv ys Si (by omega) (unhide HG) (by rw [hll]; exact r1) (by rw [hll]; exact r2)
            (fun i hi => by
              rw [hll] at hi
              rw [markL_get l k i hi]
              obtain ⟨e1, e2, _, _⟩ := markB_key (k + 3 * cntL (l.take i)) (l.getD i default)
              rw [e1, e2]
              have h1 := mtx_size (k + 3 * cntL (l.take i))
              have h2 := mtx_size (k + 3 * cntL (l.take i) + 1)
              have h3 := cnt_take_le l i
              unfold maxLen
              omega)
            (fun i b hi => by rw [hll] at hi; exact unhide HS5 i b hi)
            (fun i j b hij hj => by rw [hll] at hj; exact unhide HS6 i j b hij hj)
            (fun i hi => by
              rw [hll] at hi
              have := r3 i hi
              rw [if_pos hi] at this
              exact this)
          rw [hll] at hrow
          exact hrow
        · rcases h with h | ⟨q', hq', h⟩
          · rw [h]; exact unhide HG
          · exact (unhide HS5 q' b hq' h).1
end Go.Proofs.YtkojmnlfpccbiaaDoor.Sha
namespace Go.Proofs.YtkojmnlfpccbiaaDoor.Sha
open Go.ChangeShapes Go.WideShapes Go.ChangeAt Go.RowKit
set_option linter.unusedVariables false

set_option maxRecDepth 100000 in
set_option maxHeartbeats 1000000 in
theorem markBranchK_any (c : Nat) (hc0 : 0 < c) (k v : ByteArray) (at_ : Int) (a : Option Addr) (n cap : Nat) {S : Nat → Prop} {w : World} {l : List Br} (h : BrO w S (.slice a n cap) l) (hc : c + 3 * cntL l ≤ 8388608) :
    Calls Tryd.prog 40 #[.agg #[.string k, .string v, .int .i64 at_, .slice a n cap], .int .i64 (c : Int)] w fun e w' => e = .returned (.int .i64 ((c + 3 * cntL l : Nat) : Int)) ∧ BrO w' S (.slice a n cap) (markL c l) ∧ Touch S w w' := by
  have T1 := hide ((Touch.refl (fun _ => False) w).alloc (.cells #[.string k, .string v, .int .i64 at_, .slice a n cap] 36))
  have HE := hide (markBranchS_any h _ (fun _ => False) c (unhide T1) (fun _ _ h => h) hc0 hc)
  have TS := hide ((Touch.refl S w).alloc (.cells #[.string k, .string v, .int .i64 at_, .slice a n cap] 36))
  clear h
  generalize c + 3 * cntL l = m at *
  go_enter Tryd.func40, Tryd.ntmps40
  go_wp2_with fail
  refine (unhide HE).mono ?_
  rintro e w2 ⟨rfl, hO2, hT2⟩
  have R := hide (And.intro hO2 ((unhide TS).trans hT2 (fun _ _ h => h)))
  clear hO2 hT2 HE
  go_wp2_with fail
  go_ret
  exact ⟨rfl, (unhide R).1, (unhide R).2⟩
/-- The three lists of a ledger are the call's own, in blocks from B on and below M, and lie apart. -/
def LedU (B M : Nat) (w : World) (lv kv sv : Value) (ls : List ByteArray) (ks : List Br) (ss : List Se) : Prop :=
  OwnS B w lv ls ∧ OwnSe B w sv ss ∧ (∀ x, lv.ownBlock = some x → sv.ownBlock ≠ some x) ∧ (∀ x, lv.ownBlock = some x → x < M) ∧ (∀ x, sv.ownBlock = some x → x < M) ∧ ∃ S : Nat → Prop, BrO w S kv ks ∧ ∀ x, S x → B ≤ x ∧ x < M ∧ lv.ownBlock ≠ some x ∧ sv.ownBlock ≠ some x
theorem LedO.up {B : Nat} {w : World} {lv kv sv : Value} {ls : List ByteArray} {ks : List Br} {ss : List Se} (h : LedO B w lv kv sv ls ks ss) : LedU B w.heap.size w lv kv sv ls ks ss := by
  obtain ⟨h1, h2, h4, S, h3, h5⟩ := h
  exact ⟨h1, h2, h4, fun x hx => (h1.lt x hx).2, fun x hx => (h2.lt x hx).2, S, h3, h5⟩
theorem LedU.below {B M : Nat} {w w' : World} {lv kv sv : Value} {ls : List ByteArray} {ks : List Br} {ss : List Se} (h : LedU B M w lv kv sv ls ks ss) (hb : Below w.heap.size w w') : LedU B M w' lv kv sv ls ks ss := by
  obtain ⟨h1, h2, h4, h6, h7, S, h3, h5⟩ := h
  exact ⟨h1.below hb, h2.below hb, h4, h6, h7, S, h3.blw hb, h5⟩
theorem LedU.led {B M : Nat} {w : World} {lv kv sv : Value} {ls : List ByteArray} {ks : List Br} {ss : List Se} (h : LedU B M w lv kv sv ls ks ss) : LedR w lv kv sv ls ks ss := by
  obtain ⟨h1, h2, _, _, _, S, h3, _⟩ := h
  exact ⟨h1.strs, h3.brs.mono (fun _ _ => trivial), h2.read⟩
theorem ledR_sum (L : Int) (ls : List ByteArray) (wt : Int) (ss : List Se) (h : 0 ≤ ledR L ls wt ss) : (ls.length : Int) + wt ≤ L := by
  unfold ledR at h
  split at h
  · omega
  · rename_i h1
    split at h
    · omega
    · rename_i h2
      have hw0 := sw_mono ls 0 ls.length (Nat.zero_le _)
      have hw00 : swTo ls 0 = 0 := rfl
      unfold szB at h2
      split at h2
      · rename_i h3
        unfold sszR at h1 h3
        split at h3
        · omega
        · rename_i h4
          rw [if_neg h4] at h1
          omega
      · omega
set_option maxRecDepth 100000 in
set_option maxHeartbeats 1000000 in
theorem markLedger_any (ls : List ByteArray) (k v : ByteArray) (a : Int) (ks : List Br) (ss : List Se) (la : Option Addr) (lc : Nat) (ka : Option Addr) (kc : Nat) (sa : Option Addr) (sc : Nat) (B M : Nat) (w : World) (h : LedU B M w (.slice la ls.length lc) (.slice ka ks.length kc) (.slice sa ss.length sc) ls ks ss) (hB : M ≤ w.heap.size)
    (h1 : ls.length ≤ 1048576) (h2 : cntL ks ≤ 1048576) (h3 : ss.length ≤ 1048576) (h9 : 1 + ls.length + 3 * cntL ks ≤ 4194304) :
    Calls Tryd.prog 15 #[.agg #[.slice la ls.length lc, .string k, .string v, .int .i64 a, .slice ka ks.length kc, .slice sa ss.length sc], .int .i64 1] w fun e w' => ∃ c : Nat, e = .returned (.int .i64 (c : Int)) ∧ Touch (fun q => B ≤ q ∧ q < M) w w' := by
  obtain ⟨hL, hZ, hd, hLM, hZM, S, hK, hS⟩ := h
  have BA := (Below.refl w.heap.size w).alloc (Nat.le_refl _) (.cells #[.slice la ls.length lc, .string k, .string v, .int .i64 a, .slice ka ks.length kc, .slice sa ss.length sc] 39)
  have X0 := Blk.new w #[.slice la ls.length lc, .string k, .string v, .int .i64 a, .slice ka ks.length kc, .slice sa ss.length sc] 39 w.heap.size rfl
  have T0 := (Touch.refl (fun q => B ≤ q ∧ q < M) w).alloc (.cells #[.slice la ls.length lc, .string k, .string v, .int .i64 a, .slice ka ks.length kc, .slice sa ss.length sc] 39)
  have hLlt : ∀ q, (Value.slice la ls.length lc).ownBlock = some q → B ≤ q ∧ q < M := fun q hq => ⟨(hL.lt q hq).1, hLM q hq⟩
  have hZlt : ∀ q, (Value.slice sa ss.length sc).ownBlock = some q → B ≤ q ∧ q < M := fun q hq => ⟨(hZ.lt q hq).1, hZM q hq⟩
  have HM1 := hide (markStringS_any B _ ls _ (hL.below BA) h1)
  have H1 := hide (show ∀ w1, Touch (fun q => (Value.slice la ls.length lc).ownBlock = some q) (w.alloc (.cells #[.slice la ls.length lc, .string k, .string v, .int .i64 a, .slice ka ks.length kc, .slice sa ss.length sc] 39)) w1 → Blk w1 w.heap.size [.slice la ls.length lc, .string k, .string v, .int .i64 a, .slice ka ks.length kc, .slice sa ss.length sc] ∧ BrO w1 S (.slice ka ks.length kc) ks ∧ OwnSe B w1 (.slice sa ss.length sc) ss ∧ Touch (fun q => B ≤ q ∧ q < M) w w1 from fun w1 hT =>
    ⟨X0.kept hT (fun e => by have := (hLlt _ e).2; omega), (hK.blw BA).touch hT (fun q hq e => (hS q hq).2.2.1 e), (hZ.below BA).kept hT (fun q hq e => hd q e hq), T0.trans hT (fun q _ e => hLlt q e)⟩)
  have HM2 := hide (fun w1 (hK1 : BrO w1 S (.slice ka ks.length kc) ks) => markBranchK_any (1 + ls.length) (by omega) k v a ka ks.length kc hK1 (by omega))
  have H2 := hide (show ∀ w1 w2, Blk w1 w.heap.size [.slice la ls.length lc, .string k, .string v, .int .i64 a, .slice ka ks.length kc, .slice sa ss.length sc] → OwnSe B w1 (.slice sa ss.length sc) ss → Touch (fun q => B ≤ q ∧ q < M) w w1 → Touch S w1 w2 → Blk w2 w.heap.size [.slice la ls.length lc, .string k, .string v, .int .i64 a, .slice ka ks.length kc, .slice sa ss.length sc] ∧ OwnSe B w2 (.slice sa ss.length sc) ss ∧ Touch (fun q => B ≤ q ∧ q < M) w w2 from fun w1 w2 hX hZ1 hT1 hT =>
    ⟨hX.kept hT (fun e => by have := (hS _ e).2.1; omega), hZ1.kept hT (fun q hq e => (hS q e).2.2.2 hq), hT1.trans hT (fun q _ e => ⟨(hS q e).1, (hS q e).2.1⟩)⟩)
  have HM3 := hide (fun w2 (hZ2 : OwnSe B w2 (.slice sa ss.length sc) ss) => markSessionS_any (1 + ls.length + 3 * cntL ks) (by omega) (by omega) B _ ss w2 hZ2 h3)
  have H3 := hide (show ∀ w2 w3, Touch (fun q => B ≤ q ∧ q < M) w w2 → Touch (fun q => (Value.slice sa ss.length sc).ownBlock = some q) w2 w3 → Touch (fun q => B ≤ q ∧ q < M) w w3 from fun w2 w3 hT2 hT => hT2.trans hT (fun q _ e => hZlt q e))
  clear hL hZ hd hLM hZM hK hS BA X0 T0 hLlt hZlt
  go_enter Tryd.func15, Tryd.ntmps15
  go_wp2_with fail
  refine (unhide HM1).mono ?_
  rintro e w1 ⟨rfl, _, hT1⟩
  obtain ⟨hX1, hK1, hZ1, hTT1⟩ := unhide H1 w1 hT1
  have hc1 : (1 : Int) + (ls.length : Int) = ((1 + ls.length : Nat) : Int) := by omega
  rw [hc1]
  have y1 := hX1.cell 1 rfl
  have y2 := hX1.cell 2 rfl
  have y3 := hX1.cell 3 rfl
  have y4 := hX1.cell 4 rfl
  have C1 := hide (unhide HM2 w1 hK1)
  have G1 := hide (And.intro hX1 (And.intro hZ1 hTT1))
  clear hT1 hX1 hK1 hZ1 hTT1 hc1 HM1 H1 HM2
  generalize 1 + ls.length = c1 at *
  go_wp2_with fail
  refine (unhide C1).mono ?_
  rintro e w2 ⟨rfl, _, hT2⟩
  obtain ⟨hX2, hZ2, hTT2⟩ := unhide H2 w1 w2 (unhide G1).1 (unhide G1).2.1 (unhide G1).2.2 hT2
  have y5 := hX2.cell 5 rfl
  have C2 := hide (unhide HM3 w2 hZ2)
  have G2 := hide hTT2
  clear hT2 hX2 hZ2 hTT2 C1 G1 H2 HM3 y1 y2 y3 y4
  generalize c1 + 3 * cntL ks = c2 at *
  go_wp2_with fail
  refine (unhide C2).mono ?_
  rintro e w3 ⟨rfl, _, hT3⟩
  have G3 := hide (unhide H3 w2 w3 (unhide G2) hT3)
  clear hT3 C2
  go_wp2_with fail
  go_ret
  exact ⟨c2 + 5 * ss.length, by first | rfl | (rw [show ((c2 + 5 * ss.length : Nat) : Int) = (c2 : Int) + 5 * (ss.length : Int) by omega]), unhide G3⟩
end Go.Proofs.YtkojmnlfpccbiaaDoor.Sha
namespace Go.Proofs.YtkojmnlfpccbiaaDoor
open Go.ChangeShapes Go.WideShapes Go.ChangeAt Go.RowKit
set_option linter.unusedVariables false

/-- One that only reads comes first. -/
theorem tkH {P : Program} {md : Region.Mode} {ops : Array Oper} {Q : Exit → Act → World → Prop} {S : World → Prop} (i : Nat) {oi : Oper} {v : Value} {fuel : Nat} {listed : Array Bool} {a a' : Act} {w : World} (hi : ops[i]? = some oi)
    (h : wpAnyH P md ops Q S fuel (listed.setIfInBounds i true) a' w)
    (hs : Region.noSelect ops = true := by kernel_rfl) (hf : Region.free md ops listed i = true := by kernel_rfl) (hr : (Region.ready md ops listed).contains i = true := by kernel_rfl)
    (hQ : ∀ c a w, Q (.panic c) (a.put oi.dst v) w → Q (.panic c) a w := by exact fun _ _ _ h => h) (hy : YieldsIf P ops S oi v a := by (refine Or.inl ⟨by rfl, ?_⟩; intro wq hSw; (try dsimp only at hSw); (try simp only [List.getElem_toArray, List.getElem_cons_succ, List.getElem_cons_zero]); go_simp; try with_reducible rfl)) (hS : S w := by assumption)
    (ha : a.put oi.dst v = a' := by ((try simp only [Act.put, List.getElem_toArray, List.getElem_cons_succ, List.getElem_cons_zero, List.setIfInBounds_toArray, List.set_cons_zero, List.set_cons_succ]); try rfl)) : wpAnyH P md ops Q S (fuel + 1) listed a w := by
  subst ha
  exact wpAnyH_take hi hs hf hr hQ hy hS h
/-- A step is done: S holds, and it goes on, what was put laid out. -/
theorem outH {P : Program} {md : Region.Mode} {ops : Array Oper} {Q : Exit → Act → World → Prop} {S : World → Prop} {fuel : Nat} {L : Array Bool} {K : Act → World → Prop} {a a' : Act} {w : World} (hK : Shut (∀ a w, S w → (S w → wpAnyH P md ops Q S fuel L a w) → K a w)) (hS : S w) (h : S w → wpAnyH P md ops Q S fuel L a' w)
    (ha : a = a' := by ((try simp only [Act.put, List.getElem_toArray, List.getElem_cons_succ, List.getElem_cons_zero, List.setIfInBounds_toArray, List.set_cons_zero, List.set_cons_succ]); try rfl)) : K a w := by
  subst ha
  exact hK.out _ _ hS h
/-- Just these are ready. -/
theorem rdy1 {P : Program} {md : Region.Mode} {ops : Array Oper} {Q : Exit → Act → World → Prop} {S : World → Prop} {fuel : Nat} {L : Array Bool} {a : Act} {w : World} (i : Nat) {oi : Oper} (ei : ops[i]? = some oi) (hi : ∀ K' : Act → World → Prop, Shut (∀ a w, S w → (S w → wpAnyH P md ops Q S fuel (L.setIfInBounds i true) a w) → K' a w) → if Region.wanted oi (yielded ops a.tmps) = true then Oper.wp P oi a w K' Q else K' (a.put oi.dst undef) w) (hr : Region.ready md ops L = [i] := by kernel_rfl) : wpAnyH P md ops Q S (fuel + 1) L a w :=
  wpAnyH_ready hr (by simp) (AllReadyH.cons ei hi AllReadyH.nil)
theorem rdy2 {P : Program} {md : Region.Mode} {ops : Array Oper} {Q : Exit → Act → World → Prop} {S : World → Prop} {fuel : Nat} {L : Array Bool} {a : Act} {w : World} (i j : Nat) {oi oj : Oper} (ei : ops[i]? = some oi) (ej : ops[j]? = some oj) (hi : ∀ K' : Act → World → Prop, Shut (∀ a w, S w → (S w → wpAnyH P md ops Q S fuel (L.setIfInBounds i true) a w) → K' a w) → if Region.wanted oi (yielded ops a.tmps) = true then Oper.wp P oi a w K' Q else K' (a.put oi.dst undef) w) (hj : ∀ K' : Act → World → Prop, Shut (∀ a w, S w → (S w → wpAnyH P md ops Q S fuel (L.setIfInBounds j true) a w) → K' a w) → if Region.wanted oj (yielded ops a.tmps) = true then Oper.wp P oj a w K' Q else K' (a.put oj.dst undef) w) (hr : Region.ready md ops L = [i, j] := by kernel_rfl) : wpAnyH P md ops Q S (fuel + 1) L a w :=
  wpAnyH_ready hr (by simp) (AllReadyH.cons ei hi (AllReadyH.cons ej hj AllReadyH.nil))
theorem rdy3 {P : Program} {md : Region.Mode} {ops : Array Oper} {Q : Exit → Act → World → Prop} {S : World → Prop} {fuel : Nat} {L : Array Bool} {a : Act} {w : World} (i j k : Nat) {oi oj ok : Oper} (ei : ops[i]? = some oi) (ej : ops[j]? = some oj) (ek : ops[k]? = some ok) (hi : ∀ K' : Act → World → Prop, Shut (∀ a w, S w → (S w → wpAnyH P md ops Q S fuel (L.setIfInBounds i true) a w) → K' a w) → if Region.wanted oi (yielded ops a.tmps) = true then Oper.wp P oi a w K' Q else K' (a.put oi.dst undef) w) (hj : ∀ K' : Act → World → Prop, Shut (∀ a w, S w → (S w → wpAnyH P md ops Q S fuel (L.setIfInBounds j true) a w) → K' a w) → if Region.wanted oj (yielded ops a.tmps) = true then Oper.wp P oj a w K' Q else K' (a.put oj.dst undef) w) (hk : ∀ K' : Act → World → Prop, Shut (∀ a w, S w → (S w → wpAnyH P md ops Q S fuel (L.setIfInBounds k true) a w) → K' a w) → if Region.wanted ok (yielded ops a.tmps) = true then Oper.wp P ok a w K' Q else K' (a.put ok.dst undef) w) (hr : Region.ready md ops L = [i, j, k] := by kernel_rfl) : wpAnyH P md ops Q S (fuel + 1) L a w :=
  wpAnyH_ready hr (by simp) (AllReadyH.cons ei hi (AllReadyH.cons ej hj (AllReadyH.cons ek hk AllReadyH.nil)))
/-- What was put is laid out. -/
theorem nrm {P : Program} {md : Region.Mode} {ops : Array Oper} {Q : Exit → Act → World → Prop} {S : World → Prop} {n : Nat} {L : Array Bool} {a a' : Act} {w : World} (h : wpAnyH P md ops Q S n L a' w) (e : a = a' := by ((try simp only [Act.put, List.getElem_toArray, List.getElem_cons_succ, List.getElem_cons_zero, List.setIfInBounds_toArray, List.set_cons_zero, List.set_cons_succ]); try rfl)) : wpAnyH P md ops Q S n L a w := by
  subst e; exact h
theorem nrmR {P : Program} {md : Region.Mode} {ops : Array Oper} {Q : Exit → Act → World → Prop} {S : World → Prop} {n : Nat} {L L' : Array Bool} {a a' : Act} {w : World} (h : wpAnyH P md ops Q S n L a w) (e : a = a' := by ((try simp only [Act.put, List.getElem_toArray, List.getElem_cons_succ, List.getElem_cons_zero, List.setIfInBounds_toArray, List.set_cons_zero, List.set_cons_succ]); try rfl)) (el : L = L' := by kernel_rfl) : wpAnyH P md ops Q S n L' a' w := by
  subst e; subst el; exact h
/-- A new box. -/
theorem newBox (w : World) (cs : Array Value) (t : TypeId) : Below w.heap.size w (w.alloc (.cells cs t)) ∧ Hid (Blk (w.alloc (.cells cs t)) w.heap.size cs.toList) := ⟨(Below.refl _ w).alloc (Nat.le_refl _) _, hide (Blk.new w cs t w.heap.size rfl)⟩
theorem hbtr {a b c : World} (h : Hid (Below a.heap.size a b)) (k : Below b.heap.size b c) : Hid (Below a.heap.size a c) := hide ((unhide h).trans (k.mono (unhide h).size))
/-- The head of a goal under a name, the place in it too. -/
theorem nameAt2 {α β γ δ : Type} (f : α → β → γ → δ → Prop) {x x' : α} {y y' : β} {z : γ} {u : δ} (hx : x = x') (hy : y = y') (h : ∀ F a0, F = f → a0 = z → F x' y' a0 u) : f x y z u := by
  subst hx; subst hy; exact h f z rfl rfl
end Go.Proofs.YtkojmnlfpccbiaaDoor
