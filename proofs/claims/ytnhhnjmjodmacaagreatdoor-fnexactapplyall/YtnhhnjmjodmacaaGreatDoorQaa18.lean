/- What the proof of the claim needs (joined by program): BrX. -/
import Derived.Test.YtnhhnjmjodmacaaGreatDoorQaa12
import Derived.Test.YtnhhnjmjodmacaaGreatDoorQaa01
namespace Go.Proofs.YtnhhnjmjodmacaaGreatDoor.Sha
set_option maxRecDepth 100000
set_option maxHeartbeats 8000000
open Go.ChangeShapes Go.WideShapes Go.ChangeAt Go.RowKit
set_option linter.unusedVariables false
set_option linter.unusedSimpArgs false
theorem mtxR_size : ∀ (n k : Nat), k ≤ n → ∀ out : ByteArray, (mtxR k out).size ≤ out.size + k := by
 intro n
 induction n with
 | zero =>
  intro k hk out
  obtain rfl : k = 0 := by omega
  rw [mtxR, dif_pos rfl]; omega
 | succ n ih =>
  intro k hk out
  by_cases h : k = 0
  ·rw [mtxR, dif_pos h]; omega
  ·rw [mtxR, dif_neg h]
   have := ih (k / 10) (by omega) (strOfNums [48 + ((k % 10 : Nat) : Int)] ++ out)
   rw [ByteArray.size_append, strOfNums_size, List.length_cons, List.length_nil] at this
   omega
theorem mtx_size (k : Nat) : (mtx k).size ≤ 1 + k := by
 unfold mtx
 rw [ByteArray.size_append, strOfNums_size]
 have := mtxR_size k k (Nat.le_refl _) (strOfNums [])
 rw [strOfNums_size] at this
 simp at this ⊢
 omega
mutual
def Br.cnt : Br → Nat
 | .mk _ _ _ l => 1 + cntL l
def cntL : List Br → Nat
 | [] => 0
 | b :: r => Br.cnt b + cntL r
end
mutual
def markB (k : Nat) : Br → Br
 | .mk _ _ _ l => .mk (mtx k) (mtx (k + 1)) ((k + 2 : Nat) : Int) (markL (k + 3) l)
def markL (k : Nat) : List Br → List Br
 | [] => []
 | b :: r => markB k b :: markL (k + 3 * Br.cnt b) r
end
theorem cntL_cons (b : Br) (r : List Br) : cntL (b :: r) = b.cnt + cntL r := by conv => lhs; unfold cntL
theorem Br.cnt_eq (b : Br) : b.cnt = 1 + cntL b.kids := by cases b; unfold Br.cnt; rfl
theorem markB_key (k : Nat) (b : Br) : (markB k b).key = mtx k ∧ (markB k b).val = mtx (k + 1) ∧ (markB k b).at_ = ((k + 2 : Nat) : Int) ∧ (markB k b).kids = markL (k + 3) b.kids := by
 cases b; unfold markB; exact ⟨rfl, rfl, rfl, rfl⟩
theorem markL_len : ∀ (k : Nat) (l : List Br), (markL k l).length = l.length
 | k, [] => by unfold markL; rfl
 | k, b :: r => by unfold markL; simp [markL_len _ r]
theorem markL_get : ∀ (l : List Br) (k i : Nat), i < l.length → (markL k l).getD i default = markB (k + 3 * cntL (l.take i)) (l.getD i default)
 | [], k, i, h => by simp at h
 | b :: r, k, 0, h => by unfold markL; simp [cntL]
 | b :: r, k, i + 1, h => by
  have := markL_get r (k + 3 * b.cnt) i (by simpa using h)
  unfold markL
  simp only [List.getD_cons_succ, List.take_succ_cons]
  rw [this, cntL_cons]
  congr 1
  omega
theorem cnt_take : ∀ (l : List Br) (i : Nat), i < l.length → cntL (l.take (i + 1)) = cntL (l.take i) + (l.getD i default).cnt
 | [], i, h => by simp at h
 | b :: r, 0, h => by simp [cntL]
 | b :: r, i + 1, h => by
  have := cnt_take r i (by simpa using h)
  simp only [List.take_succ_cons, List.getD_cons_succ]
  rw [cntL_cons, cntL_cons, this]
  omega
theorem cnt_take_le : ∀ (l : List Br) (i : Nat), cntL (l.take i) ≤ cntL l
 | [], i => by simp
 | b :: r, 0 => by simp [cntL]
 | b :: r, i + 1 => by
  have := cnt_take_le r i
  simp only [List.take_succ_cons]
  rw [cntL_cons, cntL_cons]
  omega
theorem markBranchS_any {S : Nat → Prop} {w0 : World} {v : Value} {l : List Br} (h : BrO w0 S v l) : ∀ (w : World) (T : Nat → Prop) (k : Nat), Touch T w0 w → (∀ b, S b → ¬ T b) → 0 < k → k + 3 * cntL l ≤ 8388608 →
  Calls Tryz.prog 81 #[v, .int .i64 k] w fun e w' => e = .returned (.int .i64 ((k + 3 * cntL l : Nat) : Int)) ∧ BrO w' S v (markL k l) ∧ Touch S w w' := by
 induction h with
 | nil S a cap hc =>
  intro w T k ht hn hk0 hk1
  have HO : Hid (BrO w S (.slice a 0 cap) (markL k [])) := Hd (by unfold markL; exact .nil S a cap hc)
  have hcz : k + 3 * cntL [] = k := by unfold cntL; omega
  rw [hcz]
  clear ht hn hc hcz
  go_enter Tryz.func81, Tryz.ntmps81
  go_wp2_with fail
  go_loopw [1, 5] (fun kk i wr => kk = .int .i64 k ∧ i = .int .i64 0 ∧ wr = w) (fun _ i _ => 0)
  case atStart => exact ⟨rfl, rfl, rfl⟩
  case round =>
   obtain ⟨rfl, rfl, rfl⟩ := hrel
   go_wp2_with fail
   go_ret
   exact ⟨rfl, uh HO, Touch.refl _ _⟩
 | row S g cap l kv xs Si h0 h1 h2 h3 h4 h5 h6 h7 ih =>
  intro w T k ht hn hk0 hk1
  have O0 := Hd (own_kept h2 ht (fun q hq => by cases hq; exact hn g h1))
  have HK0 := Hd (fun i (hi : i < l.length) => (h7 i hi).touch ht (fun q hq => hn q (h5 i q hi hq).1))
  have HIH := Hd ih
  have HT0 := Hd (And.intro ht hn)
  have HS5 := Hd h5
  have HS6 := Hd h6
  have HR := Hd h3
  have HG := Hd h1
  have hlm : l.length ≤ cap ∧ cap ≤ maxLen := by
   rcases h2.2 with ⟨hx, _⟩ | ⟨g', cap', cur, hv, _, _, hn', hm', _⟩
   ·cases hx
   ·simp only [Value.slice.injEq] at hv; obtain ⟨_, _, rfl⟩ := hv; exact ⟨hn', hm'⟩
  have hlm2 : l.length ≤ 9223372036854775807 := by obtain ⟨h1, h2⟩ := hlm; unfold maxLen at h2; omega
  clear ht hn h2 h3 h7 ih h5 h6 h1 h4
  go_enter Tryz.func81, Tryz.ntmps81
  go_wp2_with fail
  go_loopw [1, 5] (fun kk i wr => ∃ (j : Nat) (ys : List Value), j ≤ l.length ∧ kk = .int .i64 ((k + 3 * cntL (l.take j) : Nat) : Int) ∧ i = .int .i64 j ∧ wr.ownsRow 0 35 4 (.slice (some ⟨g, 0, none⟩) l.length cap) l.length ys ∧ RowIs ys (markL k l) kv j ∧ (∀ q, q < l.length → ys[q * 4 + 3]? = some (kv q)) ∧ (∀ q, q < l.length → BrO wr (Si q) (kv q) (if q < j then (markL k l).getD q default else l.getD q default).kids) ∧ Touch (fun b => b = g ∨ ∃ q, q < j ∧ Si q b) w wr) (fun _ i _ => l.length - (intOf i).toNat)
  case atStart => exact ⟨0, xs, Nat.zero_le _, by simp [cntL], rfl, uh O0, fun i hi => by omega, fun q hq => (uh HR q hq).2.2.2, fun q hq => by rw [if_neg (by omega)]; exact uh HK0 q hq, Touch.refl _ _⟩
  case round =>
   obtain ⟨j, ys, hj, rfl, rfl, hO, hRI, hKV, hKD, hTS⟩ := hrel
   by_cases hlt : j < l.length
   ·have hct := cnt_take l j hlt
    have hctl := cnt_take_le l (j + 1)
    have hcn := Br.cnt_eq (l.getD j default)
    obtain ⟨q, hq⟩ : ∃ q, q = k + 3 * cntL (l.take j) := ⟨_, rfl⟩
    rw [← hq]
    have hq0 : 0 < q := by omega
    have hq1 : q + 3 ≤ 8388608 := by omega
    have HMG := Hd (markL_get l k j hlt)
    rw [← hq] at HMG
    have p0 : (0 : Int) ≤ (j : Int) := by omega
    have p1 : (j : Int) < (l.length : Int) := by omega
    have hyl : ys.length = l.length * 4 := hO.1
    obtain ⟨o0, u0⟩ := get_some hyl (show j * 4 < l.length * 4 by omega)
    obtain ⟨o1, u1⟩ := get_some hyl (show j * 4 + 1 < l.length * 4 by omega)
    obtain ⟨o2, u2⟩ := get_some hyl (show j * 4 + 2 < l.length * 4 by omega)
    have u3 := hKV j hlt
    have HO := Hd hO
    have HX := Hd (And.intro hRI (And.intro hKV (And.intro hKD hTS)))
    have HYL := Hd hyl
    have HU := Hd (And.intro u0 (And.intro u1 (And.intro u2 u3)))
    have HQ := Hd (And.intro hq (And.intro hct (And.intro hctl hcn)))
    clear hO hRI hKV hKD hTS hyl u0 u1 u2 u3 hq hct hctl hcn
    go_wp2_with fail
    refine (markText_int _ q (by omega) wr (by omega) (by omega)).mono ?_
    rintro e w1 ⟨rfl, hb1⟩
    have O1 := own_kept (T := fun _ => False) (uh HO) (Touch.ofBelow hb1) (fun _ _ h => h)
    have c0 := (O1.cellAt (j * 4) (by omega)).trans (uh HU).1
    have f0 := O1.frozenAt (j * 4)
    have O2 := Hd (O1.stored (j * 4) (.string (mtx q))).1
    have T2 := Hd ((Touch.ofBelow (T := fun b => b = g) hb1).setCell ⟨g, j * 4, none⟩ (.string (mtx q)) (fun _ => rfl))
    have w1a : IntKind.i64.wrap ((q : Int) + 1) = ((q + 1 : Nat) : Int) := by simp only [IntKind.wrap, IntKind.bits, IntKind.signed]; simp; omega
    have w2a : IntKind.i64.wrap (((q + 1 : Nat) : Int) + 1) = ((q + 2 : Nat) : Int) := by simp only [IntKind.wrap, IntKind.bits, IntKind.signed]; simp; omega
    have w3a : IntKind.i64.wrap (((q + 2 : Nat) : Int) + 1) = ((q + 3 : Nat) : Int) := by simp only [IntKind.wrap, IntKind.bits, IntKind.signed]; simp; omega
    clear hb1 O1
    generalize hq1n : q + 1 = qa at *
    generalize hq2n : q + 2 = qb at *
    generalize hq3n : q + 3 = qc at *
    have HQN := Hd (And.intro hq1n (And.intro hq2n hq3n))
    clear hq1n hq2n hq3n
    obtain ⟨m0, hm0⟩ : ∃ m0, m0 = mtx q := ⟨_, rfl⟩
    rw [← hm0] at O2 T2 ⊢
    have HM0 := Hd hm0
    clear hm0
    go_wp2_with fail
    clear c0 f0
    generalize w1.setCell ⟨g, j * 4, none⟩ (.string m0) = w2 at *
    refine (markText_int _ qa (by omega) w2 (by have := (uh HQN).1; omega) (by have := (uh HQN).1; have := (uh HQN).2.2; omega)).mono ?_
    rintro e w3 ⟨rfl, hb3⟩
    have O3 := own_kept (T := fun _ => False) (uh O2) (Touch.ofBelow hb3) (fun _ _ h => h)
    have c1 := (O3.cellAt (j * 4 + 1) (by omega)).trans ((List.getElem?_set_ne (by omega)).trans (uh HU).2.1)
    have f1 := O3.frozenAt (j * 4 + 1)
    have O4 := Hd (O3.stored (j * 4 + 1) (.string (mtx qa))).1
    have T4 := Hd (((uh T2).trans (Touch.ofBelow (T := fun b => b = g) hb3) (fun _ _ h => h)).setCell ⟨g, j * 4 + 1, none⟩ (.string (mtx qa)) (fun _ => rfl))
    clear hb3 O3 O2 T2
    obtain ⟨m1, hm1⟩ : ∃ m1, m1 = mtx qa := ⟨_, rfl⟩
    rw [← hm1] at O4 T4 ⊢
    have HM1 := Hd hm1
    clear hm1
    have c2 := ((uh O4).cellAt (j * 4 + 2) (by omega)).trans ((List.getElem?_set_ne (by omega)).trans ((List.getElem?_set_ne (by omega)).trans (uh HU).2.2.1))
    have f2 := (uh O4).frozenAt (j * 4 + 2)
    have O5 := Hd ((uh O4).stored (j * 4 + 2) (.int .i64 qb)).1
    have T5 := Hd ((uh T4).setCell ⟨g, j * 4 + 2, none⟩ (.int .i64 qb) (fun _ => rfl))
    have c3 := ((uh O5).cellAt (j * 4 + 3) (by omega)).trans ((List.getElem?_set_ne (by omega)).trans ((List.getElem?_set_ne (by omega)).trans ((List.getElem?_set_ne (by omega)).trans (uh HU).2.2.2)))
    clear O4 T4
    go_wp2_with fail
    clear c1 f1 c2 f2
    generalize (w3.setCell ⟨g, j * 4 + 1, none⟩ (.string m1)).setCell ⟨g, j * 4 + 2, none⟩ (.int .i64 qb) = w5 at *
    have HBIG : Hid (Touch (fun b => T b ∨ b = g ∨ ∃ q, q < j ∧ Si q b) w0 w5) := Hd ((((Touch.refl (fun b => T b ∨ b = g ∨ ∃ q, q < j ∧ Si q b) w0).trans (uh HT0).1 (fun _ _ h => .inl h)).trans (uh HX).2.2.2 (fun _ _ h => .inr h)).trans (uh T5) (fun _ _ h => .inr (.inl h)))
    have HNB : Hid (∀ b, Si j b → ¬ (T b ∨ b = g ∨ ∃ q, q < j ∧ Si q b)) := Hd (fun b hb h => by
     rcases h with h | h | ⟨q', hq', h⟩
     ·exact (uh HT0).2 b (uh HS5 j b hlt hb).1 h
     ·exact (uh HS5 j b hlt hb).2 h
     ·exact uh HS6 q' j b hq' hlt h hb)
    have HKC := Hd (uh HIH j hlt w5 _ qc (uh HBIG) (uh HNB) (by have := (uh HQN).2.2; omega) (by obtain ⟨a1, a2, a3, a4⟩ := uh HQ; have := (uh HQN).2.2; omega))
    refine (uh HKC).mono ?_
    rintro e w6 ⟨rfl, hO6, hT6⟩
    have RR := Hd (And.intro hO6 hT6)
    have O6 := Hd (own_kept (uh O5) hT6 (fun q' hq' h => by cases hq'; exact (uh HS5 j g hlt h).2 rfl))
    clear hO6 hT6 HKC HBIG HNB c3
    have hkk : Hid (qc + 3 * cntL (l.getD j default).kids = k + 3 * cntL (l.take (j + 1))) := Hd (by obtain ⟨a1, a2, a3, a4⟩ := uh HQ; have := (uh HQN).2.2; omega)
    generalize hnx : qc + 3 * cntL (l.getD j default).kids = nx at *
    clear hnx
    go_wp2_with fail
    obtain ⟨a1, a2, a3, a4⟩ := uh HQ
    obtain ⟨b1, b2, b3⟩ := uh HQN
    obtain ⟨x1, x2, x3, x4⟩ := uh HX
    have hmb := markB_key q (l.getD j default)
    refine ⟨⟨j + 1, _, by omega, by rw [uh hkk], by go_num, uh O6, ?_, ?_, ?_, ?_⟩, ?_⟩
    ·intro i hi
     by_cases e : i = j
     ·subst e
      rw [uh HMG, hmb.1, hmb.2.1, hmb.2.2.1]
      refine ⟨?_, ?_, ?_, ?_⟩
      ·rw [List.getElem?_set_ne (by omega), List.getElem?_set_ne (by omega), List.getElem?_set_self (by have := uh HYL; omega)]
       exact congrArg (fun z => some (Value.string z)) (uh HM0)
      ·rw [List.getElem?_set_ne (by omega), List.getElem?_set_self (by have := uh HYL; simp; omega)]
       exact congrArg (fun z => some (Value.string z)) (by rw [uh HM1, ← b1])
      ·rw [List.getElem?_set_self (by have := uh HYL; simp; omega), b2]
      ·rw [List.getElem?_set_ne (by omega), List.getElem?_set_ne (by omega), List.getElem?_set_ne (by omega)]
       exact (uh HU).2.2.2
     ·have hx := x1 i (by omega)
      rw [List.getElem?_set_ne (by omega), List.getElem?_set_ne (by omega), List.getElem?_set_ne (by omega), List.getElem?_set_ne (by omega), List.getElem?_set_ne (by omega), List.getElem?_set_ne (by omega), List.getElem?_set_ne (by omega), List.getElem?_set_ne (by omega), List.getElem?_set_ne (by omega), List.getElem?_set_ne (by omega), List.getElem?_set_ne (by omega), List.getElem?_set_ne (by omega)]
      exact hx
    ·intro i hi
     rw [List.getElem?_set_ne (by omega), List.getElem?_set_ne (by omega), List.getElem?_set_ne (by omega)]
     exact x2 i hi
    ·intro i hi
     by_cases e : i = j
     ·subst e
      rw [if_pos (by omega), uh HMG, hmb.2.2.2, b3]
      exact (uh RR).1
     ·have hk := x3 i hi
      have ht1 := hk.touch (uh T5) (fun b hb h => (uh HS5 i b hi hb).2 h)
      have ht2 := ht1.touch (uh RR).2 (fun b hb h => by
       rcases Nat.lt_or_ge i j with h' | h'
       ·exact uh HS6 i j b h' hlt hb h
       ·exact uh HS6 j i b (by omega) hi h hb)
      rcases Nat.lt_or_ge i j with h' | h'
      ·rw [if_pos h'] at ht2; rw [if_pos (by omega)]; exact ht2
      ·rw [if_neg (by omega)] at ht2; rw [if_neg (by omega)]; exact ht2
    ·refine (((Touch.refl (fun b => b = g ∨ ∃ q, q < j + 1 ∧ Si q b) w).trans x4 ?_).trans (uh T5) (fun _ _ h => .inl h)).trans (uh RR).2 (fun b _ h => .inr ⟨j, by omega, h⟩)
     intro b _ h
     rcases h with h | ⟨q', hq', h⟩
     ·exact .inl h
     ·exact .inr ⟨q', by omega, h⟩
    ·simp [intOf]; omega
   ·obtain rfl : j = l.length := by omega
    have R := Hd (And.intro hO (And.intro hRI (And.intro hKD hTS)))
    clear hO hRI hKV hKD hTS
    rw [List.take_length]
    go_wp2_with fail
    go_ret
    obtain ⟨r1, r2, r3, r4⟩ := uh R
    have hll := markL_len k l
    refine ⟨rfl, ?_, (Touch.refl S w).trans r4 (fun b _ h => ?_)⟩
    ·have hrow := BrO.row (w := wr) S g cap (markL k l) kv ys Si (by omega) (uh HG) (by rw [hll]; exact r1) (by rw [hll]; exact r2)
      (fun i hi => by
       rw [hll] at hi
       rw [markL_get l k i hi]
       obtain ⟨e1, e2, _, _⟩ := markB_key (k + 3 * cntL (l.take i)) (l.getD i default)
       rw [e1, e2]
       have h1 := mtx_size (k + 3 * cntL (l.take i))
       have h2 := mtx_size (k + 3 * cntL (l.take i) + 1)
       have h3 := cnt_take_le l i
       unfold maxLen
       omega)
      (fun i b hi => by rw [hll] at hi; exact uh HS5 i b hi)
      (fun i j b hij hj => by rw [hll] at hj; exact uh HS6 i j b hij hj)
      (fun i hi => by
       rw [hll] at hi
       have := r3 i hi
       rw [if_pos hi] at this
       exact this)
     rw [hll] at hrow
     exact hrow
    ·rcases h with h | ⟨q', hq', h⟩
     ·rw [h]; exact uh HG
     ·exact (uh HS5 q' b hq' h).1
end Go.Proofs.YtnhhnjmjodmacaaGreatDoor.Sha
