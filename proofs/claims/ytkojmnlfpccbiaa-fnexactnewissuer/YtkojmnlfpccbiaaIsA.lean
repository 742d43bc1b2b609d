/- A notary at work: its flags, whether it has signed, its last statement; whether an issuer is right (impl). (Written by py/isa.py.) -/
import Derived.Test.YtkojmnlfpccbiaaSgr
import Derived.Test.YtkojmnlfpccbiaaStm
import Derived.Test.YtkojmnlfpccbiaaScL
import Derived.Test.YtkojmnlfpccbiaaTk
import Derived.ChangeKeysEq
namespace Go.Proofs.Ytkojmnlfpccbiaa
open Go.ChangeShapes Go.WideShapes Go.ChangeAt Go.RowKit Go.Deep
set_option linter.unusedVariables false
set_option linter.unusedSimpArgs false
set_option maxRecDepth 100000

theorem arrayAt_any (a : Addr) (cap : Nat) (w : World) : (Instr.arrayAt 60 (.slice (some a) 4 cap)).run Try.prog w = .ok (.pointer (some a)) w := by
  simp [Instr.arrayAt, underlying, Try.underlying60, go_sem]
/-- The flags of one who has signed so many times. -/
def fuB (j k : Nat) : Bool := decide (j < k)
def fuL (n : Nat) : List Bool := [fuB 0 n, fuB 1 n, fuB 2 n, fuB 3 n]
def lstB (z : Int) (lg mp : ByteArray) (c : Int) : Bool := if 0 < c then stmB z lg mp else decide (z = 0) && (emptyB lg && emptyB mp)
/-- An issuer is right. -/
def issB (sd : ByteArray) (l : List Bool) (z : Int) (lg mp : ByteArray) (hs : Bool) (c : Int) : Bool := sgrB sd l.length && (inB c 0 4 && (decide (l = fuL c.toNat) && ((decide (0 < c) == hs) && lstB z lg mp c)))

/-- A notary that can be read. -/
def NtyR (w : World) (p g off cap : Nat) (sd : ByteArray) (z : Int) (lg mp : ByteArray) (c : Int) (f0 f1 f2 f3 : Bool) : Prop :=
  Blk w p [.string sd, .slice (some ⟨g, off, none⟩) 4 cap, .int .i64 z, .string lg, .string mp, .int .i64 c] ∧ w.cell? ⟨g, off, none⟩ = some (.bool f0) ∧ w.cell? ⟨g, off + 1, none⟩ = some (.bool f1) ∧ w.cell? ⟨g, off + 2, none⟩ = some (.bool f2) ∧ w.cell? ⟨g, off + 3, none⟩ = some (.bool f3)
theorem NtyR.below {w w' : World} {p g off cap : Nat} {sd : ByteArray} {z : Int} {lg mp : ByteArray} {c : Int} {f0 f1 f2 f3 : Bool} (h : NtyR w p g off cap sd z lg mp c f0 f1 f2 f3) (hb : Below w.heap.size w w') : NtyR w' p g off cap sd z lg mp c f0 f1 f2 f3 := by
  obtain ⟨h, h0, h1, h2, h3⟩ := h
  have hg : g < w.heap.size := World.block_lt_of_cell? w _ h0
  exact ⟨h.below hb, (hb.cell (p := ⟨g, off, none⟩) hg).trans h0, (hb.cell (p := ⟨g, off + 1, none⟩) hg).trans h1, (hb.cell (p := ⟨g, off + 2, none⟩) hg).trans h2, (hb.cell (p := ⟨g, off + 3, none⟩) hg).trans h3⟩
set_option maxHeartbeats 1000000 in
theorem flags_any (p g off cap : Nat) (sd : ByteArray) (z : Int) (lg mp : ByteArray) (c : Int) (f0 f1 f2 f3 : Bool) (w : World) (h : NtyR w p g off cap sd z lg mp c f0 f1 f2 f3) :
    Calls Try.prog 28 #[.pointer (some ⟨p, 0, none⟩)] w fun e w' => e = .returned (.agg #[.bool f0, .bool f1, .bool f2, .bool f3]) ∧ Below w.heap.size w w' := by
  have B0 := hide ((Below.refl w.heap.size w).alloc (Nat.le_refl _) (.cells #[.bool false, .bool false, .bool false, .bool false] 60))
  have B1 := hide ((Below.refl w.heap.size w).alloc (Nat.le_refl _) (.cells #[.bool f0, .bool f1, .bool f2, .bool f3] 60))
  obtain ⟨h, y0, y1, y2, y3⟩ := h.below (unhide B0)
  have x1 := h.cell 1 rfl
  have q1 := fun wx => arrayAt_any ⟨g, off, none⟩ cap wx
  clear h
  go_enter Try.func28, Try.ntmps28
  go_wp2_with fail
  refine bodyPost_ret (v := .agg #[.bool f0, .bool f1, .bool f2, .bool f3]) (by simp [results, Try.results28, go_sem]) rfl ⟨rfl, ?_⟩
  exact unhide B1
set_option maxHeartbeats 1000000 in
theorem has_any (p g off cap : Nat) (sd : ByteArray) (z : Int) (lg mp : ByteArray) (c : Int) (f0 f1 f2 f3 : Bool) (w : World) (h : NtyR w p g off cap sd z lg mp c f0 f1 f2 f3) :
    Calls Try.prog 31 #[.pointer (some ⟨p, 0, none⟩)] w fun e w' => e = .returned (.bool (decide (0 < c))) ∧ w' = w := by
  have x5 := h.1.cell 5 rfl
  clear h
  by_cases hc : 0 < c
  · go_enter Try.func31, Try.ntmps31
    go_wp2_with fail
    go_ret
    exact ⟨ret_bool (by simp [hc]), rfl⟩
  · go_enter Try.func31, Try.ntmps31
    go_wp2_with fail
    go_ret
    exact ⟨ret_bool (by simp [hc]), rfl⟩

def stmEq (z : Int) (l m : ByteArray) (z2 : Int) (l2 m2 : ByteArray) : Bool := (z == z2) && ((l.toList == l2.toList) && (m.toList == m2.toList))
theorem eq_stm (w : World) (z : Int) (l m : ByteArray) (z2 : Int) (l2 m2 : ByteArray) :
    (Op.equalIn 10000 26 (.agg #[.int .i64 z, .string l, .string m]) (.agg #[.int .i64 z2, .string l2, .string m2])).run Try.prog w = .ok (stmEq z l m z2 l2 m2) w := by
  rw [run_equalIn_struct w 9999 26 _ _ (by kernel_rfl) (by kernel_rfl)]
  simp only [Program.fieldsOf, Try.underlying26]
  simp [Op.eqFields, go_sem, stmEq]
  by_cases e3 : z = z2
  · by_cases e4 : l.toList = l2.toList
    · by_cases e5 : m.toList = m2.toList
      · simp [e3, e4, e5]
      · simp [e3, e4, e5]
    · simp [e3, e4]
  · simp [e3]
theorem eql_stm (w : World) (z : Int) (l m : ByteArray) (z2 : Int) (l2 m2 : ByteArray) :
    (binOp .eql 26 (.agg #[.int .i64 z, .string l, .string m]) (.agg #[.int .i64 z2, .string l2, .string m2])).run Try.prog w = .ok (.bool (stmEq z l m z2 l2 m2)) w := by
  rw [run_eql_struct, eq_stm]; rfl
theorem stmEq_none (z : Int) (l m : ByteArray) : stmEq z l m 0 ⟨#[]⟩ ⟨#[]⟩ = (decide (z = 0) && (emptyB l && emptyB m)) := by
  have e : (⟨#[]⟩ : ByteArray).toList = [] := by rw [ByteArray.toList_eq]
  have e2 : ∀ x : List UInt8, (x == []) = x.isEmpty := fun x => by cases x <;> rfl
  have e3 : (z == 0) = decide (z = 0) := by by_cases hz : z = 0 <;> simp [hz]
  unfold stmEq emptyB
  rw [e, e2, e2, e3]
set_option maxHeartbeats 1000000 in
theorem lastOK_any (p g off cap : Nat) (sd : ByteArray) (z : Int) (lg mp : ByteArray) (c : Int) (f0 f1 f2 f3 : Bool) (w : World) (h : NtyR w p g off cap sd z lg mp c f0 f1 f2 f3) (hl : lg.size ≤ maxLen) (hm : mp.size ≤ maxLen) :
    Calls Try.prog 40 #[.pointer (some ⟨p, 0, none⟩)] w fun e w' => e = .returned (.bool (lstB z lg mp c)) ∧ Below w.heap.size w w' := by
  have H1 := hide (has_any p g off cap sd z lg mp c f0 f1 f2 f3 w h)
  have H2 := hide (statementOK_any z lg mp w hl hm)
  have x2 := h.1.cell 2 rfl
  have x3 := h.1.cell 3 rfl
  have x4 := h.1.cell 4 rfl
  have q1 := fun wx => eql_stm wx z lg mp 0 ⟨#[]⟩ ⟨#[]⟩
  rw [stmEq_none] at q1
  have q3 : Try.prog.eqGuardType Try.prog.depth 26 = false := by kernel_rfl
  have HV : Hid (lstB z lg mp c = if 0 < c then stmB z lg mp else decide (z = 0) && (emptyB lg && emptyB mp)) := rfl
  clear h hl hm
  generalize stmB z lg mp = b1 at *
  generalize (decide (z = 0) && (emptyB lg && emptyB mp)) = b2 at *
  go_enter Try.func40, Try.ntmps40
  go_wp2_with fail
  refine (unhide H1).mono ?_
  rintro e w' ⟨rfl, rfl⟩
  by_cases hc : 0 < c
  · rw [if_pos hc] at HV
    rw [decide_eq_true hc]
    go_wp2_with fail
    refine (unhide H2).mono ?_
    rintro e w' ⟨rfl, hb⟩
    have HB := hide hb
    clear hb
    go_wp2_with fail
    go_ret
    exact ⟨ret_bool (unhide HV).symm, unhide HB⟩
  · rw [if_neg hc] at HV
    rw [decide_eq_false hc]
    go_wp2_with fail
    go_ret
    exact ⟨ret_bool (unhide HV).symm, Below.refl _ _⟩

theorem infoF : (Try.prog.info? 4).isSome = true := by kernel_rfl
def kfEq (a0 a1 a2 a3 b0 b1 b2 b3 : Bool) : Bool := (a0 == b0) && ((a1 == b1) && ((a2 == b2) && (a3 == b3)))
theorem eql_kf (w : World) (a0 a1 a2 a3 b0 b1 b2 b3 : Bool) :
    (binOp .eql 60 (.agg #[.bool a0, .bool a1, .bool a2, .bool a3]) (.agg #[.bool b0, .bool b1, .bool b2, .bool b3])).run Try.prog w = .ok (.bool (kfEq a0 a1 a2 a3 b0 b1 b2 b3)) w := by
  obtain ⟨i0, hi, hz0, hz1, hz2⟩ := info_parts4
  have hc : Try.prog.cellsOf 4 = 1 := by kernel_rfl
  rw [run_eql_struct, run_equalIn_array w 9999 _ _ Try.underlying60 hi, hc]
  have hr : List.range 4 = [0, 1, 2, 3] := by decide
  rw [hr]
  have hp : ∀ (xs : Array Value) (k : Nat) (b : Bool) (wx : World), xs[k]? = some (.bool b) → (part 4 xs (k * 1)).run Try.prog wx = .ok (.bool b) wx := by
    intro xs k b wx h
    have hk : k < xs.size := by rw [Array.getElem?_eq_some_iff] at h; exact h.1
    simp [part, go_sem, hc, h, hi, hz1]
  simp [Op.eqItems, go_sem, kfEq]
  by_cases e0 : a0 = b0 <;> by_cases e1 : a1 = b1 <;> by_cases e2 : a2 = b2 <;> by_cases e3 : a3 = b3 <;> simp [e0, e1, e2, e3]
theorem kfEq_fuL (f0 f1 f2 f3 : Bool) (n : Nat) : kfEq f0 f1 f2 f3 (fuB 0 n) (fuB 1 n) (fuB 2 n) (fuB 3 n) = decide ([f0, f1, f2, f3] = fuL n) := by
  unfold kfEq fuL
  generalize fuB 0 n = b0
  generalize fuB 1 n = b1
  generalize fuB 2 n = b2
  generalize fuB 3 n = b3
  cases f0 <;> cases f1 <;> cases f2 <;> cases f3 <;> simp
set_option maxHeartbeats 2000000 in
theorem firstUsed_any (n : Nat) (w : World) (hn : n ≤ 4) :
    Calls Try.prog 39 #[.int .i64 (n : Int)] w fun e w' => e = .returned (.agg #[.bool (fuB 0 n), .bool (fuB 1 n), .bool (fuB 2 n), .bool (fuB 3 n)]) ∧ Below w.heap.size w w' := by
  have B0 := hide (((Below.refl w.heap.size w).alloc (Nat.le_refl _) (.cells #[.bool false, .bool false, .bool false, .bool false] 60)).alloc (by simp) (.cells #[.bool false, .bool false, .bool false, .bool false] 60))
  have X0 := hide (Blk.new (w.alloc (.cells #[.bool false, .bool false, .bool false, .bool false] 60)) #[.bool false, .bool false, .bool false, .bool false] 60 (w.heap.size + 1) (by simp))
  have Y0 := hide ((Blk.new w #[.bool false, .bool false, .bool false, .bool false] 60 w.heap.size rfl).alloc (.cells #[.bool false, .bool false, .bool false, .bool false] 60))
  go_enter Try.func39, Try.ntmps39
  go_wp2_with fail
  go_loopw [6] (fun i wr => ∃ k : Nat, k ≤ n ∧ i = .int .i64 (k : Int) ∧ Blk wr (w.heap.size + 1) [.bool (fuB 0 k), .bool (fuB 1 k), .bool (fuB 2 k), .bool (fuB 3 k)] ∧ Blk wr w.heap.size [.bool false, .bool false, .bool false, .bool false] ∧ Below w.heap.size w wr) (fun i _ => n - (intOf i).toNat)
  case atStart => exact ⟨0, Nat.zero_le _, rfl, unhide X0, unhide Y0, unhide B0⟩
  case round =>
    obtain ⟨k, hk, rfl, hX, hY, hB⟩ := hrel
    have HR : ∀ j (hj : j < 4) (b : Bool) (l : List Value), [.bool (fuB 0 k), .bool (fuB 1 k), .bool (fuB 2 k), .bool (fuB 3 k)].set j (Value.bool true) = l → Blk (wr.setCell ⟨w.heap.size + 1, j, none⟩ (.bool true)) (w.heap.size + 1) l ∧ Blk (wr.setCell ⟨w.heap.size + 1, j, none⟩ (.bool true)) w.heap.size [.bool false, .bool false, .bool false, .bool false] ∧ Below w.heap.size w (wr.setCell ⟨w.heap.size + 1, j, none⟩ (.bool true)) := fun j hj b l hl => ⟨hl ▸ hX.set j _ hj, hY.other j _ (by omega), hB.setCell (p := ⟨w.heap.size + 1, j, none⟩) (by simp) _⟩
    have H := hide HR
    by_cases hlt : k < n
    · have hk4 : k < 4 := by omega
      have hlt1 : (k : Int) < (n : Int) := by omega
      obtain ⟨v0, hc0⟩ : ∃ v0, wr.cell? ⟨w.heap.size + 1, k, none⟩ = some v0 := by
        rcases k with _ | _ | _ | _ | k
        · exact ⟨_, hX.cell 0 rfl⟩
        · exact ⟨_, hX.cell 1 rfl⟩
        · exact ⟨_, hX.cell 2 rfl⟩
        · exact ⟨_, hX.cell 3 rfl⟩
        · omega
      have hf := hX.fro k
      have hk0 : (0 : Int) ≤ (k : Int) := by omega
      have hk1 : (k : Int) < 4 := by omega
      have R := hide (unhide H k hk4 true [.bool (fuB 0 (k + 1)), .bool (fuB 1 (k + 1)), .bool (fuB 2 (k + 1)), .bool (fuB 3 (k + 1))] (by
        rcases k with _ | _ | _ | _ | k
        · rfl
        · rfl
        · rfl
        · rfl
        · omega))
      clear hX hY hB HR H
      go_wp2_with fail
      refine ⟨⟨k + 1, by omega, by go_num, (unhide R).1, (unhide R).2.1, (unhide R).2.2⟩, ?_⟩
      simp [intOf]; omega
    · obtain rfl : k = n := by omega
      have c0 := hX.cell 0 rfl
      have c1 := hX.cell 1 rfl
      have c2 := hX.cell 2 rfl
      have c3 := hX.cell 3 rfl
      have r0 := hY.cell 0 rfl
      have r1 := hY.cell 1 rfl
      have r2 := hY.cell 2 rfl
      have r3 := hY.cell 3 rfl
      have g0 := hY.fro 0
      have g1 := hY.fro 1
      have g2 := hY.fro 2
      have g3 := hY.fro 3
      have HE := hide (show Blk ((((wr.setCell ⟨w.heap.size, 0, none⟩ (.bool (fuB 0 k))).setCell ⟨w.heap.size, 1, none⟩ (.bool (fuB 1 k))).setCell ⟨w.heap.size, 2, none⟩ (.bool (fuB 2 k))).setCell ⟨w.heap.size, 3, none⟩ (.bool (fuB 3 k))) w.heap.size [.bool (fuB 0 k), .bool (fuB 1 k), .bool (fuB 2 k), .bool (fuB 3 k)] from (((hY.set 0 _ (by simp)).set 1 _ (by simp)).set 2 _ (by simp)).set 3 _ (by simp))
      have HB := hide ((((hB.setCell (p := ⟨w.heap.size, 0, none⟩) (Nat.le_refl _) (.bool (fuB 0 k))).setCell (p := ⟨w.heap.size, 1, none⟩) (Nat.le_refl _) (.bool (fuB 1 k))).setCell (p := ⟨w.heap.size, 2, none⟩) (Nat.le_refl _) (.bool (fuB 2 k))).setCell (p := ⟨w.heap.size, 3, none⟩) (Nat.le_refl _) (.bool (fuB 3 k)))
      clear hX hY hB HR H
      go_wp2_with fail
      have z0 := (unhide HE).cell 0 rfl
      have z1 := (unhide HE).cell 1 rfl
      have z2 := (unhide HE).cell 2 rfl
      have z3 := (unhide HE).cell 3 rfl
      refine bodyPost_ret (v := .agg #[.bool (fuB 0 k), .bool (fuB 1 k), .bool (fuB 2 k), .bool (fuB 3 k)]) (by simp [results, Try.results39, go_sem, z0, z1, z2, z3]) rfl ?_
      exact ⟨rfl, unhide HB⟩
end Go.Proofs.Ytkojmnlfpccbiaa
