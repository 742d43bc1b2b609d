/- What the proof of the claim needs (joined by program): Door WrS SpG MkA Bit Br BrP BrK BrF BrN BrD BrM BrT BrS BrC BrU. -/
import Derived.Test.YtbchnheinnileaaGreatDoorQca03
import Derived.Test.YtbchnheinnileaaGreatDoorQca00
import Derived.Test.YtbchnheinnileaaGreatDoorQca01
import Derived.WalkSmall
import Derived.LaidMore
import Derived.Stop.Joined
import Derived.Lib.LaidTab
import Derived.ChangeVars
import Derived.Laws.IdiomStrings
import Derived.WalkSpells
import Derived.Deep.RegionHeld3
import Derived.BigQuiet
import Derived.Lib.BitFns
import Derived.Laws.BitsAllLaws
import Derived.Deep.RegionLaw
import Derived.Deep.DeepCutAuto
import Derived.Deep.RegionHeldLaw
namespace Go.Proofs.YtbchnheinnileaaGreatDoor.Sha
set_option maxRecDepth 100000
set_option maxHeartbeats 8000000
open Go.ChangeShapes Go.WideShapes Go.ChangeAt Go.RowKit
set_option linter.unusedVariables false
theorem own : ownKnob Tryz.prog.godebug = none := by kernel_rfl
theorem laidOut : laidOutB Tryz.prog = true := by kernel_rfl
theorem gFirst : Tryz.prog.globalNamed "loop.example/g00220/impl.firstWords" = some 0 := by kernel_rfl
theorem gFirstType : (Tryz.prog.globals[0]?).map (·.type) = some 182 := by kernel_rfl
theorem gRound : Tryz.prog.globalNamed "loop.example/g00220/impl.roundWords" = some 1 := by kernel_rfl
theorem gRoundType : (Tryz.prog.globals[1]?).map (·.type) = some 186 := by kernel_rfl
theorem cellsA : Tryz.prog.cellsOf 182 = 8 := by kernel_rfl
theorem cellsB : Tryz.prog.cellsOf 186 = 64 := by kernel_rfl
theorem cellsE : Tryz.prog.cellsOf 167 = 1 := by kernel_rfl
def firstCells : Array Value := (cells32 8 iW).toArray
def roundCells : Array Value := (cells32 64 kW).toArray
def firstH {H : Type} : DataW H := .agg ((List.range 8).map fun j => .lit (.int .u32 (iW j)))
def roundH {H : Type} : DataW H := .agg ((List.range 64).map fun j => .lit (.int .u32 (kW j)))
theorem first_of {W : World} (h : W.var? Tryz.prog "loop.example/g00220/impl.firstWords" = some firstCells) : First W := by
 have hc : ∀ i, i < 8 → W.cell? ⟨0, i, none⟩ = some (.int .u32 (iW i)) := fun i hi => by
  rw [World.var?_cell gFirst h i]; simp [firstCells, cells32, hi]
 exact ⟨World.block_lt_of_cell? W _ (hc 0 (by omega)), hc⟩
theorem table_of {W : World} (h : W.var? Tryz.prog "loop.example/g00220/impl.roundWords" = some roundCells) : Table W := by
 have hc : ∀ i, i < 64 → W.cell? ⟨1, i, none⟩ = some (.int .u32 (kW i)) := fun i hi => by
  rw [World.var?_cell gRound h i]; simp [roundCells, cells32, hi]
 exact ⟨World.block_lt_of_cell? W _ (hc 0 (by omega)), hc⟩
theorem reads_first {H : Type} (enc : TypeId × Value → H) (W : World) (sp : Nat → Bool) : DataW.trod enc Tryz.prog W 0 sp true 3 182 firstCells.toList = some (firstH, []) := by kernel_rfl
theorem reads_round {H : Type} (enc : TypeId × Value → H) (W : World) (sp : Nat → Bool) : DataW.trod enc Tryz.prog W 0 sp true 3 186 roundCells.toList = some (roundH, []) := by kernel_rfl
theorem vars_again {H : Type} {enc : TypeId × Value → H} {W W' : World} {sp : Nat → Bool} {gs : List (DataW H)} {q : List MemPlace}
  (hv1 : W.var? Tryz.prog "loop.example/g00220/impl.firstWords" = some firstCells) (hv2 : W.var? Tryz.prog "loop.example/g00220/impl.roundWords" = some roundCells)
  (hV : DataW.TrodVars enc Tryz.prog W (fun _ => true) ["loop.example/g00220/impl.firstWords", "loop.example/g00220/impl.roundWords"] gs q) (hb : Below W.heap.size W W') :
  gs = [firstH, roundH] ∧ ∃ pv, DataW.TrodVars enc Tryz.prog W' sp ["loop.example/g00220/impl.firstWords", "loop.example/g00220/impl.roundWords"] [firstH, roundH] pv := by
 match gs, hV with
 | d1 :: gs1, ⟨g, t, cs, fuel, p, q1, hg, ht, hvar, hd, hV1, _⟩ =>
  match gs1, hV1 with
  | d2 :: gs2, ⟨g', t', cs', fuel', p', q2, hg', ht', hvar', hd', hV2, _⟩ =>
   match gs2, hV2 with
   | [], _ =>
    obtain rfl := Option.some.inj (gFirst.symm.trans hg)
    obtain rfl := Option.some.inj (gFirstType.symm.trans ht)
    obtain rfl := Option.some.inj (gRound.symm.trans hg')
    obtain rfl := Option.some.inj (gRoundType.symm.trans ht')
    obtain rfl : cs = firstCells := Option.some.inj (hvar.symm.trans hv1)
    obtain rfl : cs' = roundCells := Option.some.inj (hvar'.symm.trans hv2)
    obtain ⟨rfl, rfl⟩ := DataW.Trod.unique (v := .agg firstCells) ⟨fuel, hd⟩ ⟨3, reads_first enc W _⟩
    obtain ⟨rfl, rfl⟩ := DataW.Trod.unique (v := .agg roundCells) ⟨fuel', hd'⟩ ⟨3, reads_round enc W _⟩
    exact ⟨rfl, _, 0, 182, firstCells, 3, [], _, hg, ht, var?_below hb gFirst (first_of hv1).1 hv1, reads_first enc W' sp,
     ⟨1, 186, roundCells, 3, [], [], hg', ht', var?_below hb gRound (table_of hv2).1 hv2, reads_round enc W' sp, rfl, rfl⟩, rfl⟩
theorem First.below {w w' : World} (h : First w) (hb : Below w.heap.size w w') : First w' :=
 ⟨Nat.lt_of_lt_of_le h.1 hb.size, fun i hi => by rw [hb.cell (p := ⟨0, i, none⟩) h.1]; exact h.2 i hi⟩

end Go.Proofs.YtbchnheinnileaaGreatDoor.Sha
namespace Go.Proofs.YtbchnheinnileaaGreatDoor
set_option maxRecDepth 100000
set_option maxHeartbeats 8000000
open Go.ChangeShapes Go.WideShapes Go.ChangeAt Go.RowKit
set_option linter.unusedVariables false
def bytesI (s : ByteArray) : List Int := s.data.toList.map fun c => (c.toNat : Int)
theorem bytesI_len (s : ByteArray) : (bytesI s).length = s.size := by
 unfold bytesI; rw [List.length_map, Array.length_toList]; rfl
theorem bytesI_range (s : ByteArray) : ∀ i, 0 ≤ (bytesI s).getD i 0 ∧ (bytesI s).getD i 0 ≤ 255 := by
 intro i
 unfold bytesI
 by_cases h : i < s.data.toList.length
 ·rw [List.getD_eq_getElem?_getD, List.getElem?_map, List.getElem?_eq_getElem h]
  have := (s.data.toList[i]).toNat_lt
  simp only [Option.map_some, Option.getD_some]; omega
 ·rw [List.getD_eq_getElem?_getD, List.getElem?_map, List.getElem?_eq_none (by omega)]; simp
theorem strCells_eq (s : ByteArray) : Lib.strCells s = (bytesI s).map (Value.int .u8) := by
 simp [Lib.strCells, bytesI, Function.comp_def]
theorem wpList_append_str {P : Program} (w : World) {ops : Array Oper} {rest : List Oper} {o : Oper} {a : Act} {Q : Exit → Act → World → Prop} (hgd : o.guard = none) (sl x : Operand) (t u : TypeId)
  (ho : o.op = .call { callee := .builtin .append, args := #[sl, x], argTypes := #[t, u] })
  (base : Nat) (e : TypeId) (i : TypeInfo) (ht : P.underlying t = some (.slice e)) (hu : P.underlying u = some .string) (hi : P.info? e = some i) (hz : i.zero = some (.int .u8 0)) (hsize : i.size = 1) (hby : i.bytes = 1)
  (v : Value) (n : Nat) (xs : List Value) (hs : a.eval sl = v) (hown : w.ownsRow base e 1 v n xs) (s : ByteArray) (hx : a.eval x = .string s) (hpos : 0 < n + s.size) (hb : n + s.size ≤ 140737488355328) (hbase : base ≤ w.heap.size)
  (h : ∀ g cap w', w'.ownsRow base e 1 (.slice (some ⟨g, 0, none⟩) (n + s.size) cap) (n + s.size) (xs ++ Lib.strCells s) → w.grownBy w' v.ownBlock → (v.ownBlock = some g ∨ g = w.heap.size) → wpList P ops Q rest (a.put o.dst (.slice (some ⟨g, 0, none⟩) (n + s.size) cap)) w') :
  wpList P ops Q (o :: rest) a w := by
 refine wpList_plain hgd fun K hK => ?_
 obtain ⟨v', w', hr, h2, h3, h4⟩ := Lib.run_append_own_string (P := P) w base t u o.type e i ht hu hi hz hsize hby v n xs hown s (by unfold maxLen; omega) hb hbase
 unfold Oper.wp execOp
 simp only [ho, resolve, invoke, builtin, Sem.run_bind, Sem.run_pure, Result.andThen_ok, List.map_toArray, List.map_cons, List.map_nil, hs, hx, hr]
 obtain ⟨g, cap, rfl, _, _⟩ := h2.form hpos
 refine hK _ _ (h g cap w' h2 h3 ?_)
 rcases str_lies ht hu hi hz hsize hby hown hb hr h4 with e | e
 ·left; rw [← e]; rfl
 ·right; simpa [Value.ownBlock] using e
theorem heap_new {w : World} {o : Obj} {k : Nat} (h : w.heap.size = k) : (w.alloc o).heap[k]? = some o := by subst h; exact heap_alloc_new w o
theorem heap_old {w : World} {o : Obj} {k : Nat} (h : k < w.heap.size) : (w.alloc o).heap[k]? = w.heap[k]? := Below.heap_alloc w o k h
theorem own_lit {w : World} {B X n : Nat} {cs : Array Value} (h : w.heap[X]? = some (.cells cs 5 (0, 0))) (hB : B ≤ X) (hn : cs.size = n) (hm : n ≤ maxLen) : w.ownsRow B 5 1 (.slice (some ⟨X, 0, none⟩) n n) n cs.toList :=
 ⟨by simp [hn], .inr ⟨X, n, cs, rfl, hB, h, Nat.le_refl _, hm, by simp [hn], by rw [Nat.mul_one, ← hn, ← Array.length_toList, List.take_length]⟩⟩
theorem step_append_str {P : Program} (w : World) {ops : Array Oper} {o : Oper} {a : Act} {K : Act → World → Prop} {Q : Exit → Act → World → Prop} {E : Prop} (hgd : o.guard = none) (sl x : Operand) (t u : TypeId)
  (ho : o.op = .call { callee := .builtin .append, args := #[sl, x], argTypes := #[t, u] })
  (base : Nat) (e : TypeId) (i : TypeInfo) (ht : P.underlying t = some (.slice e)) (hu : P.underlying u = some .string) (hi : P.info? e = some i) (hz : i.zero = some (.int .u8 0)) (hsize : i.size = 1) (hby : i.bytes = 1)
  (v : Value) (n : Nat) (xs : List Value) (hs : a.eval sl = v) (hown : w.ownsRow base e 1 v n xs) (s : ByteArray) (hx : a.eval x = .string s) (hpos : 0 < n + s.size) (hb : n + s.size ≤ 140737488355328) (hbase : base ≤ w.heap.size)
  (h : ∀ g cap w', w'.ownsRow base e 1 (.slice (some ⟨g, 0, none⟩) (n + s.size) cap) (n + s.size) (xs ++ Lib.strCells s) → w.grownBy w' v.ownBlock → (v.ownBlock = some g ∨ g = w.heap.size) → K (a.put o.dst (.slice (some ⟨g, 0, none⟩) (n + s.size) cap)) w') :
  if Region.wanted o (yielded ops a.tmps) = true then Oper.wp P o a w K Q else E := by
 have hw : Region.wanted o (yielded ops a.tmps) = true := by simp [Region.wanted, hgd]
 rw [if_pos hw]
 obtain ⟨v', w', hr, h2, h3, h4⟩ := Lib.run_append_own_string (P := P) w base t u o.type e i ht hu hi hz hsize hby v n xs hown s (by unfold maxLen; omega) hb hbase
 unfold Oper.wp execOp
 simp only [ho, resolve, invoke, builtin, Sem.run_bind, Sem.run_pure, Result.andThen_ok, List.map_toArray, List.map_cons, List.map_nil, hs, hx, hr]
 obtain ⟨g, cap, rfl, _, _⟩ := h2.form hpos
 refine h g cap w' h2 h3 ?_
 rcases str_lies ht hu hi hz hsize hby hown hb hr h4 with e | e
 ·left; rw [← e]; rfl
 ·right; simpa [Value.ownBlock] using e

end Go.Proofs.YtbchnheinnileaaGreatDoor
namespace Go.Proofs.YtbchnheinnileaaGreatDoor.Sha
set_option maxRecDepth 100000
set_option maxHeartbeats 8000000
open Go.ChangeShapes Go.WideShapes Go.ChangeAt Go.RowKit
set_option linter.unusedVariables false
def Tab (w : World) : Prop := First w ∧ Table w
theorem Tab.below {w w' : World} (h : Tab w) (hb : Below w.heap.size w w') : Tab w' := ⟨h.1.below hb, h.2.below hb (Nat.le_refl _)⟩
theorem bytesI_append (a b : ByteArray) : bytesI (a ++ b) = bytesI a ++ bytesI b := by
 unfold bytesI; rw [ByteArray.data_append, Array.toList_append, List.map_append]
theorem str_bytesB (s : ByteArray) (w : World) (hs : s.size ≤ maxLen) : ∃ cap w1, (convert 9 80 (.string s)).run Tryz.prog w = .ok (.slice (some ⟨w.heap.size, 0, none⟩) s.size cap) w1 ∧ Bytes w1 (.slice (some ⟨w.heap.size, 0, none⟩) s.size cap) (bytesI s) ∧ Below w.heap.size w w1 := by
 refine ⟨grownCap w s.size 0 5, _, by rw [run_bytes_of_string w 9 80 5 s Tryz.underlying9 Tryz.underlying80 Tryz.underlying5], ?_, ?_⟩
 ·refine ⟨_, _, by rw [bytesI_len], by rw [bytesI_len]; exact hs, .inr ⟨w.heap.size, 0, rfl, by simp, fun i hi => ?_⟩, bytesI_range s⟩
  rw [bytesI_len] at hi
  have hb : (w.drew.alloc (.cells (bytesRow s (grownCap w s.size 0 5)) 5 ((bytesRow s (grownCap w s.size 0 5)).size, (bytesRow s (grownCap w s.size 0 5)).size + 1))).heap[w.heap.size]? = some (.cells (bytesRow s (grownCap w s.size 0 5)) 5 ((bytesRow s (grownCap w s.size 0 5)).size, (bytesRow s (grownCap w s.size 0 5)).size + 1)) := heap_alloc_new w.drew _
  rw [Nat.zero_add, cell_of_row _ _ _ _ _ _ hb]
  have hi' : i < s.data.size := hi
  unfold bytesRow bytesI
  rw [Array.getElem?_append_left (by simpa using hi')]
  rw [Array.getElem?_map, Array.getElem?_eq_getElem hi', List.getD_eq_getElem?_getD, List.getElem?_map, Array.getElem?_toList, Array.getElem?_eq_getElem hi']
  rfl
 ·exact ((Below.refl _ _).drew).alloc (Nat.le_refl _) _
def leafV (s : ByteArray) : ByteArray := hashV (0 :: bytesI s)
theorem hash_size {l : List Int} (h : l.length ≤ 65536) : (hashV l).size = 32 := by
 unfold hashV; rw [if_neg (by omega), strOfNums_size]; simp [textL]
theorem range_cons {x : Int} {xs : List Int} (h0 : 0 ≤ x) (h1 : x ≤ 255) (h : ∀ i, 0 ≤ xs.getD i 0 ∧ xs.getD i 0 ≤ 255) : ∀ i, 0 ≤ (x :: xs).getD i 0 ∧ (x :: xs).getD i 0 ≤ 255 := by
 intro i
 cases i with
 | zero => simp; omega
 | succ i => simpa using h i
theorem l06Leaf_any (a : ByteArray) (w : World) (ha : a.size ≤ 65535) :
  Calls Tryz.prog 83 #[.string a] w fun e w' => e = .returned (.string (leafV a)) ∧ Below w.heap.size w w' := by
 obtain ⟨i0, hi, hz0, hz1, hz2⟩ := info_parts info5
 have O0 : Hid ((w.alloc (.cells #[.int .u8 0] 5)).ownsRow w.heap.size 5 1 (.slice (some ⟨w.heap.size, 0, none⟩) 1 1) 1 [.int .u8 0]) := Hd (own_lit (heap_new rfl) (Nat.le_refl _) rfl (by unfold maxLen; omega))
 have B0 := Hd (bal w (.cells #[.int .u8 0] 5))
 have hlen : Hid ((0 :: bytesI a).length = 1 + a.size) := Hd (by simp [bytesI_len]; omega)
 have hV : Hid (leafV a = strOfNums (textL (stAt (0 :: bytesI a) (padLen (0 :: bytesI a).length / 64)))) := Hd (hashV_yes (by rw [uh hlen]; omega))
 go_enter Tryz.func83, Tryz.ntmps83
 go_wp2_with (at_builtin; refine wpList_append_str _ rfl _ _ _ _ rfl w.heap.size 5 i0 Tryz.underlying80 Tryz.underlying9 hi hz0 hz1 hz2 _ 1 _ rfl (uh O0) a rfl (by omega) (by omega) (by simp) ?_; intro g1 cap1 w1 hown1 hgrow1 hat1; have O1 := Hd hown1; have B1 := Hd ((uh B0).grown hgrow1 (by simp) (fun r hr => ((uh O0).lt r hr).1)); clear hown1 hgrow1 hat1)
 have hx : Bytes w1 (.slice (some ⟨g1, 0, none⟩) (0 :: bytesI a).length cap1) (0 :: bytesI a) := by
  refine OwnB.bytes (B := w.heap.size) ⟨?_, range_cons (by omega) (by omega) (bytesI_range a)⟩
  have h := uh O1
  rw [strCells_eq] at h
  rw [uh hlen]
  simpa using h
 have HL := Hd (l01Hash_any _ _ _ w1 hx (by rw [uh hlen]; omega))
 rw [uh hlen] at HL hV
 clear hx
 refine (uh HL).mono ?_
 rintro e w3 ⟨rfl, hb3⟩
 have K := hbt B1 hb3
 clear hb3
 rw [← uh hV]
 go_wp2_with fail
 go_ret
 exact ⟨rfl, uh K⟩
def leafOut (s : ByteArray) : Value := if 65535 < s.size then .tuple #[.string ⟨#[]⟩, .int .i64 2] else .tuple #[.string (leafV s), .int .i64 0]
theorem implLeaf_any (s : ByteArray) (w : World) (hs : s.size ≤ 1048576) (ht : Tab w) :
  Calls Tryz.prog 123 #[.string s] w fun e w' => e = .returned (leafOut s) ∧ Below w.heap.size w w' := by
 have HT := Hd ht
 clear ht
 by_cases h1 : 65535 < s.size
 ·have H : Hid (leafOut s = .tuple #[.string ⟨#[]⟩, .int .i64 2]) := Hd (if_pos h1)
  have h2 : (65536 : Int) ≤ (s.size : Int) := by omega
  go_enter Tryz.func123, Tryz.ntmps123
  go_wp2_with fail
  go_ret2
  exact ⟨by rw [uh H]; rfl, Below.refl _ _⟩
 ·have H : Hid (leafOut s = .tuple #[.string (leafV s), .int .i64 0]) := Hd (if_neg h1)
  have hsz : (ByteArray.mk #[0] ++ s).size = 1 + s.size := by rw [ByteArray.size_append]; rfl
  obtain ⟨cap, w1, hcv, hB, hb1⟩ := str_bytesB (ByteArray.mk #[0] ++ s) w (by rw [hsz]; unfold maxLen; omega)
  have HE : Hid (bytesI (ByteArray.mk #[0] ++ s) = 0 :: bytesI s) := Hd (by rw [bytesI_append]; rfl)
  rw [uh HE, hsz] at hB
  rw [hsz] at hcv
  have HB := Hd hB
  have HB1 := Hd hb1
  clear hB hb1 hsz
  have h2 : ¬ (65536 : Int) ≤ (s.size : Int) := by omega
  go_enter Tryz.func123, Tryz.ntmps123
  go_wp2_with fail
  refine (implHash_any _ _ w1 (uh HB) ((uh HT).below (uh HB1)).2 ((uh HT).below (uh HB1)).1).mono ?_
  rintro e w2 ⟨rfl, hb2⟩
  have K := hbt HB1 hb2
  clear hb2
  go_wp2_with fail
  go_ret2
  exact ⟨by rw [uh H]; rfl, uh K⟩
end Go.Proofs.YtbchnheinnileaaGreatDoor.Sha
namespace Go.Proofs.YtbchnheinnileaaGreatDoor
set_option maxRecDepth 100000
set_option maxHeartbeats 8000000
open Go.ChangeShapes Go.WideShapes Go.ChangeAt Go.RowKit
set_option linter.unusedVariables false
def bitOf (c : Int) (m : Nat) : Int := 48 + c / 2 ^ (7 - m) % 2
def bitL (s : ByteArray) : Nat → List Int
 | 0 => []
 | n + 1 => bitL s n ++ [bitOf (bAt s (n / 8)) (n % 8)]
def bitN (h : ByteArray) (i : Nat) : Int := bAt h (i / 8) / 2 ^ (7 - i % 8) % 2
theorem bitN_01 (h : ByteArray) (i : Nat) : bitN h i = 0 ∨ bitN h i = 1 := by unfold bitN; omega
theorem shr_lo (c : Int) (h : 0 ≤ c) (n : Nat) : 0 ≤ c / 2 ^ n := Int.ediv_nonneg h (Int.le_of_lt (Int.pow_pos (by omega)))
theorem shr_hi (c : Int) (h : 0 ≤ c) (h1 : c ≤ 255) (n : Nat) : c / 2 ^ n < 256 := by
 have := Int.ediv_le_self (2 ^ n) h
 omega
theorem and1i (x : Int) : bits BinOp.and IntKind.i64 x 1 = x % 2 := by
 have h1 : (BitVec.ofInt 64 1).toNat = 2 ^ 1 - 1 := by decide
 have key : (BitVec.ofInt 64 x &&& BitVec.ofInt 64 1).toNat = (x % ((2 ^ 64 : Nat) : Int)).toNat % 2 ^ 1 := by
  rw [BitVec.toNat_and, BitVec.toNat_ofInt, h1, Nat.and_two_pow_sub_one_eq_mod]
 show IntKind.i64.wrap ((BitVec.ofInt 64 x &&& BitVec.ofInt 64 1).toNat : Nat) = x % 2
 rw [key, IntKind.wrap_i64]
 omega
theorem wrap64_in (x : Int) (h0 : 0 ≤ x) (h1 : x < 256) : wrap64 x = x := by unfold wrap64; omega
theorem hashBit_any (h : ByteArray) (i : Nat) (w : World) (hs : h.size = 32) (hi : i < 256) :
  Calls Tryz.prog 128 #[.string h, .int .i64 i] w fun e w' => e = .returned (.int .i64 (bitN h i)) ∧ w' = w := by
 have hk8 : (0 : Int) ≤ (i : Int) / 8 := by omega
 have hk9 : (i : Int) / 8 < (h.size : Int) := by omega
 have e1 := bAt_eq h (i / 8) (by omega)
 have HV : Hid (bitN h i = bAt h (i / 8) / 2 ^ (7 - i % 8) % 2) := rfl
 go_enter Tryz.func128, Tryz.ntmps128
 go_wp2_with fail
 go_ret
 refine ⟨ret_int ?_, rfl⟩
 rw [uh HV, and1i, wrap64_in _ (shr_lo _ (bAt_lo h _) _) (shr_hi _ (bAt_lo h _) (bAt_hi h _) _)]
theorem l07Bit_any (h : ByteArray) (i : Nat) (w : World) (hs : h.size = 32) (hi : i < 256) :
  Calls Tryz.prog 95 #[.string h, .int .i64 i] w fun e w' => e = .returned (.int .i64 (bitN h i)) ∧ w' = w := by
 have hk8 : (0 : Int) ≤ (i : Int) / 8 := by omega
 have hk9 : (i : Int) / 8 < (h.size : Int) := by omega
 have e1 := bAt_eq h (i / 8) (by omega)
 have HV : Hid (bitN h i = bAt h (i / 8) / 2 ^ (7 - i % 8) % 2) := rfl
 go_enter Tryz.func95, Tryz.ntmps95
 go_wp2_with fail
 go_ret
 refine ⟨ret_int ?_, rfl⟩
 rw [uh HV, and1i, wrap64_in _ (shr_lo _ (bAt_lo h _) _) (shr_hi _ (bAt_lo h _) (bAt_hi h _) _)]
end Go.Proofs.YtbchnheinnileaaGreatDoor
namespace Go.Proofs.YtbchnheinnileaaGreatDoor.Sha
set_option maxRecDepth 100000
set_option maxHeartbeats 8000000
open Go.ChangeShapes Go.WideShapes Go.ChangeAt Go.RowKit
set_option linter.unusedVariables false
inductive Br where
 | mk (key val : ByteArray) (at_ : Int) (kids : List Br)
def Br.key : Br → ByteArray | .mk k _ _ _ => k
def Br.val : Br → ByteArray | .mk _ v _ _ => v
def Br.at_ : Br → Int | .mk _ _ a _ => a
def Br.kids : Br → List Br | .mk _ _ _ l => l
instance : Inhabited Br := ⟨.mk ⟨#[]⟩ ⟨#[]⟩ 0 []⟩
inductive Brs (S : Nat → Prop) (w : World) : Value → List Br → Prop
 | nil (a : Option Addr) (cap : Nat) : cap ≤ maxLen → Brs S w (.slice a 0 cap) []
 | row (b off cap : Nat) (l : List Br) (kv : Nat → Value) : 0 < l.length → l.length ≤ cap → cap ≤ maxLen → b < w.heap.size → S b →
   (∀ i, i < l.length → w.cell? ⟨b, off + i * 4, none⟩ = some (.string (l.getD i default).key) ∧ w.cell? ⟨b, off + i * 4 + 1, none⟩ = some (.string (l.getD i default).val) ∧ w.cell? ⟨b, off + i * 4 + 2, none⟩ = some (.int .i64 (l.getD i default).at_) ∧ w.cell? ⟨b, off + i * 4 + 3, none⟩ = some (kv i)) →
   (∀ i, i < l.length → (l.getD i default).key.size ≤ maxLen ∧ (l.getD i default).val.size ≤ maxLen) →
   (∀ i, i < l.length → Brs S w (kv i) (l.getD i default).kids) →
   Brs S w (.slice (some ⟨b, off, none⟩) l.length cap) l
theorem Brs.kept {S : Nat → Prop} {w w' : World} {v : Value} {l : List Br} (h : Brs S w v l) (hs : w.heap.size ≤ w'.heap.size) (hk : ∀ k, k < w.heap.size → S k → w'.heap[k]? = w.heap[k]?) : Brs S w' v l := by
 induction h with
 | nil a cap hc => exact .nil a cap hc
 | row b off cap l kv h0 h1 h2 h3 h4 h5 h6 h7 ih =>
  have e : ∀ j, w'.cell? ⟨b, j, none⟩ = w.cell? ⟨b, j, none⟩ := fun j => World.cell?_of_block (w := w) (hk b h3 h4)
  exact .row b off cap l kv h0 h1 h2 (Nat.lt_of_lt_of_le h3 hs) h4 (fun i hi => ⟨(e _).trans (h5 i hi).1, (e _).trans (h5 i hi).2.1, (e _).trans (h5 i hi).2.2.1, (e _).trans (h5 i hi).2.2.2⟩) h6 ih
theorem Brs.blw {S : Nat → Prop} {w w' : World} {v : Value} {l : List Br} (h : Brs S w v l) (hb : Below w.heap.size w w') : Brs S w' v l := h.kept hb.size (fun k hk _ => hb.block k hk)
theorem Brs.touch {S T : Nat → Prop} {w w' : World} {v : Value} {l : List Br} (h : Brs S w v l) (ht : Touch T w w') (hn : ∀ k, S k → ¬ T k) : Brs S w' v l := h.kept ht.size (fun k hk hs => ht.block k hk (hn k hs))
theorem Brs.mono {S T : Nat → Prop} {w : World} {v : Value} {l : List Br} (h : Brs S w v l) (hst : ∀ k, S k → T k) : Brs T w v l := by
 induction h with
 | nil a cap hc => exact .nil a cap hc
 | row b off cap l kv h0 h1 h2 h3 h4 h5 h6 h7 ih => exact .row b off cap l kv h0 h1 h2 h3 (hst b h4) h5 h6 ih
theorem Brs.shape {S : Nat → Prop} {w : World} {v : Value} {l : List Br} (h : Brs S w v l) : ∃ a cap, v = .slice a l.length cap ∧ l.length ≤ cap ∧ cap ≤ maxLen := by
 cases h with
 | nil a cap hc => exact ⟨a, cap, rfl, Nat.zero_le _, hc⟩
 | row b off cap l kv h0 h1 h2 => exact ⟨_, cap, rfl, h1, h2⟩
structure BrAt (S : Nat → Prop) (w : World) (b off : Nat) (l : List Br) (kv : Nat → Value) : Prop where
 lt : b < w.heap.size
 here : S b
 cells : ∀ i, i < l.length → w.cell? ⟨b, off + i * 4, none⟩ = some (.string (l.getD i default).key) ∧ w.cell? ⟨b, off + i * 4 + 1, none⟩ = some (.string (l.getD i default).val) ∧ w.cell? ⟨b, off + i * 4 + 2, none⟩ = some (.int .i64 (l.getD i default).at_) ∧ w.cell? ⟨b, off + i * 4 + 3, none⟩ = some (kv i)
 small : ∀ i, i < l.length → (l.getD i default).key.size ≤ maxLen ∧ (l.getD i default).val.size ≤ maxLen
 kids : ∀ i, i < l.length → Brs S w (kv i) (l.getD i default).kids
theorem Brs.at {S : Nat → Prop} {w : World} {a : Option Addr} {n cap : Nat} {l : List Br} (h : Brs S w (.slice a n cap) l) (h0 : 0 < l.length) : ∃ b off kv, a = some ⟨b, off, none⟩ ∧ n = l.length ∧ BrAt S w b off l kv := by
 cases h with
 | nil a cap hc => simp at h0
 | row b off cap l kv h0 h1 h2 h3 h4 h5 h6 h7 => exact ⟨b, off, kv, rfl, rfl, h3, h4, h5, h6, h7⟩
def kh (k : ByteArray) : ByteArray := hashV (bytesI k)
inductive Tr where
 | leaf (key val : ByteArray)
 | fork (a : Nat) (hash : ByteArray) (l r : Tr)
deriving Inhabited
def Tr.hash : Tr → ByteArray
 | .leaf k _ => kh k
 | .fork _ h _ _ => h
def fdF (x y : ByteArray) : Nat → Nat → Nat
 | 0, i => i
 | n + 1, i => if bitN x i = bitN y i then fdF x y n (i + 1) else i
theorem fdF_facts (x y : ByteArray) : ∀ n i, i ≤ fdF x y n i ∧ fdF x y n i ≤ i + n ∧ (∀ j, i ≤ j → j < fdF x y n i → bitN x j = bitN y j) ∧ (fdF x y n i < i + n → bitN x (fdF x y n i) ≠ bitN y (fdF x y n i))
 | 0, i => ⟨Nat.le_refl _, Nat.le_refl _, fun j h1 h2 => by simp [fdF] at h2; omega, fun h => by simp [fdF] at h⟩
 | n + 1, i => by
  unfold fdF
  split
  ·rename_i h
   obtain ⟨h1, h2, h3, h4⟩ := fdF_facts x y n (i + 1)
   refine ⟨by omega, by omega, fun j a b => ?_, fun a => h4 (by omega)⟩
   rcases Nat.lt_or_ge i j with c | c
   ·exact h3 j (by omega) b
   ·obtain rfl : j = i := by omega
    exact h
  ·rename_i h
   exact ⟨Nat.le_refl _, by omega, fun j a b => by omega, fun _ => h⟩
def fd (x y : ByteArray) : Nat := fdF x y 256 0
theorem fd_le (x y : ByteArray) : fd x y ≤ 256 := by have := (fdF_facts x y 256 0).2.1; unfold fd; omega
theorem fd_iff (x y : ByteArray) (a : Nat) (ha : a < 256) : fd x y = a ↔ (∀ i, i < a → bitN x i = bitN y i) ∧ bitN x a ≠ bitN y a := by
 obtain ⟨_, h2, h3, h4⟩ := fdF_facts x y 256 0
 unfold fd
 constructor
 ·intro e
  rw [e] at h3 h4
  exact ⟨fun i hi => h3 i (by omega) hi, h4 (by omega)⟩
 ·rintro ⟨h, hn⟩
  generalize fdF x y 256 0 = q at *
  rcases Nat.lt_trichotomy q a with c | c | c
  ·exact absurd (h q c) (h4 (by omega))
  ·exact c
  ·exact absurd (h3 a (by omega) c) hn
def okK (k : ByteArray) : Bool := decide (1 ≤ k.size) && decide (k.size ≤ 24)
theorem okK_iff {k : ByteArray} : okK k = true ↔ 1 ≤ k.size ∧ k.size ≤ 24 := by simp [okK]
theorem kid_lt {k v : ByteArray} {a : Int} {l : List Br} {b : Br} (h : b ∈ l) : SizeOf.sizeOf b < SizeOf.sizeOf (Br.mk k v a l) := by
 have := List.sizeOf_lt_of_mem h
 simp only [Br.mk.sizeOf_spec]; omega
def readV : Br → Int → Nat → Option (Tr × Nat)
 | .mk k v a ks, least, room =>
  if a = 256 then
   if okK k = true ∧ v.size ≤ 60 ∧ ks.length = 0 ∧ room ≠ 0 then some (.leaf k v, room - 1) else none
  else if h : least ≤ a ∧ a ≤ 255 ∧ ks.length = 2 ∧ k.size = 0 ∧ v.size = 0 then
   match readV (ks[0]'(by omega)) (a + 1) room with
   | none => none
   | some (t0, r0) =>
    match readV (ks[1]'(by omega)) (a + 1) r0 with
    | none => none
    | some (t1, r1) => if fd t0.hash t1.hash = a.toNat ∧ bitN t0.hash a.toNat = 0 then some (.fork a.toNat t0.hash t0 t1, r1) else none
  else none
termination_by b => SizeOf.sizeOf b
decreasing_by
 ·exact kid_lt (List.getElem_mem _)
 ·exact kid_lt (List.getElem_mem _)
def cv (b : Br) (least : Int) (pl : List Int) (left : Int) : Int :=
 match readV b least left.toNat with
 | some (t, r) => if bitL t.hash pl.length = pl then left - r else -1
 | none => -1
def emptyBr (b : Br) : Bool := decide (b.key.size = 0) && (decide (b.val.size = 0) && (decide (b.at_ = 0) && decide (b.kids.length = 0)))
theorem kh_size {k : ByteArray} (h : k.size ≤ 65536) : (kh k).size = 32 := hash_size (by rw [bytesI_len]; exact h)
theorem l07Hash_any (k : ByteArray) (w : World) (hk : k.size ≤ 65536) :
  Calls Tryz.prog 81 #[.string k] w fun e w' => e = .returned (.string (kh k)) ∧ Below w.heap.size w w' := by
 obtain ⟨cap, w1, hcv, hB, hb1⟩ := str_bytesB k w (by unfold maxLen; omega)
 have hl : (bytesI k).length = k.size := bytesI_len k
 have HV : Hid (kh k = strOfNums (textL (stAt (bytesI k) (padLen (bytesI k).length / 64)))) := Hd (hashV_yes (by omega))
 have hB' : Bytes w1 (.slice (some ⟨w.heap.size, 0, none⟩) (bytesI k).length cap) (bytesI k) := by rw [hl]; exact hB
 have HL := Hd (l01Hash_any _ _ _ w1 hB' (by omega))
 rw [hl] at HL HV
 have B1 := Hd hb1
 clear hb1 hB hB' hl
 go_enter Tryz.func81, Tryz.ntmps81
 go_wp2_with fail
 refine (uh HL).mono ?_
 rintro e w3 ⟨rfl, hb3⟩
 have K := hbt B1 hb3
 clear hb3
 rw [← uh HV]
 go_wp2_with fail
 go_ret
 exact ⟨rfl, uh K⟩
theorem wrap64_small8 {n : Int} (h0 : 0 ≤ n) (h1 : n < 1000000) : wrap64 n = n := by unfold wrap64; omega
theorem fold_tab8 : (⟨(([0, 1, 2, 2, 3, 3, 3, 3, 4, 4, 4, 4, 4, 4, 4, 4, 5, 5, 5, 5, 5, 5, 5, 5, 5, 5, 5, 5, 5, 5, 5, 5, 6, 6, 6, 6, 6, 6, 6, 6, 6, 6, 6, 6, 6, 6, 6, 6, 6, 6, 6, 6, 6, 6, 6, 6, 6, 6, 6, 6, 6, 6, 6, 6].append [7, 7, 7, 7, 7, 7, 7, 7, 7, 7, 7, 7, 7, 7, 7, 7, 7, 7, 7, 7, 7, 7, 7, 7, 7, 7, 7, 7, 7, 7, 7, 7, 7, 7, 7, 7, 7, 7, 7, 7, 7, 7, 7, 7, 7, 7, 7, 7, 7, 7, 7, 7, 7, 7, 7, 7, 7, 7, 7, 7, 7, 7, 7, 7]).append ([8, 8, 8, 8, 8, 8, 8, 8, 8, 8, 8, 8, 8, 8, 8, 8, 8, 8, 8, 8, 8, 8, 8, 8, 8, 8, 8, 8, 8, 8, 8, 8, 8, 8, 8, 8, 8, 8, 8, 8, 8, 8, 8, 8, 8, 8, 8, 8, 8, 8, 8, 8, 8, 8, 8, 8, 8, 8, 8, 8, 8, 8, 8, 8].append [8, 8, 8, 8, 8, 8, 8, 8, 8, 8, 8, 8, 8, 8, 8, 8, 8, 8, 8, 8, 8, 8, 8, 8, 8, 8, 8, 8, 8, 8, 8, 8, 8, 8, 8, 8, 8, 8, 8, 8, 8, 8, 8, 8, 8, 8, 8, 8, 8, 8, 8, 8, 8, 8, 8, 8, 8, 8, 8, 8, 8, 8, 8, 8])).toArray⟩ : ByteArray) = Lib.len8tab := by kernel_rfl
theorem len8_any (x : Int) (w : World) (h0 : 0 ≤ x) (h1 : x ≤ 255) :
  Calls Tryz.prog 150 #[.int .u8 x] w fun e w' => e = .returned (.int .i64 (Lib.bitLen x.toNat)) ∧ w' = w := by
 go_enter Tryz.func150, Tryz.ntmps150
 rw [fold_tab8]
 go_wp2
 go_ret
 have e := Lib.len8_eq ⟨x.toNat, by omega⟩
 have l := Lib.bitLen_le8 ⟨x.toNat, by omega⟩
 dsimp only at e l
 rw [Int.toNat_of_nonneg h0] at e
 refine ⟨ret_int ?_, rfl⟩
 rw [e]
 exact wrap64_small8 (by omega) (by omega)
theorem lead8_any (x : Int) (w : World) (h0 : 0 ≤ x) (h1 : x ≤ 255) :
  Calls Tryz.prog 146 #[.int .u8 x] w fun e w' => e = .returned (.int .i64 (8 - (Lib.bitLen x.toNat : Int))) ∧ w' = w := by
 have l := Lib.bitLen_le8 ⟨x.toNat, by omega⟩
 dsimp only at l
 have H := Hd (len8_any x w h0 h1)
 generalize Lib.bitLen x.toNat = q at *
 go_enter Tryz.func146, Tryz.ntmps146
 go_wp2_with fail
 refine (uh H).mono ?_
 rintro e w9 ⟨rfl, hw9⟩
 subst w9
 go_wp2_with fail
 go_ret
 exact ⟨rfl, rfl⟩
theorem bl_bits : ∀ d : Fin 256, d.val ≠ 0 → 1 ≤ Lib.bitLen d.val ∧ Lib.bitLen d.val ≤ 8 ∧ d.val.testBit (Lib.bitLen d.val - 1) = true ∧ ∀ j : Fin 8, Lib.bitLen d.val ≤ j.val → d.val.testBit j.val = false := by decide +kernel
def byN (s : ByteArray) (i : Nat) : Nat := (s.data.toList.getD i 0).toNat
theorem bAt_byN (s : ByteArray) (i : Nat) : bAt s i = (byN s i : Int) := rfl
theorem byN_lt (s : ByteArray) (i : Nat) : byN s i < 256 := (s.data.toList.getD i 0).toNat_lt
theorem bitN_test (s : ByteArray) (i : Nat) : bitN s i = if (byN s (i / 8)).testBit (7 - i % 8) then 1 else 0 := by
 unfold bitN
 rw [bAt_byN, Nat.testBit_eq_decide_div_mod_eq]
 have e : (byN s (i / 8) : Int) / 2 ^ (7 - i % 8) % 2 = ((byN s (i / 8) / 2 ^ (7 - i % 8) % 2 : Nat) : Int) := by simp
 rw [e]
 have := Nat.mod_lt (byN s (i / 8) / 2 ^ (7 - i % 8)) (show 0 < 2 by omega)
 generalize byN s (i / 8) / 2 ^ (7 - i % 8) % 2 = q at *
 by_cases h : q = 1
 ·simp [h]
 ·have : q = 0 := by omega
  simp [this]
theorem fd_byte (x y : ByteArray) (k : Nat) (hk : k < 32) (hs : ∀ j, j < k → byN x j = byN y j) (hd : byN x k ^^^ byN y k ≠ 0) : fd x y = 8 * k + (8 - Lib.bitLen (byN x k ^^^ byN y k)) := by
 have hlt : byN x k ^^^ byN y k < 256 := Nat.xor_lt_two_pow (n := 8) (byN_lt x k) (byN_lt y k)
 obtain ⟨h1, h2, h3, h4⟩ := bl_bits ⟨byN x k ^^^ byN y k, hlt⟩ hd
 dsimp only at h1 h2 h3 h4
 generalize Lib.bitLen (byN x k ^^^ byN y k) = bl at *
 rw [fd_iff _ _ _ (by omega)]
 constructor
 ·intro i hi
  rw [bitN_test, bitN_test]
  rcases Nat.lt_or_ge (i / 8) k with h | h
  ·rw [hs _ h]
  ·have e : i / 8 = k := by omega
   have := h4 ⟨7 - i % 8, by omega⟩ (by dsimp only; omega)
   dsimp only at this
   rw [Nat.testBit_xor] at this
   rw [e]
   generalize (byN x k).testBit (7 - i % 8) = b1 at *
   generalize (byN y k).testBit (7 - i % 8) = b2 at *
   cases b1 <;> cases b2 <;> simp_all
 ·rw [bitN_test, bitN_test]
  have e1 : (8 * k + (8 - bl)) / 8 = k := by omega
  have e2 : 7 - (8 * k + (8 - bl)) % 8 = bl - 1 := by omega
  rw [e1, e2]
  rw [Nat.testBit_xor] at h3
  generalize (byN x k).testBit (bl - 1) = b1 at *
  generalize (byN y k).testBit (bl - 1) = b2 at *
  cases b1 <;> cases b2 <;> simp_all
theorem fd_same (x y : ByteArray) (hs : ∀ j, j < 32 → byN x j = byN y j) : fd x y = 256 := by
 obtain ⟨_, h2, h3, h4⟩ := fdF_facts x y 256 0
 unfold fd
 generalize fdF x y 256 0 = q at *
 rcases Nat.lt_or_ge q 256 with h | h
 ·exfalso
  apply h4 (by omega)
  rw [bitN_test, bitN_test, hs _ (by omega)]
 ·omega
theorem firstDiff_any (x y : ByteArray) (w : World) (hx : x.size = 32) (hy : y.size = 32) :
  Calls Tryz.prog 134 #[.string x, .string y] w fun e w' => e = .returned (.int .i64 (fd x y)) ∧ ∃ n, w' = w.drewN n := by
 go_enter Tryz.func134, Tryz.ntmps134
 go_wp2_with fail
 go_loopw [5, 6, 7] (fun _ _ i wr => ∃ k : Nat, k ≤ 32 ∧ i = .int .i64 k ∧ (∀ j, j < k → byN x j = byN y j) ∧ ∃ n, wr = w.drewN n) (fun _ _ i _ => 32 - (intOf i).toNat)
 case atStart => exact ⟨0, Nat.zero_le _, rfl, fun j hj => by omega, 0, rfl⟩
 case round =>
  obtain ⟨k, hk, rfl, hs, n, hn⟩ := hrel
  have HN := Hd hn
  have HS := Hd hs
  clear hn hs
  by_cases hlt : k < 32
  ·have hk0 : (0 : Int) ≤ (k : Int) := by omega
   have hk1 : (k : Int) < (x.size : Int) := by omega
   have hk2 : (k : Int) < (y.size : Int) := by omega
   have e1 := bAt_eq x k (by omega)
   have e2 := bAt_eq y k (by omega)
   have e3 : bits .xor .u8 (bAt x k) (bAt y k) = ((byN x k ^^^ byN y k : Nat) : Int) := u8_xor_nat _ _ (byN_lt x k) (byN_lt y k)
   have hlt8 : byN x k ^^^ byN y k < 256 := Nat.xor_lt_two_pow (n := 8) (byN_lt x k) (byN_lt y k)
   have HFB := Hd (fun hd => fd_byte x y k hlt (uh HS) hd)
   have HX0 : Hid (byN x k ^^^ byN y k = 0 → byN x k = byN y k) := Hd (fun h => Nat.eq_of_testBit_eq (fun i => by have q := congrArg (fun z => z.testBit i) h; simp [Nat.testBit_xor] at q; exact q))
   generalize byN x k ^^^ byN y k = d at *
   generalize bAt x k = bx at *
   generalize bAt y k = by' at *
   go_wp2_with fail
   go_quiet (fail)
   have HN2 : Hid (∃ n', wr.drewN nq = w.drewN n') := Hd ⟨n + nq, by rw [uh HN, World.drewN_drewN]⟩
   generalize wr.drewN nq = w2 at *
   by_cases hd : d = 0
   ·have HE := Hd (uh HX0 hd)
    subst hd
    go_wp2_with fail
    refine ⟨⟨k + 1, by omega, by go_num, fun j hj => ?_, uh HN2⟩, ?_⟩
    ·rcases Nat.lt_or_ge j k with h | h
     ·exact uh HS j h
     ·obtain rfl : j = k := by omega
      exact uh HE
    ·simp [intOf]; omega
   ·have H := Hd (uh HFB hd)
    have hd2 : (d : Int) ≠ 0 := by omega
    have l := (bl_bits ⟨d, hlt8⟩ hd)
    have l1 := l.1
    have l2 := l.2.1
    dsimp only at l1 l2
    have HL := Hd (lead8_any (d : Int) w2 (by omega) (by omega))
    rw [Int.toNat_natCast] at HL
    clear l HX0 HFB
    generalize Lib.bitLen d = bl at *
    go_wp2_with fail
    refine (uh HL).mono ?_
    rintro e w9 ⟨rfl, hw9⟩
    subst w9
    go_wp2_with fail
    go_ret
    exact ⟨ret_int (by rw [uh H]; omega), uh HN2⟩
  ·obtain rfl : k = 32 := by omega
   have H := Hd (fd_same x y (uh HS))
   go_wp2_with fail
   go_ret
   exact ⟨ret_int (by rw [uh H]; rfl), n, uh HN⟩
end Go.Proofs.YtbchnheinnileaaGreatDoor.Sha
namespace Go.Proofs.YtbchnheinnileaaGreatDoor.Sha
set_option maxRecDepth 100000
set_option maxHeartbeats 8000000
open Go.ChangeShapes Go.WideShapes Go.ChangeAt Go.RowKit
set_option linter.unusedVariables false
set_option linter.unusedSimpArgs false
def lfC (k v : ByteArray) : List Value := [.string k, .string v, .string (kh k), .int .i64 256, .pointer none, .pointer none]
def fkC (h : ByteArray) (a : Nat) (p q : Nat) : List Value := [.string ⟨#[]⟩, .string ⟨#[]⟩, .string h, .int .i64 a, .pointer (some ⟨p, 0, none⟩), .pointer (some ⟨q, 0, none⟩)]
inductive Nd (w : World) : (Nat → Prop) → Nat → Tr → Prop
 | leaf (S : Nat → Prop) (p : Nat) (k v : ByteArray) : S p → Blk w p (lfC k v) → Nd w S p (.leaf k v)
 | fork (S Sl Sr : Nat → Prop) (p a : Nat) (h : ByteArray) (l r : Tr) (pl pr : Nat) : S p → (∀ b, Sl b → S b ∧ b ≠ p) → (∀ b, Sr b → S b ∧ b ≠ p) → (∀ b, Sl b → ¬ Sr b) → Blk w p (fkC h a pl pr) → Nd w Sl pl l → Nd w Sr pr r → Nd w S p (.fork a h l r)
theorem Nd.touch {w w' : World} {S T : Nat → Prop} {p : Nat} {t : Tr} (h : Nd w S p t) (ht : Touch T w w') (hn : ∀ k, S k → ¬ T k) : Nd w' S p t := by
 induction h with
 | leaf S p k v h0 h1 => exact .leaf S p k v h0 (h1.kept ht (hn p h0))
 | fork S Sl Sr p a h l r pl pr h0 h1 h2 h3 h4 _ _ i1 i2 => exact .fork S Sl Sr p a h l r pl pr h0 h1 h2 h3 (h4.kept ht (hn p h0)) (i1 (fun k hk => hn k (h1 k hk).1)) (i2 (fun k hk => hn k (h2 k hk).1))
theorem Nd.blw {w w' : World} {S : Nat → Prop} {p : Nat} {t : Tr} (h : Nd w S p t) (hb : Below w.heap.size w w') : Nd w' S p t := h.touch (T := fun _ => False) (Touch.ofBelow hb) (fun _ _ h => h)
theorem Nd.mono {w : World} {S T : Nat → Prop} {p : Nat} {t : Tr} (h : Nd w S p t) (hst : ∀ k, S k → T k) : Nd w T p t := by
 cases h with
 | leaf S p k v h0 h1 => exact .leaf T p k v (hst p h0) h1
 | fork S Sl Sr p a h l r pl pr h0 h1 h2 h3 h4 h5 h6 => exact .fork T Sl Sr p a h l r pl pr (hst p h0) (fun b hb => ⟨hst b (h1 b hb).1, (h1 b hb).2⟩) (fun b hb => ⟨hst b (h2 b hb).1, (h2 b hb).2⟩) h3 h4 h5 h6
theorem Nd.here {w : World} {S : Nat → Prop} {p : Nat} {t : Tr} (h : Nd w S p t) : S p ∧ p < w.heap.size := by
 cases h with
 | leaf S p k v h0 h1 => exact ⟨h0, h1.1⟩
 | fork S Sl Sr p a h l r pl pr h0 h1 h2 h3 h4 => exact ⟨h0, h4.1⟩
theorem Nd.hashC {w : World} {S : Nat → Prop} {p : Nat} {t : Tr} (h : Nd w S p t) : w.cell? ⟨p, 2, none⟩ = some (.string t.hash) := by
 cases h with
 | leaf S p k v h0 h1 => exact h1.cell 2 rfl
 | fork S Sl Sr p a h l r pl pr h0 h1 h2 h3 h4 => exact h4.cell 2 rfl

theorem newLeaf_any (k v : ByteArray) (w : World) (hk : k.size ≤ 65536) (ht : Tab w) :
  Calls Tryz.prog 121 #[.string k, .string v] w fun e w' => ∃ p, e = .returned (.pointer (some ⟨p, 0, none⟩)) ∧ w.heap.size ≤ p ∧ Blk w' p (lfC k v) ∧ Below w.heap.size w w' := by
 obtain ⟨cap, w1, hcv, hB, hb1⟩ := str_bytesB k w (by unfold maxLen; omega)
 have HH := Hd (implHash_any _ _ w1 hB (ht.below hb1).2 (ht.below hb1).1)
 have HV : Hid (kh k = hashV (bytesI k)) := rfl
 have B1 := Hd hb1
 clear hb1 hB ht
 go_enter Tryz.func121, Tryz.ntmps121
 go_wp2_with fail
 refine (uh HH).mono ?_
 rintro e w3 ⟨rfl, hb3⟩
 have K := hbt B1 hb3
 clear hb3
 rw [← uh HV]
 have KN := Hd (Blk.new w3 #[.string k, .string v, .string (kh k), .int .i64 256, .pointer none, .pointer none] 144 w3.heap.size rfl)
 have K4 := Hd ((uh K).alloc (uh K).size (.cells #[.string k, .string v, .string (kh k), .int .i64 256, .pointer none, .pointer none] 144))
 go_wp2_with fail
 go_ret
 exact ⟨w3.heap.size, rfl, (uh K).size, uh KN, uh K4⟩
def kidsV (x y : ByteArray) (a p q : Nat) : Nat × Nat := if bitN x a = 0 then (p, q) else (q, p)
theorem newFork_any (a : Nat) (p q : Nat) (x y : ByteArray) (w : World) (ha : a < 256) (hx : x.size = 32) (hy : y.size = 32) (hxy : bitN x a ≠ bitN y a)
  (hp : p < w.heap.size) (hq : q < w.heap.size) (cx : w.cell? ⟨p, 2, none⟩ = some (.string x)) (cy : w.cell? ⟨q, 2, none⟩ = some (.string y)) :
  Calls Tryz.prog 145 #[.int .i64 a, .pointer (some ⟨p, 0, none⟩), .pointer (some ⟨q, 0, none⟩)] w fun e w' => ∃ f, e = .returned (.pointer (some ⟨f, 0, none⟩)) ∧ w.heap.size ≤ f ∧ Blk w' f (fkC x a (kidsV x y a p q).1 (kidsV x y a p q).2) ∧ Below w.heap.size w w' := by
 have HX := Hd (fun wx => hashBit_any x a wx hx ha)
 have HY := Hd (fun wx => hashBit_any y a wx hy ha)
 have X0 := Hd (Blk.new w #[.string ⟨#[]⟩, .string ⟨#[]⟩, .string x, .int .i64 a, .pointer none, .pointer none] 144 w.heap.size rfl)
 have B0 := Hd (bal w (.cells #[.string ⟨#[]⟩, .string ⟨#[]⟩, .string x, .int .i64 a, .pointer none, .pointer none] 144))
 have c1 := ((uh B0).cell (p := ⟨p, 2, none⟩) hp).trans cx
 have c2 := ((uh B0).cell (p := ⟨q, 2, none⟩) hq).trans cy
 have hpn : p ≠ w.heap.size := by omega
 have hqn : q ≠ w.heap.size := by omega
 have HK : Hid (kidsV x y a p q = if bitN x a = 0 then (p, q) else (q, p)) := rfl
 have hx1 := bitN_01 x a
 have hy1 := bitN_01 y a
 generalize bitN x a = bx at *
 generalize bitN y a = by' at *
 generalize kidsV x y a p q = kk at *
 go_enter Tryz.func145, Tryz.ntmps145
 go_wp2_with fail
 clear cx cy
 generalize w.alloc (.cells #[.string ⟨#[]⟩, .string ⟨#[]⟩, .string x, .int .i64 a, .pointer none, .pointer none] 144) = w1 at *
 generalize hX : w.heap.size = X at *
 have f4 := (uh X0).fro 4
 have f5 := (uh X0).fro 5
 have d4 := (uh X0).cell 4 rfl
 have d5 := (uh X0).cell 5 rfl
 rcases hx1 with rfl | rfl
 ·obtain rfl : by' = 1 := by omega
  have s1 : (w1.setCell ⟨X, 4, none⟩ (.pointer (some ⟨p, 0, none⟩))).drew.cell? ⟨p, 2, none⟩ = some (.string x) := (World.cell?_setCell_other _ _ _ _ (by simp)).trans c1
  go_region_held3 (fun wx => wx.cell? ⟨p, 2, none⟩ = some (.string x)) (first | go_keep | exact s1) ((go_at_call 128; refine (uh HX _).mono ?_; rintro e w9 ⟨rfl, hw9⟩; subst w9))
  have Y2 : Hid (Blk (w1.setCell ⟨X, 4, none⟩ (.pointer (some ⟨p, 0, none⟩))).drew X ([.string ⟨#[]⟩, .string ⟨#[]⟩, .string x, .int .i64 a, .pointer none, .pointer none].set 4 (.pointer (some ⟨p, 0, none⟩)))) := Hd (((uh X0).set 4 (.pointer (some ⟨p, 0, none⟩)) (by simp)).drewN 1)
  have B2 : Hid (Below X w (w1.setCell ⟨X, 4, none⟩ (.pointer (some ⟨p, 0, none⟩))).drew) := Hd (((uh B0).setCell (p := ⟨X, 4, none⟩) (Nat.le_refl _) (.pointer (some ⟨p, 0, none⟩))).drew)
  have e2 : (w1.setCell ⟨X, 4, none⟩ (.pointer (some ⟨p, 0, none⟩))).drew.cell? ⟨q, 2, none⟩ = some (.string y) := (World.cell?_setCell_other _ _ _ _ (by simp)).trans c2
  generalize (w1.setCell ⟨X, 4, none⟩ (.pointer (some ⟨p, 0, none⟩))).drew = w2 at *
  clear d4 d5 f4 f5 c1 c2 s1
  have f4 := (uh Y2).fro 4
  have f5 := (uh Y2).fro 5
  have d4 := (uh Y2).cell 4 rfl
  have d5 := (uh Y2).cell 5 rfl
  have s2 : (w2.setCell ⟨X, 5, none⟩ (.pointer (some ⟨q, 0, none⟩))).drew.cell? ⟨q, 2, none⟩ = some (.string y) := (World.cell?_setCell_other _ _ _ _ (by simp)).trans e2
  go_wp2_with fail
  go_region_held3 (fun wx => wx.cell? ⟨q, 2, none⟩ = some (.string y)) (first | go_keep | exact s2) ((go_at_call 128; refine (uh HY _).mono ?_; rintro e w9 ⟨rfl, hw9⟩; subst w9))
  have Y3 : Hid (Blk (w2.setCell ⟨X, 5, none⟩ (.pointer (some ⟨q, 0, none⟩))).drew X (([.string ⟨#[]⟩, .string ⟨#[]⟩, .string x, .int .i64 a, .pointer none, .pointer none].set 4 (.pointer (some ⟨p, 0, none⟩))).set 5 (.pointer (some ⟨q, 0, none⟩)))) := Hd (((uh Y2).set 5 (.pointer (some ⟨q, 0, none⟩)) (by simp)).drewN 1)
  have B3 : Hid (Below X w (w2.setCell ⟨X, 5, none⟩ (.pointer (some ⟨q, 0, none⟩))).drew) := Hd (((uh B2).setCell (p := ⟨X, 5, none⟩) (Nat.le_refl _) (.pointer (some ⟨q, 0, none⟩))).drew)
  generalize (w2.setCell ⟨X, 5, none⟩ (.pointer (some ⟨q, 0, none⟩))).drew = w3 at *
  clear d4 d5 f4 f5 e2 s2
  go_wp2_with fail
  go_ret
  refine ⟨X, rfl, Nat.le_of_eq hX, ?_, by rw [hX]; exact uh B3⟩
  rw [uh HK]
  exact uh Y3
 ·obtain rfl : by' = 0 := by omega
  have s1 : (w1.setCell ⟨X, 5, none⟩ (.pointer (some ⟨p, 0, none⟩))).drew.cell? ⟨p, 2, none⟩ = some (.string x) := (World.cell?_setCell_other _ _ _ _ (by simp)).trans c1
  go_region_held3 (fun wx => wx.cell? ⟨p, 2, none⟩ = some (.string x)) (first | go_keep | exact s1) ((go_at_call 128; refine (uh HX _).mono ?_; rintro e w9 ⟨rfl, hw9⟩; subst w9))
  have Y2 : Hid (Blk (w1.setCell ⟨X, 5, none⟩ (.pointer (some ⟨p, 0, none⟩))).drew X ([.string ⟨#[]⟩, .string ⟨#[]⟩, .string x, .int .i64 a, .pointer none, .pointer none].set 5 (.pointer (some ⟨p, 0, none⟩)))) := Hd (((uh X0).set 5 (.pointer (some ⟨p, 0, none⟩)) (by simp)).drewN 1)
  have B2 : Hid (Below X w (w1.setCell ⟨X, 5, none⟩ (.pointer (some ⟨p, 0, none⟩))).drew) := Hd (((uh B0).setCell (p := ⟨X, 5, none⟩) (Nat.le_refl _) (.pointer (some ⟨p, 0, none⟩))).drew)
  have e2 : (w1.setCell ⟨X, 5, none⟩ (.pointer (some ⟨p, 0, none⟩))).drew.cell? ⟨q, 2, none⟩ = some (.string y) := (World.cell?_setCell_other _ _ _ _ (by simp)).trans c2
  generalize (w1.setCell ⟨X, 5, none⟩ (.pointer (some ⟨p, 0, none⟩))).drew = w2 at *
  clear d4 d5 f4 f5 c1 c2 s1
  have f4 := (uh Y2).fro 4
  have f5 := (uh Y2).fro 5
  have d4 := (uh Y2).cell 4 rfl
  have d5 := (uh Y2).cell 5 rfl
  have s2 : (w2.setCell ⟨X, 4, none⟩ (.pointer (some ⟨q, 0, none⟩))).drew.cell? ⟨q, 2, none⟩ = some (.string y) := (World.cell?_setCell_other _ _ _ _ (by simp)).trans e2
  go_wp2_with fail
  go_region_held3 (fun wx => wx.cell? ⟨q, 2, none⟩ = some (.string y)) (first | go_keep | exact s2) ((go_at_call 128; refine (uh HY _).mono ?_; rintro e w9 ⟨rfl, hw9⟩; subst w9))
  have Y3 : Hid (Blk (w2.setCell ⟨X, 4, none⟩ (.pointer (some ⟨q, 0, none⟩))).drew X (([.string ⟨#[]⟩, .string ⟨#[]⟩, .string x, .int .i64 a, .pointer none, .pointer none].set 5 (.pointer (some ⟨p, 0, none⟩))).set 4 (.pointer (some ⟨q, 0, none⟩)))) := Hd (((uh Y2).set 4 (.pointer (some ⟨q, 0, none⟩)) (by simp)).drewN 1)
  have B3 : Hid (Below X w (w2.setCell ⟨X, 4, none⟩ (.pointer (some ⟨q, 0, none⟩))).drew) := Hd (((uh B2).setCell (p := ⟨X, 4, none⟩) (Nat.le_refl _) (.pointer (some ⟨q, 0, none⟩))).drew)
  generalize (w2.setCell ⟨X, 4, none⟩ (.pointer (some ⟨q, 0, none⟩))).drew = w3 at *
  clear d4 d5 f4 f5 e2 s2
  go_wp2_with fail
  go_ret
  refine ⟨X, rfl, Nat.le_of_eq hX, ?_, by rw [hX]; exact uh B3⟩
  rw [uh HK]
  exact uh Y3
theorem empty_size {k : ByteArray} (h : k.size = 0) : k = ⟨#[]⟩ := by
 obtain ⟨⟨l⟩⟩ := k
 have : l.length = 0 := h
 rw [List.eq_nil_of_length_eq_zero this]
theorem ne_empty {k : ByteArray} (h : k ≠ ⟨#[]⟩) : k.toList.isEmpty = false := by
 cases hb : k.toList.isEmpty
 ·rfl
 ·exact absurd (empty_size (emptyB_iff.1 hb)) h

theorem Brs.bound {S : Nat → Prop} {w : World} {v : Value} {l : List Br} (h : Brs S w v l) : Brs (fun x => x < w.heap.size) w v l := by
 induction h with
 | nil a cap hc => exact .nil a cap hc
 | row b off cap l kv h0 h1 h2 h3 h4 h5 h6 h7 ih => exact .row b off cap l kv h0 h1 h2 h3 h3 h5 h6 ih
def PtrM (w : World) (S : Nat → Prop) (pv : Option Addr) : Option Tr → Prop
 | none => pv = none
 | some t => ∃ p, pv = some ⟨p, 0, none⟩ ∧ Nd w S p t
theorem PtrM.blw {w w' : World} {S : Nat → Prop} {pv : Option Addr} {o : Option Tr} (h : PtrM w S pv o) (hb : Below w.heap.size w w') : PtrM w' S pv o := by
 cases o with
 | none => exact h
 | some t => obtain ⟨p, h1, h2⟩ := h; exact ⟨p, h1, h2.blw hb⟩
theorem empty_iff (k v : ByteArray) (a : Int) (l : List Br) : emptyBr (.mk k v a l) = true ↔ k = ⟨#[]⟩ ∧ v = ⟨#[]⟩ ∧ a = 0 ∧ l.length = 0 := by
 unfold emptyBr
 simp only [Br.key, Br.val, Br.at_, Br.kids, Bool.and_eq_true]
 constructor
 ·rintro ⟨h1, h2, h3, h4⟩; exact ⟨empty_size (of_decide_eq_true h1), empty_size (of_decide_eq_true h2), of_decide_eq_true h3, of_decide_eq_true h4⟩
 ·rintro ⟨rfl, rfl, h3, h4⟩; exact ⟨rfl, rfl, decide_eq_true h3, decide_eq_true h4⟩
end Go.Proofs.YtbchnheinnileaaGreatDoor.Sha
namespace Go.Proofs.YtbchnheinnileaaGreatDoor.Sha
set_option maxRecDepth 100000
set_option maxHeartbeats 8000000
open Go.ChangeShapes Go.WideShapes Go.ChangeAt Go.RowKit
set_option linter.unusedVariables false
def Tr.toBr : Tr → Br
 | .leaf k v => .mk k v 256 []
 | .fork a _ l r => .mk ⟨#[]⟩ ⟨#[]⟩ a [l.toBr, r.toBr]
def TrOK : Tr → Prop
 | .leaf k v => okK k = true ∧ v.size ≤ 60
 | .fork a h l r => a < 256 ∧ h.size = 32 ∧ TrOK l ∧ TrOK r
def brOf : Option Tr → Br
 | none => .mk ⟨#[]⟩ ⟨#[]⟩ 0 []
 | some t => t.toBr
def OkO : Option Tr → Prop
 | none => True
 | some t => TrOK t
theorem not_empty {t : Tr} (h : TrOK t) : emptyBr t.toBr = false := by
 cases t with
 | leaf k v =>
  cases he : emptyBr (Tr.leaf k v).toBr
  ·rfl
  ·have := (empty_iff k v 256 []).1 he
   omega
 | fork a hh l r =>
  cases he : emptyBr (Tr.fork a hh l r).toBr
  ·rfl
  ·have := ((empty_iff ⟨#[]⟩ ⟨#[]⟩ a [l.toBr, r.toBr]).1 he).2.2.2
   simp at this
end Go.Proofs.YtbchnheinnileaaGreatDoor.Sha
namespace Go.Proofs.YtbchnheinnileaaGreatDoor.Sha
set_option maxRecDepth 100000
set_option maxHeartbeats 8000000
open Go.ChangeShapes Go.WideShapes Go.ChangeAt Go.RowKit
set_option linter.unusedVariables false
set_option linter.unusedSimpArgs false
theorem l07Leaf_any (k v : ByteArray) (a : Int) (sa : Option Addr) (n cap : Nat) (w : World) (hn : n ≤ maxLen) :
  Calls Tryz.prog 94 #[.agg #[.string k, .string v, .int .i64 a, .slice sa n cap]] w fun e w' => e = .returned (.bool (decide (n = 0))) ∧ Below w.heap.size w w' := by
 have B0 := Hd (bal w (.cells #[.string k, .string v, .int .i64 a, .slice sa n cap] 30))
 unfold maxLen at hn
 by_cases h : n = 0
 ·have H := Hd (show decide (n = 0) = true from decide_eq_true h)
  have hb : ((n : Int) == 0) = true := by simpa using h
  clear h
  go_enter Tryz.func94, Tryz.ntmps94
  go_wp2_with fail
  go_ret
  exact ⟨ret_bool (uh H).symm, uh B0⟩
 ·have H := Hd (show decide (n = 0) = false from decide_eq_false h)
  have hb : ((n : Int) == 0) = false := by rw [beq_eq_false_iff_ne]; omega
  clear h
  go_enter Tryz.func94, Tryz.ntmps94
  go_wp2_with fail
  go_ret
  exact ⟨ret_bool (uh H).symm, uh B0⟩
theorem l07Empty_any (k v : ByteArray) (a : Int) (l : List Br) (sa : Option Addr) (cap : Nat) (w : World) (hn : l.length ≤ maxLen) :
  Calls Tryz.prog 93 #[.agg #[.string k, .string v, .int .i64 a, .slice sa l.length cap]] w fun e w' => e = .returned (.bool (emptyBr (.mk k v a l))) ∧ Below w.heap.size w w' := by
 have B0 := Hd (bal w (.cells #[.string k, .string v, .int .i64 a, .slice sa l.length cap] 30))
 unfold maxLen at hn
 have HE := Hd (empty_iff k v a l)
 generalize emptyBr (.mk k v a l) = eb at *
 have HF : Hid (¬ (k = ⟨#[]⟩ ∧ v = ⟨#[]⟩ ∧ a = 0 ∧ l.length = 0) → eb = false) := Hd (fun h => by cases eb; rfl; exact absurd ((uh HE).1 rfl) h)
 by_cases h1 : k = ⟨#[]⟩
 case neg =>
  have H := Hd (uh HF (fun h => h1 h.1))
  have hkb := ne_empty h1
  clear h1
  go_enter Tryz.func93, Tryz.ntmps93
  go_wp2_with fail
  go_ret
  exact ⟨ret_bool (uh H).symm, uh B0⟩
 have hkb : k.toList.isEmpty = true := emptyB_iff.2 (by rw [h1]; rfl)
 by_cases h2 : v = ⟨#[]⟩
 case neg =>
  have H := Hd (uh HF (fun h => h2 h.2.1))
  have hvb := ne_empty h2
  clear h1 h2
  go_enter Tryz.func93, Tryz.ntmps93
  go_wp2_with fail
  go_ret
  exact ⟨ret_bool (uh H).symm, uh B0⟩
 have hvb : v.toList.isEmpty = true := emptyB_iff.2 (by rw [h2]; rfl)
 by_cases h3 : a = 0
 case neg =>
  have H := Hd (uh HF (fun h => h3 h.2.2.1))
  have hab : (a == 0) = false := by simpa using h3
  clear h1 h2 h3
  go_enter Tryz.func93, Tryz.ntmps93
  go_wp2_with fail
  go_ret
  exact ⟨ret_bool (uh H).symm, uh B0⟩
 have hab : (a == 0) = true := by simpa using h3
 by_cases h4 : l.length = 0
 ·have H := Hd ((uh HE).2 ⟨h1, h2, h3, h4⟩)
  have hlb : ((l.length : Int) == 0) = true := by simpa using h4
  clear h1 h2 h3 h4
  go_enter Tryz.func93, Tryz.ntmps93
  go_wp2_with fail
  go_ret
  exact ⟨ret_bool (uh H).symm, uh B0⟩
 ·have H := Hd (uh HF (fun h => h4 h.2.2.2))
  have hlb : ((l.length : Int) == 0) = false := by rw [beq_eq_false_iff_ne]; omega
  clear h1 h2 h3 h4
  go_enter Tryz.func93, Tryz.ntmps93
  go_wp2_with fail
  go_ret
  exact ⟨ret_bool (uh H).symm, uh B0⟩
theorem list_ne {a b : ByteArray} (h : a ≠ b) : (a.toList == b.toList) = false := by
 rw [beq_eq_false_iff_ne]
 intro e
 rw [ByteArray.toList_eq, ByteArray.toList_eq] at e
 exact h (ByteArray.ext (Array.toList_inj.1 e))
theorem list_eq {a b : ByteArray} (h : a = b) : (a.toList == b.toList) = true := by rw [h]; simp
def Rise : Nat → Tr → Prop
 | n, .leaf _ _ => n ≤ 256
 | n, .fork a _ l r => n ≤ a ∧ a < 256 ∧ Rise (a + 1) l ∧ Rise (a + 1) r
def Tr.at_ : Tr → Nat
 | .leaf _ _ => 256
 | .fork a _ _ _ => a
theorem Rise.le {n : Nat} {t : Tr} (h : Rise n t) : n ≤ t.at_ := by
 cases t with
 | leaf k v => exact h
 | fork a hh l r => exact h.1
theorem Rise.le256 {n : Nat} {t : Tr} (h : Rise n t) : t.at_ ≤ 256 := by
 cases t with
 | leaf k v => exact Nat.le_refl _
 | fork a hh l r => exact Nat.le_of_lt h.2.1
def RiseO : Option Tr → Prop
 | none => True
 | some t => Rise 0 t
def leadL (h : ByteArray) : Tr → ByteArray × ByteArray
 | .leaf k v => (k, v)
 | .fork a _ l r => if bitN h a = 0 then leadL h l else leadL h r
theorem lead_ok (h : ByteArray) : ∀ t, TrOK t → okK (leadL h t).1 = true ∧ (leadL h t).2.size ≤ 60
 | .leaf k v, ho => ho
 | .fork a hh l r, ho => by
  unfold leadL
  split
  ·exact lead_ok h l ho.2.2.1
  ·exact lead_ok h r ho.2.2.2
def atCell (v : Value) (w : World) : Nat := match v with
 | .pointer (some ad) => (match w.cell? ⟨ad.block, 3, none⟩ with
  | some (.int _ a) => a.toNat
  | _ => 0)
 | _ => 0
theorem atCell_is {p : Nat} {w : World} {a : Nat} (h : w.cell? ⟨p, 3, none⟩ = some (.int .i64 a)) : atCell (.pointer (some ⟨p, 0, none⟩)) w = a := by
 unfold atCell
 dsimp only
 rw [h]
 simp
theorem Nd.atC {w : World} {S : Nat → Prop} {p : Nat} {t : Tr} (h : Nd w S p t) : w.cell? ⟨p, 3, none⟩ = some (.int .i64 t.at_) := by
 cases h with
 | leaf S p k v h0 h1 => exact h1.cell 3 rfl
 | fork S Sl Sr p a h l r pl pr h0 h1 h2 h3 h4 => exact h4.cell 3 rfl
theorem lead_any (h : ByteArray) (hh : h.size = 32) (w : World) (S : Nat → Prop) (p : Nat) (t : Tr) (hn : Nd w S p t) (hr : Rise 0 t) :
  Calls Tryz.prog 126 #[.pointer (some ⟨p, 0, none⟩), .string h] w fun e w' => ∃ q, e = .returned (.pointer (some ⟨q, 0, none⟩)) ∧ Blk w' q (lfC (leadL h t).1 (leadL h t).2) ∧ ∃ n, w' = w.drewN n := by
 have HN := Hd hn
 have HR := Hd hr
 clear hn hr
 go_enter Tryz.func126, Tryz.ntmps126
 go_wp2_with fail
 go_loopw [0] (fun nv wr => ∃ (p' m : Nat) (t' : Tr) (S' : Nat → Prop), nv = .pointer (some ⟨p', 0, none⟩) ∧ Nd wr S' p' t' ∧ Rise m t' ∧ leadL h t' = leadL h t ∧ ∃ n, wr = w.drewN n) (fun nv wr => 256 - atCell nv wr)
 case atStart => exact ⟨p, 0, t, S, rfl, uh HN, uh HR, rfl, 0, rfl⟩
 case round =>
  clear HN HR
  obtain ⟨p', m, t', S', rfl, hn, hr, hl, n, hw⟩ := hrel
  have HW := Hd hw
  have HL := Hd hl
  have HA := Hd (atCell_is hn.atC)
  clear hw hl
  cases hn with
  | leaf S' p' k v h0 h1 =>
   have x3 := h1.cell 3 rfl
   have X := Hd h1
   clear h1 hr HA
   go_wp2_with fail
   go_ret
   refine ⟨p', rfl, ?_, n, uh HW⟩
   rw [← uh HL]
   exact uh X
  | fork S' Sl Sr p' a hv l r pl pr h0 h1 h2 h3 h4 h5 h6 =>
   obtain ⟨r0, r1, r2, r3⟩ := hr
   have x3 := h4.cell 3 rfl
   have x4 := h4.cell 4 rfl
   have x5 := h4.cell 5 rfl
   have HB := Hd (fun wx => hashBit_any h a wx hh r1)
   have ha : (a : Int) < 256 := by omega
   have HE : Hid (leadL h (.fork a hv l r) = if bitN h a = 0 then leadL h l else leadL h r) := rfl
   have HN5 := Hd h5
   have HN6 := Hd h6
   clear h1 h2 h3 h4 h5 h6 h0
   rcases bitN_01 h a with hb | hb
   ·rw [hb] at HB HE
    rw [if_pos rfl] at HE
    go_wp2_with fail
    go_quiet (first | (go_at_call 128; exact Calls.quiet_of_same (uh HB _)))
    have N2 := Hd ((uh HN5).blw (below_drewN (Below.refl _ wr) nq))
    have HW2 : Hid (∃ n', wr.drewN nq = w.drewN n') := Hd ⟨n + nq, by rw [uh HW, World.drewN_drewN]⟩
    generalize wr.drewN nq = w2 at *
    go_wp2_with fail
    have hat := atCell_is (uh N2).atC
    have hle := r2.le
    have hle2 := r2.le256
    have hA := uh HA
    refine ⟨⟨pl, a + 1, l, Sl, rfl, uh N2, r2, ?_, uh HW2⟩, ?_⟩
    ·rw [← uh HL, uh HE]
    ·rw [hat, hA]; show 256 - l.at_ < 256 - a; omega
   ·rw [hb] at HB HE
    rw [if_neg (by omega)] at HE
    go_wp2_with fail
    go_quiet (first | (go_at_call 128; exact Calls.quiet_of_same (uh HB _)))
    have N2 := Hd ((uh HN6).blw (below_drewN (Below.refl _ wr) nq))
    have HW2 : Hid (∃ n', wr.drewN nq = w.drewN n') := Hd ⟨n + nq, by rw [uh HW, World.drewN_drewN]⟩
    generalize wr.drewN nq = w2 at *
    go_wp2_with fail
    have hat := atCell_is (uh N2).atC
    have hle := r3.le
    have hle2 := r3.le256
    have hA := uh HA
    refine ⟨⟨pr, a + 1, r, Sr, rfl, uh N2, r3, ?_, uh HW2⟩, ?_⟩
    ·rw [← uh HL, uh HE]
    ·rw [hat, hA]; show 256 - r.at_ < 256 - a; omega
end Go.Proofs.YtbchnheinnileaaGreatDoor.Sha
