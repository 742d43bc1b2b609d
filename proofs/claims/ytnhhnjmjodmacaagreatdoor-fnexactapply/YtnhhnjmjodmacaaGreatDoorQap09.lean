/- What the proof of the claim needs (joined by program): SpG MkA Bit Br. -/
import Derived.Test.YtnhhnjmjodmacaaGreatDoorQap08
import Derived.Test.YtnhhnjmjodmacaaGreatDoorQap00
import Derived.Test.YtnhhnjmjodmacaaGreatDoorQap03
import Derived.Laws.IdiomStrings
import Derived.WalkSpells
namespace Go.Proofs.YtnhhnjmjodmacaaGreatDoor
set_option maxRecDepth 100000
set_option maxHeartbeats 8000000
open Go.ChangeShapes Go.WideShapes Go.ChangeAt Go.RowKit
set_option linter.unusedVariables false
theorem heap_new {w : World} {o : Obj} {k : Nat} (h : w.heap.size = k) : (w.alloc o).heap[k]? = some o := by subst h; exact heap_alloc_new w o
theorem heap_old {w : World} {o : Obj} {k : Nat} (h : k < w.heap.size) : (w.alloc o).heap[k]? = w.heap[k]? := Below.heap_alloc w o k h
theorem own_lit {w : World} {B X n : Nat} {cs : Array Value} (h : w.heap[X]? = some (.cells cs 5 (0, 0))) (hB : B ≤ X) (hn : cs.size = n) (hm : n ≤ maxLen) : w.ownsRow B 5 1 (.slice (some ⟨X, 0, none⟩) n n) n cs.toList :=
 ⟨by simp [hn], .inr ⟨X, n, cs, rfl, hB, h, Nat.le_refl _, hm, by simp [hn], by rw [Nat.mul_one, ← hn, ← Array.length_toList, List.take_length]⟩⟩
theorem step_append_str {P : Program} (w : World) {ops : Array Oper} {o : Oper} {a : Act} {K : Act → World → Prop} {Q : Exit → Act → World → Prop} {E : Prop} (hgd : o.guard = none) (sl x : Operand) (t u : TypeId)
  (ho : o.op = .call { callee := .builtin .append, args := #[sl, x], argTypes := #[t, u] })
  (base : Nat) (e : TypeId) (i : TypeInfo) (ht : P.underlying t = some (.slice e)) (hu : P.underlying u = some .string) (hi : P.info? e = some i) (hz : i.zero = some (.int .u8 0)) (hsize : i.size = 1) (hby : i.bytes = 1)
  (v : Value) (n : Nat) (xs : List Value) (hs : a.eval sl = v) (hown : w.ownsRow base e 1 v n xs) (s : ByteArray) (hx : a.eval x = .string s) (hpos : 0 < n + s.size) (hb : n + s.size ≤ 140737488355328) (hbase : base ≤ w.heap.size)
  (h : ∀ g cap w', w'.ownsRow base e 1 (.slice (some ⟨g, 0, none⟩) (n + s.size) cap) (n + s.size) (xs ++ Lib.strCells s) → w.grownBy w' v.ownBlock → (v.ownBlock = some g ∨ g = w.heap.size) → K (a.put o.dst (.slice (some ⟨g, 0, none⟩) (n + s.size) cap)) w') :
  if Region.wanted o (yielded ops a.tmps) = true then Oper.wp P o a w K Q else E := by
 have hw : Region.wanted o (yielded ops a.tmps) = true := by simp [Region.wanted, hgd]
 rw [if_pos hw]
 obtain ⟨v', w', hr, h2, h3, h4⟩ := Lib.run_append_own_string (P := P) w base t u o.type e i ht hu hi hz hsize hby v n xs hown s (by unfold maxLen; omega) hb hbase
 unfold Oper.wp execOp
 simp only [ho, resolve, invoke, builtin, Sem.run_bind, Sem.run_pure, Result.andThen_ok, List.map_toArray, List.map_cons, List.map_nil, hs, hx, hr]
 obtain ⟨g, cap, rfl, _, _⟩ := h2.form hpos
 refine h g cap w' h2 h3 ?_
 rcases str_lies ht hu hi hz hsize hby hown hb hr h4 with e | e
 ·left; rw [← e]; rfl
 ·right; simpa [Value.ownBlock] using e

end Go.Proofs.YtnhhnjmjodmacaaGreatDoor
namespace Go.Proofs.YtnhhnjmjodmacaaGreatDoor.Sha
set_option maxRecDepth 100000
set_option maxHeartbeats 8000000
open Go.ChangeShapes Go.WideShapes Go.ChangeAt Go.RowKit
set_option linter.unusedVariables false
def Tab (w : World) : Prop := First w ∧ Table w
theorem Tab.below {w w' : World} (h : Tab w) (hb : Below w.heap.size w w') : Tab w' := ⟨h.1.below hb, h.2.below hb (Nat.le_refl _)⟩
theorem bytesI_append (a b : ByteArray) : bytesI (a ++ b) = bytesI a ++ bytesI b := by
 unfold bytesI; rw [ByteArray.data_append, Array.toList_append, List.map_append]
theorem str_bytesB (s : ByteArray) (w : World) (hs : s.size ≤ maxLen) : ∃ cap w1, (convert 9 127 (.string s)).run Tryz.prog w = .ok (.slice (some ⟨w.heap.size, 0, none⟩) s.size cap) w1 ∧ Bytes w1 (.slice (some ⟨w.heap.size, 0, none⟩) s.size cap) (bytesI s) ∧ Below w.heap.size w w1 := by
 refine ⟨grownCap w s.size 0 5, _, by rw [run_bytes_of_string w 9 127 5 s Tryz.underlying9 Tryz.underlying127 Tryz.underlying5], ?_, ?_⟩
 ·refine ⟨_, _, by rw [bytesI_len], by rw [bytesI_len]; exact hs, .inr ⟨w.heap.size, 0, rfl, by simp, fun i hi => ?_⟩, bytesI_range s⟩
  rw [bytesI_len] at hi
  have hb : (w.drew.alloc (.cells (bytesRow s (grownCap w s.size 0 5)) 5 ((bytesRow s (grownCap w s.size 0 5)).size, (bytesRow s (grownCap w s.size 0 5)).size + 1))).heap[w.heap.size]? = some (.cells (bytesRow s (grownCap w s.size 0 5)) 5 ((bytesRow s (grownCap w s.size 0 5)).size, (bytesRow s (grownCap w s.size 0 5)).size + 1)) := heap_alloc_new w.drew _
  rw [Nat.zero_add, cell_of_row _ _ _ _ _ _ hb]
  have hi' : i < s.data.size := hi
  unfold bytesRow bytesI
  rw [Array.getElem?_append_left (by simpa using hi')]
  rw [Array.getElem?_map, Array.getElem?_eq_getElem hi', List.getD_eq_getElem?_getD, List.getElem?_map, Array.getElem?_toList, Array.getElem?_eq_getElem hi']
  rfl
 ·exact ((Below.refl _ _).drew).alloc (Nat.le_refl _) _
def leafV (s : ByteArray) : ByteArray := hashV (0 :: bytesI s)
theorem hash_size {l : List Int} (h : l.length ≤ 65536) : (hashV l).size = 32 := by
 unfold hashV; rw [if_neg (by omega), strOfNums_size]; simp [textL]
theorem range_cons {x : Int} {xs : List Int} (h0 : 0 ≤ x) (h1 : x ≤ 255) (h : ∀ i, 0 ≤ xs.getD i 0 ∧ xs.getD i 0 ≤ 255) : ∀ i, 0 ≤ (x :: xs).getD i 0 ∧ (x :: xs).getD i 0 ≤ 255 := by
 intro i
 cases i with
 | zero => simp; omega
 | succ i => simpa using h i
theorem l06Leaf_any (a : ByteArray) (w : World) (ha : a.size ≤ 65535) :
  Calls Tryz.prog 91 #[.string a] w fun e w' => e = .returned (.string (leafV a)) ∧ Below w.heap.size w w' := by
 obtain ⟨i0, hi, hz0, hz1, hz2⟩ := info_parts info5
 have O0 : Hid ((w.alloc (.cells #[.int .u8 0] 5)).ownsRow w.heap.size 5 1 (.slice (some ⟨w.heap.size, 0, none⟩) 1 1) 1 [.int .u8 0]) := Hd (own_lit (heap_new rfl) (Nat.le_refl _) rfl (by unfold maxLen; omega))
 have B0 := Hd (bal w (.cells #[.int .u8 0] 5))
 have hlen : Hid ((0 :: bytesI a).length = 1 + a.size) := Hd (by simp [bytesI_len]; omega)
 have hV : Hid (leafV a = strOfNums (textL (stAt (0 :: bytesI a) (padLen (0 :: bytesI a).length / 64)))) := Hd (hashV_yes (by rw [uh hlen]; omega))
 go_enter Tryz.func91, Tryz.ntmps91
 go_wp2_with (at_builtin; refine wpList_append_str _ rfl _ _ _ _ rfl w.heap.size 5 i0 Tryz.underlying127 Tryz.underlying9 hi hz0 hz1 hz2 _ 1 _ rfl (uh O0) a rfl (by omega) (by omega) (by simp) ?_; intro g1 cap1 w1 hown1 hgrow1 hat1; have O1 := Hd hown1; have B1 := Hd ((uh B0).grown hgrow1 (by simp) (fun r hr => ((uh O0).lt r hr).1)); clear hown1 hgrow1 hat1)
 have hx : Bytes w1 (.slice (some ⟨g1, 0, none⟩) (0 :: bytesI a).length cap1) (0 :: bytesI a) := by
  refine OwnB.bytes (B := w.heap.size) ⟨?_, range_cons (by omega) (by omega) (bytesI_range a)⟩
  have h := uh O1
  rw [strCells_eq] at h
  rw [uh hlen]
  simpa using h
 have HL := Hd (l01Hash_any _ _ _ w1 hx (by rw [uh hlen]; omega))
 rw [uh hlen] at HL hV
 clear hx
 refine (uh HL).mono ?_
 rintro e w3 ⟨rfl, hb3⟩
 have K := hbt B1 hb3
 clear hb3
 rw [← uh hV]
 go_wp2_with fail
 go_ret
 exact ⟨rfl, uh K⟩
def leafOut (s : ByteArray) : Value := if 65535 < s.size then .tuple #[.string ⟨#[]⟩, .int .i64 2] else .tuple #[.string (leafV s), .int .i64 0]
theorem implLeaf_any (s : ByteArray) (w : World) (hs : s.size ≤ 1048576) (ht : Tab w) :
  Calls Tryz.prog 137 #[.string s] w fun e w' => e = .returned (leafOut s) ∧ Below w.heap.size w w' := by
 have HT := Hd ht
 clear ht
 by_cases h1 : 65535 < s.size
 ·have H : Hid (leafOut s = .tuple #[.string ⟨#[]⟩, .int .i64 2]) := Hd (if_pos h1)
  have h2 : (65536 : Int) ≤ (s.size : Int) := by omega
  go_enter Tryz.func137, Tryz.ntmps137
  go_wp2_with fail
  go_ret2
  exact ⟨by rw [uh H]; rfl, Below.refl _ _⟩
 ·have H : Hid (leafOut s = .tuple #[.string (leafV s), .int .i64 0]) := Hd (if_neg h1)
  have hsz : (ByteArray.mk #[0] ++ s).size = 1 + s.size := by rw [ByteArray.size_append]; rfl
  obtain ⟨cap, w1, hcv, hB, hb1⟩ := str_bytesB (ByteArray.mk #[0] ++ s) w (by rw [hsz]; unfold maxLen; omega)
  have HE : Hid (bytesI (ByteArray.mk #[0] ++ s) = 0 :: bytesI s) := Hd (by rw [bytesI_append]; rfl)
  rw [uh HE, hsz] at hB
  rw [hsz] at hcv
  have HB := Hd hB
  have HB1 := Hd hb1
  clear hB hb1 hsz
  have h2 : ¬ (65536 : Int) ≤ (s.size : Int) := by omega
  go_enter Tryz.func137, Tryz.ntmps137
  go_wp2_with fail
  refine (implHash_any _ _ w1 (uh HB) ((uh HT).below (uh HB1)).2 ((uh HT).below (uh HB1)).1).mono ?_
  rintro e w2 ⟨rfl, hb2⟩
  have K := hbt HB1 hb2
  clear hb2
  go_wp2_with fail
  go_ret2
  exact ⟨by rw [uh H]; rfl, uh K⟩
end Go.Proofs.YtnhhnjmjodmacaaGreatDoor.Sha
namespace Go.Proofs.YtnhhnjmjodmacaaGreatDoor
set_option maxRecDepth 100000
set_option maxHeartbeats 8000000
open Go.ChangeShapes Go.WideShapes Go.ChangeAt Go.RowKit
set_option linter.unusedVariables false
def bitOf (c : Int) (m : Nat) : Int := 48 + c / 2 ^ (7 - m) % 2
def bitL (s : ByteArray) : Nat → List Int
 | 0 => []
 | n + 1 => bitL s n ++ [bitOf (bAt s (n / 8)) (n % 8)]
theorem bitL_len (s : ByteArray) (k : Nat) : (bitL s k).length = k := by
 induction k with
 | zero => rfl
 | succ k ih => simp [bitL, ih]
def bitN (h : ByteArray) (i : Nat) : Int := bAt h (i / 8) / 2 ^ (7 - i % 8) % 2
theorem bitN_01 (h : ByteArray) (i : Nat) : bitN h i = 0 ∨ bitN h i = 1 := by unfold bitN; omega
theorem bitL_succ (h : ByteArray) (n : Nat) : bitL h (n + 1) = bitL h n ++ [48 + bitN h n] := rfl
theorem bitL_same (x y : ByteArray) (n : Nat) : bitL x n = bitL y n ↔ ∀ i, i < n → bitN x i = bitN y i := by
 induction n with
 | zero => simp [bitL]
 | succ n ih =>
  rw [bitL_succ, bitL_succ]
  constructor
  ·intro h i hi
   have hl : (bitL x n).length = (bitL y n).length := by rw [bitL_len, bitL_len]
   have h1 := (List.append_inj h hl).1
   have h2 := (List.append_inj h hl).2
   rcases Nat.lt_or_ge i n with h3 | h3
   ·exact ih.1 h1 i h3
   ·obtain rfl : i = n := by omega
    simp at h2; omega
  ·intro h
   rw [ih.2 (fun i hi => h i (by omega)), h n (by omega)]
theorem bits_zero (w : World) (s : ByteArray) : (w.alloc (Obj.cells #[] 5)).ownsRow w.heap.size 5 1 (Value.slice (some { block := w.heap.size, off := 0 }) 0 0) 0 (List.map (Value.int .u8) (bitL s 0)) :=
 World.ownsRow_made w #[] 0 (Nat.le_refl _) (by unfold maxLen; omega) rfl
theorem bits_step {s : ByteArray} {n : Nat} {x : Int} {w wr w1 : World} {o : Obj} {u v' : Value} (hx : bitOf (bAt s (n / 8)) (n % 8) = x)
  (hown : wr.ownsRow w.heap.size 5 1 u n ((bitL s n).map (Value.int .u8))) (hbel : Below w.heap.size w wr)
  (h1 : w1.ownsRow w.heap.size 5 1 v' (n + 1) ((bitL s n).map (Value.int .u8) ++ [.int .u8 x]))
  (hg : (wr.alloc o).grownBy w1 u.ownBlock) :
  w1.ownsRow w.heap.size 5 1 v' (n + 1) ((bitL s (n + 1)).map (Value.int .u8)) ∧ Below w.heap.size w w1 := by
 constructor
 ·rw [bitL, hx]; simpa using h1
 ·have hz := hbel.size
  refine (hbel.alloc (by omega) o).grown hg (by simp; omega) ?_
  intro r hr
  exact (hown.lt r hr).1

theorem and1 (x : Int) (h0 : 0 ≤ x) (h1 : x < 256) : (48 + bits BinOp.and IntKind.u8 x 1) % 256 = 48 + x % 2 := by
 have h := u8_and x 1 h0 h1 (by omega) (by omega)
 have e : x.toNat &&& (1 : Int).toNat = x.toNat % 2 := Nat.and_one_is_mod _
 rw [e] at h
 rw [h]; omega
theorem shr_lo (c : Int) (h : 0 ≤ c) (n : Nat) : 0 ≤ c / 2 ^ n := Int.ediv_nonneg h (Int.le_of_lt (Int.pow_pos (by omega)))
theorem shr_hi (c : Int) (h : 0 ≤ c) (h1 : c ≤ 255) (n : Nat) : c / 2 ^ n < 256 := by
 have := Int.ediv_le_self (2 ^ n) h
 omega
theorem bit_at (s : ByteArray) (k m : Nat) (h : m < 8) : bitOf (bAt s ((8 * k + m) / 8)) ((8 * k + m) % 8) = (48 + bits BinOp.and IntKind.u8 (bAt s k / 2 ^ (7 - m)) 1) % 256 := by
 have e1 : (8 * k + m) / 8 = k := by omega
 have e2 : (8 * k + m) % 8 = m := by omega
 rw [e1, e2, and1 _ (shr_lo _ (bAt_lo s k) _) (shr_hi _ (bAt_lo s k) (bAt_hi s k) _)]
 rfl
theorem and1i (x : Int) : bits BinOp.and IntKind.i64 x 1 = x % 2 := by
 have h1 : (BitVec.ofInt 64 1).toNat = 2 ^ 1 - 1 := by decide
 have key : (BitVec.ofInt 64 x &&& BitVec.ofInt 64 1).toNat = (x % ((2 ^ 64 : Nat) : Int)).toNat % 2 ^ 1 := by
  rw [BitVec.toNat_and, BitVec.toNat_ofInt, h1, Nat.and_two_pow_sub_one_eq_mod]
 show IntKind.i64.wrap ((BitVec.ofInt 64 x &&& BitVec.ofInt 64 1).toNat : Nat) = x % 2
 rw [key, IntKind.wrap_i64]
 omega
theorem wrap64_in (x : Int) (h0 : 0 ≤ x) (h1 : x < 256) : wrap64 x = x := by unfold wrap64; omega
theorem hashBit_any (h : ByteArray) (i : Nat) (w : World) (hs : h.size = 32) (hi : i < 256) :
  Calls Tryz.prog 114 #[.string h, .int .i64 i] w fun e w' => e = .returned (.int .i64 (bitN h i)) ∧ w' = w := by
 have hk8 : (0 : Int) ≤ (i : Int) / 8 := by omega
 have hk9 : (i : Int) / 8 < (h.size : Int) := by omega
 have e1 := bAt_eq h (i / 8) (by omega)
 have HV : Hid (bitN h i = bAt h (i / 8) / 2 ^ (7 - i % 8) % 2) := rfl
 go_enter Tryz.func114, Tryz.ntmps114
 go_wp2_with fail
 go_ret
 refine ⟨ret_int ?_, rfl⟩
 rw [uh HV, and1i, wrap64_in _ (shr_lo _ (bAt_lo h _) _) (shr_hi _ (bAt_lo h _) (bAt_hi h _) _)]
theorem l07Bit_any (h : ByteArray) (i : Nat) (w : World) (hs : h.size = 32) (hi : i < 256) :
  Calls Tryz.prog 105 #[.string h, .int .i64 i] w fun e w' => e = .returned (.int .i64 (bitN h i)) ∧ w' = w := by
 have hk8 : (0 : Int) ≤ (i : Int) / 8 := by omega
 have hk9 : (i : Int) / 8 < (h.size : Int) := by omega
 have e1 := bAt_eq h (i / 8) (by omega)
 have HV : Hid (bitN h i = bAt h (i / 8) / 2 ^ (7 - i % 8) % 2) := rfl
 go_enter Tryz.func105, Tryz.ntmps105
 go_wp2_with fail
 go_ret
 refine ⟨ret_int ?_, rfl⟩
 rw [uh HV, and1i, wrap64_in _ (shr_lo _ (bAt_lo h _) _) (shr_hi _ (bAt_lo h _) (bAt_hi h _) _)]
theorem l01Bits_any (s : ByteArray) (w : World) (hs : s.size ≤ 65536) :
  Calls Tryz.prog 104 #[.string s] w fun e w' => e = .returned (.string (strOfNums (bitL s (8 * s.size)))) ∧ Below w.heap.size w w' := by
 obtain ⟨i0, hi, hz0, hz1, hz2⟩ := info_parts info5
 go_enter Tryz.func104, Tryz.ntmps104
 go_wp2_with fail
 go_loopw [3, 4, 5] (fun v i _ wr => ∃ k : Nat, k ≤ s.size ∧ i = .int .i64 k ∧ wr.ownsRow w.heap.size 5 1 v (8 * k) ((bitL s (8 * k)).map (Value.int .u8)) ∧ Below w.heap.size w wr)
  (fun _ i _ _ => s.size - (intOf i).toNat)
 case atStart => exact ⟨0, Nat.zero_le _, rfl, bits_zero w s, (Below.refl _ _).alloc (Nat.le_refl _) _⟩
 case round =>
  obtain ⟨k, hk, rfl, hown, hbel⟩ := hrel
  by_cases hlt : k < s.size
  ·have hk0 : (0 : Int) ≤ (k : Int) := Int.natCast_nonneg _
   have hk1 : (k : Int) < (s.size : Int) := by omega
   go_wp2_with fail
   go_loopw [3, 5] (fun v j wr => ∃ m : Nat, m ≤ 8 ∧ j = .int .i64 (7 - (m : Int)) ∧ wr.ownsRow w.heap.size 5 1 v (8 * k + m) ((bitL s (8 * k + m)).map (Value.int .u8)) ∧ Below w.heap.size w wr)
    (fun _ j _ => (1 + intOf j).toNat)
   case atStart => exact ⟨0, Nat.zero_le _, rfl, hown, hbel⟩
   case round =>
    clear hown hbel
    obtain ⟨m, hm, rfl, hown, hbel⟩ := hrel
    have e1 := bAt_eq s k hlt
    have hc0 := bAt_lo s k
    have hc1 := bAt_hi s k
    by_cases hm8 : m < 8
    ·go_wp2_with (at_builtin; refine wpList_append_own _ rfl _ _ 127 rfl w.heap.size 5 i0 (.int .u8 0) 1 1 Tryz.underlying127 hi hz0 hz1 hz2 rfl (by decide) _ _ _ rfl (hown.alloc _) ⟨_, 0, none⟩ 1 1 [_] rfl rfl (World.news_of_block (cs := #[_]) (t := 5) (fr := (0, 0)) (heap_alloc_new _ _)) (by simp [Value.oneCell']) (by unfold maxLen; omega) (by omega) (by have := hbel.size; simp; omega) ?_; intro v' w3 hown1 hgrow hnil)
     have R := Hd (bits_step (n := 8 * k + m) (bit_at s k m hm8) hown hbel hown1 hgrow)
     clear hown1 hgrow hown hbel hnil
     refine ⟨⟨m + 1, by omega, by go_num, (uh R).1, (uh R).2⟩, ?_⟩
     simp [intOf]; omega
    ·obtain rfl : m = 8 := by omega
     clear e1
     go_wp2_with fail
     refine ⟨⟨k + 1, by omega, by go_num, hown, hbel⟩, ?_⟩
     simp [intOf]; omega
  ·obtain rfl : k = s.size := by omega
   have hc := conv_own (P := Tryz.prog) 127 9 5 Tryz.underlying127 Tryz.underlying5 Tryz.underlying9 hown
   go_wp2_with fail
   go_ret
   exact ⟨rfl, hbel⟩
end Go.Proofs.YtnhhnjmjodmacaaGreatDoor
namespace Go.Proofs.YtnhhnjmjodmacaaGreatDoor.Sha
set_option maxRecDepth 100000
set_option maxHeartbeats 8000000
open Go.ChangeShapes Go.WideShapes Go.ChangeAt Go.RowKit
set_option linter.unusedVariables false
inductive Br where
 | mk (key val : ByteArray) (at_ : Int) (kids : List Br)
def Br.key : Br → ByteArray | .mk k _ _ _ => k
def Br.val : Br → ByteArray | .mk _ v _ _ => v
def Br.at_ : Br → Int | .mk _ _ a _ => a
def Br.kids : Br → List Br | .mk _ _ _ l => l
instance : Inhabited Br := ⟨.mk ⟨#[]⟩ ⟨#[]⟩ 0 []⟩
inductive Brs (S : Nat → Prop) (w : World) : Value → List Br → Prop
 | nil (a : Option Addr) (cap : Nat) : cap ≤ maxLen → Brs S w (.slice a 0 cap) []
 | row (b off cap : Nat) (l : List Br) (kv : Nat → Value) : 0 < l.length → l.length ≤ cap → cap ≤ maxLen → b < w.heap.size → S b →
   (∀ i, i < l.length → w.cell? ⟨b, off + i * 4, none⟩ = some (.string (l.getD i default).key) ∧ w.cell? ⟨b, off + i * 4 + 1, none⟩ = some (.string (l.getD i default).val) ∧ w.cell? ⟨b, off + i * 4 + 2, none⟩ = some (.int .i64 (l.getD i default).at_) ∧ w.cell? ⟨b, off + i * 4 + 3, none⟩ = some (kv i)) →
   (∀ i, i < l.length → (l.getD i default).key.size ≤ maxLen ∧ (l.getD i default).val.size ≤ maxLen) →
   (∀ i, i < l.length → Brs S w (kv i) (l.getD i default).kids) →
   Brs S w (.slice (some ⟨b, off, none⟩) l.length cap) l
theorem Brs.kept {S : Nat → Prop} {w w' : World} {v : Value} {l : List Br} (h : Brs S w v l) (hs : w.heap.size ≤ w'.heap.size) (hk : ∀ k, k < w.heap.size → S k → w'.heap[k]? = w.heap[k]?) : Brs S w' v l := by
 induction h with
 | nil a cap hc => exact .nil a cap hc
 | row b off cap l kv h0 h1 h2 h3 h4 h5 h6 h7 ih =>
  have e : ∀ j, w'.cell? ⟨b, j, none⟩ = w.cell? ⟨b, j, none⟩ := fun j => World.cell?_of_block (w := w) (hk b h3 h4)
  exact .row b off cap l kv h0 h1 h2 (Nat.lt_of_lt_of_le h3 hs) h4 (fun i hi => ⟨(e _).trans (h5 i hi).1, (e _).trans (h5 i hi).2.1, (e _).trans (h5 i hi).2.2.1, (e _).trans (h5 i hi).2.2.2⟩) h6 ih
theorem Brs.blw {S : Nat → Prop} {w w' : World} {v : Value} {l : List Br} (h : Brs S w v l) (hb : Below w.heap.size w w') : Brs S w' v l := h.kept hb.size (fun k hk _ => hb.block k hk)
theorem Brs.touch {S T : Nat → Prop} {w w' : World} {v : Value} {l : List Br} (h : Brs S w v l) (ht : Touch T w w') (hn : ∀ k, S k → ¬ T k) : Brs S w' v l := h.kept ht.size (fun k hk hs => ht.block k hk (hn k hs))
theorem Brs.mono {S T : Nat → Prop} {w : World} {v : Value} {l : List Br} (h : Brs S w v l) (hst : ∀ k, S k → T k) : Brs T w v l := by
 induction h with
 | nil a cap hc => exact .nil a cap hc
 | row b off cap l kv h0 h1 h2 h3 h4 h5 h6 h7 ih => exact .row b off cap l kv h0 h1 h2 h3 (hst b h4) h5 h6 ih
theorem Brs.shape {S : Nat → Prop} {w : World} {v : Value} {l : List Br} (h : Brs S w v l) : ∃ a cap, v = .slice a l.length cap ∧ l.length ≤ cap ∧ cap ≤ maxLen := by
 cases h with
 | nil a cap hc => exact ⟨a, cap, rfl, Nat.zero_le _, hc⟩
 | row b off cap l kv h0 h1 h2 => exact ⟨_, cap, rfl, h1, h2⟩
structure BrAt (S : Nat → Prop) (w : World) (b off : Nat) (l : List Br) (kv : Nat → Value) : Prop where
 lt : b < w.heap.size
 here : S b
 cells : ∀ i, i < l.length → w.cell? ⟨b, off + i * 4, none⟩ = some (.string (l.getD i default).key) ∧ w.cell? ⟨b, off + i * 4 + 1, none⟩ = some (.string (l.getD i default).val) ∧ w.cell? ⟨b, off + i * 4 + 2, none⟩ = some (.int .i64 (l.getD i default).at_) ∧ w.cell? ⟨b, off + i * 4 + 3, none⟩ = some (kv i)
 small : ∀ i, i < l.length → (l.getD i default).key.size ≤ maxLen ∧ (l.getD i default).val.size ≤ maxLen
 kids : ∀ i, i < l.length → Brs S w (kv i) (l.getD i default).kids
theorem Brs.at {S : Nat → Prop} {w : World} {a : Option Addr} {n cap : Nat} {l : List Br} (h : Brs S w (.slice a n cap) l) (h0 : 0 < l.length) : ∃ b off kv, a = some ⟨b, off, none⟩ ∧ n = l.length ∧ BrAt S w b off l kv := by
 cases h with
 | nil a cap hc => simp at h0
 | row b off cap l kv h0 h1 h2 h3 h4 h5 h6 h7 => exact ⟨b, off, kv, rfl, rfl, h3, h4, h5, h6, h7⟩
mutual
def Br.wt : Br → Int
 | .mk k v _ l => (k.size : Int) + (v.size : Int) + wtL l
def wtL : List Br → Int
 | [] => 0
 | b :: r => 1 + Br.wt b + wtL r
end
mutual
theorem Br.wt_lo : ∀ b : Br, 0 ≤ b.wt
 | .mk k v _ l => by unfold Br.wt; have := wtL_lo l; omega
theorem wtL_lo : ∀ l : List Br, 0 ≤ wtL l
 | [] => by unfold wtL; omega
 | b :: r => by unfold wtL; have := Br.wt_lo b; have := wtL_lo r; omega
end
theorem Br.wt_eq (b : Br) : b.wt = (b.key.size : Int) + (b.val.size : Int) + wtL b.kids := by cases b; unfold Br.wt; rfl
def wtS : List Br → Int
 | [] => 0
 | b :: r => b.wt + wtS r
theorem wtS_lo : ∀ l : List Br, 0 ≤ wtS l
 | [] => by unfold wtS; omega
 | b :: r => by unfold wtS; have := Br.wt_lo b; have := wtS_lo r; omega
theorem wtL_eq : ∀ l : List Br, wtL l = (l.length : Int) + wtS l
 | [] => by unfold wtL wtS; simp
 | b :: r => by unfold wtL wtS; rw [wtL_eq r]; simp; omega
theorem wtS_drop : ∀ (l : List Br) (k : Nat), k < l.length → wtS (l.drop k) = (l.getD k default).wt + wtS (l.drop (k + 1))
 | [], k, h => by simp at h
 | b :: r, 0, h => by simp [wtS]
 | b :: r, k + 1, h => by
  have := wtS_drop r k (by simpa using h)
  simpa using this
theorem wtS_le : ∀ (l : List Br) (k : Nat), wtS (l.drop k) ≤ wtS l
 | [], k => by simp
 | b :: r, 0 => by simp
 | b :: r, k + 1 => by
  have := wtS_le r k
  have := Br.wt_lo b
  simp only [List.drop_succ_cons, wtS]; omega
theorem wtS_end (l : List Br) : wtS (l.drop l.length) = 0 := by simp [wtS]
theorem kid_wt (l : List Br) (k : Nat) (h : k < l.length) : (l.getD k default).wt ≤ wtS l := by
 have h1 := wtS_drop l k h
 have h2 := wtS_le l k
 have h3 := wtS_lo (l.drop (k + 1))
 omega
def szB (L x : Int) : Int := if x ≤ L then L - x else -1
theorem szB_cases (L x : Int) (h : 0 ≤ x) : szB L x = -1 ∨ (0 ≤ szB L x ∧ szB L x ≤ L ∧ x ≤ L) := by
 unfold szB; split
 ·right; omega
 ·left; rfl
end Go.Proofs.YtnhhnjmjodmacaaGreatDoor.Sha
