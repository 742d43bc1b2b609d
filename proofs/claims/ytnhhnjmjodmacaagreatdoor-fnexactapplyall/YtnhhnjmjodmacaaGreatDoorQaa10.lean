/- What the proof of the claim needs (joined by program): SpG MkA Bit Br BrP BrK BrF. -/
import Derived.Test.YtnhhnjmjodmacaaGreatDoorQaa09
import Derived.Test.YtnhhnjmjodmacaaGreatDoorQaa00
import Derived.Test.YtnhhnjmjodmacaaGreatDoorQaa02
import Derived.Test.YtnhhnjmjodmacaaGreatDoorQaa07
import Derived.Laws.IdiomStrings
import Derived.WalkSpells
import Derived.Deep.RegionHeld3
import Derived.BigQuiet
import Derived.Lib.BitFns
import Derived.Laws.BitsAllLaws
namespace Go.Proofs.YtnhhnjmjodmacaaGreatDoor
set_option maxRecDepth 100000
set_option maxHeartbeats 8000000
open Go.ChangeShapes Go.WideShapes Go.ChangeAt Go.RowKit
set_option linter.unusedVariables false
theorem heap_new {w : World} {o : Obj} {k : Nat} (h : w.heap.size = k) : (w.alloc o).heap[k]? = some o := by subst h; exact heap_alloc_new w o
theorem heap_old {w : World} {o : Obj} {k : Nat} (h : k < w.heap.size) : (w.alloc o).heap[k]? = w.heap[k]? := Below.heap_alloc w o k h
theorem own_lit {w : World} {B X n : Nat} {cs : Array Value} (h : w.heap[X]? = some (.cells cs 5 (0, 0))) (hB : B ≤ X) (hn : cs.size = n) (hm : n ≤ maxLen) : w.ownsRow B 5 1 (.slice (some ⟨X, 0, none⟩) n n) n cs.toList :=
 ⟨by simp [hn], .inr ⟨X, n, cs, rfl, hB, h, Nat.le_refl _, hm, by simp [hn], by rw [Nat.mul_one, ← hn, ← Array.length_toList, List.take_length]⟩⟩
theorem step_append_str {P : Program} (w : World) {ops : Array Oper} {o : Oper} {a : Act} {K : Act → World → Prop} {Q : Exit → Act → World → Prop} {E : Prop} (hgd : o.guard = none) (sl x : Operand) (t u : TypeId)
  (ho : o.op = .call { callee := .builtin .append, args := #[sl, x], argTypes := #[t, u] })
  (base : Nat) (e : TypeId) (i : TypeInfo) (ht : P.underlying t = some (.slice e)) (hu : P.underlying u = some .string) (hi : P.info? e = some i) (hz : i.zero = some (.int .u8 0)) (hsize : i.size = 1) (hby : i.bytes = 1)
  (v : Value) (n : Nat) (xs : List Value) (hs : a.eval sl = v) (hown : w.ownsRow base e 1 v n xs) (s : ByteArray) (hx : a.eval x = .string s) (hpos : 0 < n + s.size) (hb : n + s.size ≤ 140737488355328) (hbase : base ≤ w.heap.size)
  (h : ∀ g cap w', w'.ownsRow base e 1 (.slice (some ⟨g, 0, none⟩) (n + s.size) cap) (n + s.size) (xs ++ Lib.strCells s) → w.grownBy w' v.ownBlock → (v.ownBlock = some g ∨ g = w.heap.size) → K (a.put o.dst (.slice (some ⟨g, 0, none⟩) (n + s.size) cap)) w') :
  if Region.wanted o (yielded ops a.tmps) = true then Oper.wp P o a w K Q else E := by
 have hw : Region.wanted o (yielded ops a.tmps) = true := by simp [Region.wanted, hgd]
 rw [if_pos hw]
 obtain ⟨v', w', hr, h2, h3, h4⟩ := Lib.run_append_own_string (P := P) w base t u o.type e i ht hu hi hz hsize hby v n xs hown s (by unfold maxLen; omega) hb hbase
 unfold Oper.wp execOp
 simp only [ho, resolve, invoke, builtin, Sem.run_bind, Sem.run_pure, Result.andThen_ok, List.map_toArray, List.map_cons, List.map_nil, hs, hx, hr]
 obtain ⟨g, cap, rfl, _, _⟩ := h2.form hpos
 refine h g cap w' h2 h3 ?_
 rcases str_lies ht hu hi hz hsize hby hown hb hr h4 with e | e
 ·left; rw [← e]; rfl
 ·right; simpa [Value.ownBlock] using e

end Go.Proofs.YtnhhnjmjodmacaaGreatDoor
namespace Go.Proofs.YtnhhnjmjodmacaaGreatDoor.Sha
set_option maxRecDepth 100000
set_option maxHeartbeats 8000000
open Go.ChangeShapes Go.WideShapes Go.ChangeAt Go.RowKit
set_option linter.unusedVariables false
def Tab (w : World) : Prop := First w ∧ Table w
theorem Tab.below {w w' : World} (h : Tab w) (hb : Below w.heap.size w w') : Tab w' := ⟨h.1.below hb, h.2.below hb (Nat.le_refl _)⟩
theorem bytesI_append (a b : ByteArray) : bytesI (a ++ b) = bytesI a ++ bytesI b := by
 unfold bytesI; rw [ByteArray.data_append, Array.toList_append, List.map_append]
theorem str_bytesB (s : ByteArray) (w : World) (hs : s.size ≤ maxLen) : ∃ cap w1, (convert 9 127 (.string s)).run Tryz.prog w = .ok (.slice (some ⟨w.heap.size, 0, none⟩) s.size cap) w1 ∧ Bytes w1 (.slice (some ⟨w.heap.size, 0, none⟩) s.size cap) (bytesI s) ∧ Below w.heap.size w w1 := by
 refine ⟨grownCap w s.size 0 5, _, by rw [run_bytes_of_string w 9 127 5 s Tryz.underlying9 Tryz.underlying127 Tryz.underlying5], ?_, ?_⟩
 ·refine ⟨_, _, by rw [bytesI_len], by rw [bytesI_len]; exact hs, .inr ⟨w.heap.size, 0, rfl, by simp, fun i hi => ?_⟩, bytesI_range s⟩
  rw [bytesI_len] at hi
  have hb : (w.drew.alloc (.cells (bytesRow s (grownCap w s.size 0 5)) 5 ((bytesRow s (grownCap w s.size 0 5)).size, (bytesRow s (grownCap w s.size 0 5)).size + 1))).heap[w.heap.size]? = some (.cells (bytesRow s (grownCap w s.size 0 5)) 5 ((bytesRow s (grownCap w s.size 0 5)).size, (bytesRow s (grownCap w s.size 0 5)).size + 1)) := heap_alloc_new w.drew _
  rw [Nat.zero_add, cell_of_row _ _ _ _ _ _ hb]
  have hi' : i < s.data.size := hi
  unfold bytesRow bytesI
  rw [Array.getElem?_append_left (by simpa using hi')]
  rw [Array.getElem?_map, Array.getElem?_eq_getElem hi', List.getD_eq_getElem?_getD, List.getElem?_map, Array.getElem?_toList, Array.getElem?_eq_getElem hi']
  rfl
 ·exact ((Below.refl _ _).drew).alloc (Nat.le_refl _) _
def leafV (s : ByteArray) : ByteArray := hashV (0 :: bytesI s)
theorem hash_size {l : List Int} (h : l.length ≤ 65536) : (hashV l).size = 32 := by
 unfold hashV; rw [if_neg (by omega), strOfNums_size]; simp [textL]
theorem range_cons {x : Int} {xs : List Int} (h0 : 0 ≤ x) (h1 : x ≤ 255) (h : ∀ i, 0 ≤ xs.getD i 0 ∧ xs.getD i 0 ≤ 255) : ∀ i, 0 ≤ (x :: xs).getD i 0 ∧ (x :: xs).getD i 0 ≤ 255 := by
 intro i
 cases i with
 | zero => simp; omega
 | succ i => simpa using h i
theorem l06Leaf_any (a : ByteArray) (w : World) (ha : a.size ≤ 65535) :
  Calls Tryz.prog 91 #[.string a] w fun e w' => e = .returned (.string (leafV a)) ∧ Below w.heap.size w w' := by
 obtain ⟨i0, hi, hz0, hz1, hz2⟩ := info_parts info5
 have O0 : Hid ((w.alloc (.cells #[.int .u8 0] 5)).ownsRow w.heap.size 5 1 (.slice (some ⟨w.heap.size, 0, none⟩) 1 1) 1 [.int .u8 0]) := Hd (own_lit (heap_new rfl) (Nat.le_refl _) rfl (by unfold maxLen; omega))
 have B0 := Hd (bal w (.cells #[.int .u8 0] 5))
 have hlen : Hid ((0 :: bytesI a).length = 1 + a.size) := Hd (by simp [bytesI_len]; omega)
 have hV : Hid (leafV a = strOfNums (textL (stAt (0 :: bytesI a) (padLen (0 :: bytesI a).length / 64)))) := Hd (hashV_yes (by rw [uh hlen]; omega))
 go_enter Tryz.func91, Tryz.ntmps91
 go_wp2_with (at_builtin; refine wpList_append_str _ rfl _ _ _ _ rfl w.heap.size 5 i0 Tryz.underlying127 Tryz.underlying9 hi hz0 hz1 hz2 _ 1 _ rfl (uh O0) a rfl (by omega) (by omega) (by simp) ?_; intro g1 cap1 w1 hown1 hgrow1 hat1; have O1 := Hd hown1; have B1 := Hd ((uh B0).grown hgrow1 (by simp) (fun r hr => ((uh O0).lt r hr).1)); clear hown1 hgrow1 hat1)
 have hx : Bytes w1 (.slice (some ⟨g1, 0, none⟩) (0 :: bytesI a).length cap1) (0 :: bytesI a) := by
  refine OwnB.bytes (B := w.heap.size) ⟨?_, range_cons (by omega) (by omega) (bytesI_range a)⟩
  have h := uh O1
  rw [strCells_eq] at h
  rw [uh hlen]
  simpa using h
 have HL := Hd (l01Hash_any _ _ _ w1 hx (by rw [uh hlen]; omega))
 rw [uh hlen] at HL hV
 clear hx
 refine (uh HL).mono ?_
 rintro e w3 ⟨rfl, hb3⟩
 have K := hbt B1 hb3
 clear hb3
 rw [← uh hV]
 go_wp2_with fail
 go_ret
 exact ⟨rfl, uh K⟩
def leafOut (s : ByteArray) : Value := if 65535 < s.size then .tuple #[.string ⟨#[]⟩, .int .i64 2] else .tuple #[.string (leafV s), .int .i64 0]
theorem implLeaf_any (s : ByteArray) (w : World) (hs : s.size ≤ 1048576) (ht : Tab w) :
  Calls Tryz.prog 137 #[.string s] w fun e w' => e = .returned (leafOut s) ∧ Below w.heap.size w w' := by
 have HT := Hd ht
 clear ht
 by_cases h1 : 65535 < s.size
 ·have H : Hid (leafOut s = .tuple #[.string ⟨#[]⟩, .int .i64 2]) := Hd (if_pos h1)
  have h2 : (65536 : Int) ≤ (s.size : Int) := by omega
  go_enter Tryz.func137, Tryz.ntmps137
  go_wp2_with fail
  go_ret2
  exact ⟨by rw [uh H]; rfl, Below.refl _ _⟩
 ·have H : Hid (leafOut s = .tuple #[.string (leafV s), .int .i64 0]) := Hd (if_neg h1)
  have hsz : (ByteArray.mk #[0] ++ s).size = 1 + s.size := by rw [ByteArray.size_append]; rfl
  obtain ⟨cap, w1, hcv, hB, hb1⟩ := str_bytesB (ByteArray.mk #[0] ++ s) w (by rw [hsz]; unfold maxLen; omega)
  have HE : Hid (bytesI (ByteArray.mk #[0] ++ s) = 0 :: bytesI s) := Hd (by rw [bytesI_append]; rfl)
  rw [uh HE, hsz] at hB
  rw [hsz] at hcv
  have HB := Hd hB
  have HB1 := Hd hb1
  clear hB hb1 hsz
  have h2 : ¬ (65536 : Int) ≤ (s.size : Int) := by omega
  go_enter Tryz.func137, Tryz.ntmps137
  go_wp2_with fail
  refine (implHash_any _ _ w1 (uh HB) ((uh HT).below (uh HB1)).2 ((uh HT).below (uh HB1)).1).mono ?_
  rintro e w2 ⟨rfl, hb2⟩
  have K := hbt HB1 hb2
  clear hb2
  go_wp2_with fail
  go_ret2
  exact ⟨by rw [uh H]; rfl, uh K⟩
end Go.Proofs.YtnhhnjmjodmacaaGreatDoor.Sha
namespace Go.Proofs.YtnhhnjmjodmacaaGreatDoor
set_option maxRecDepth 100000
set_option maxHeartbeats 8000000
open Go.ChangeShapes Go.WideShapes Go.ChangeAt Go.RowKit
set_option linter.unusedVariables false
def bitOf (c : Int) (m : Nat) : Int := 48 + c / 2 ^ (7 - m) % 2
def bitL (s : ByteArray) : Nat → List Int
 | 0 => []
 | n + 1 => bitL s n ++ [bitOf (bAt s (n / 8)) (n % 8)]
def bitN (h : ByteArray) (i : Nat) : Int := bAt h (i / 8) / 2 ^ (7 - i % 8) % 2
theorem bitN_01 (h : ByteArray) (i : Nat) : bitN h i = 0 ∨ bitN h i = 1 := by unfold bitN; omega
theorem shr_lo (c : Int) (h : 0 ≤ c) (n : Nat) : 0 ≤ c / 2 ^ n := Int.ediv_nonneg h (Int.le_of_lt (Int.pow_pos (by omega)))
theorem shr_hi (c : Int) (h : 0 ≤ c) (h1 : c ≤ 255) (n : Nat) : c / 2 ^ n < 256 := by
 have := Int.ediv_le_self (2 ^ n) h
 omega
theorem and1i (x : Int) : bits BinOp.and IntKind.i64 x 1 = x % 2 := by
 have h1 : (BitVec.ofInt 64 1).toNat = 2 ^ 1 - 1 := by decide
 have key : (BitVec.ofInt 64 x &&& BitVec.ofInt 64 1).toNat = (x % ((2 ^ 64 : Nat) : Int)).toNat % 2 ^ 1 := by
  rw [BitVec.toNat_and, BitVec.toNat_ofInt, h1, Nat.and_two_pow_sub_one_eq_mod]
 show IntKind.i64.wrap ((BitVec.ofInt 64 x &&& BitVec.ofInt 64 1).toNat : Nat) = x % 2
 rw [key, IntKind.wrap_i64]
 omega
theorem wrap64_in (x : Int) (h0 : 0 ≤ x) (h1 : x < 256) : wrap64 x = x := by unfold wrap64; omega
theorem hashBit_any (h : ByteArray) (i : Nat) (w : World) (hs : h.size = 32) (hi : i < 256) :
  Calls Tryz.prog 114 #[.string h, .int .i64 i] w fun e w' => e = .returned (.int .i64 (bitN h i)) ∧ w' = w := by
 have hk8 : (0 : Int) ≤ (i : Int) / 8 := by omega
 have hk9 : (i : Int) / 8 < (h.size : Int) := by omega
 have e1 := bAt_eq h (i / 8) (by omega)
 have HV : Hid (bitN h i = bAt h (i / 8) / 2 ^ (7 - i % 8) % 2) := rfl
 go_enter Tryz.func114, Tryz.ntmps114
 go_wp2_with fail
 go_ret
 refine ⟨ret_int ?_, rfl⟩
 rw [uh HV, and1i, wrap64_in _ (shr_lo _ (bAt_lo h _) _) (shr_hi _ (bAt_lo h _) (bAt_hi h _) _)]
theorem l07Bit_any (h : ByteArray) (i : Nat) (w : World) (hs : h.size = 32) (hi : i < 256) :
  Calls Tryz.prog 105 #[.string h, .int .i64 i] w fun e w' => e = .returned (.int .i64 (bitN h i)) ∧ w' = w := by
 have hk8 : (0 : Int) ≤ (i : Int) / 8 := by omega
 have hk9 : (i : Int) / 8 < (h.size : Int) := by omega
 have e1 := bAt_eq h (i / 8) (by omega)
 have HV : Hid (bitN h i = bAt h (i / 8) / 2 ^ (7 - i % 8) % 2) := rfl
 go_enter Tryz.func105, Tryz.ntmps105
 go_wp2_with fail
 go_ret
 refine ⟨ret_int ?_, rfl⟩
 rw [uh HV, and1i, wrap64_in _ (shr_lo _ (bAt_lo h _) _) (shr_hi _ (bAt_lo h _) (bAt_hi h _) _)]
end Go.Proofs.YtnhhnjmjodmacaaGreatDoor
namespace Go.Proofs.YtnhhnjmjodmacaaGreatDoor.Sha
set_option maxRecDepth 100000
set_option maxHeartbeats 8000000
open Go.ChangeShapes Go.WideShapes Go.ChangeAt Go.RowKit
set_option linter.unusedVariables false
inductive Br where
 | mk (key val : ByteArray) (at_ : Int) (kids : List Br)
def Br.key : Br → ByteArray | .mk k _ _ _ => k
def Br.val : Br → ByteArray | .mk _ v _ _ => v
def Br.at_ : Br → Int | .mk _ _ a _ => a
def Br.kids : Br → List Br | .mk _ _ _ l => l
instance : Inhabited Br := ⟨.mk ⟨#[]⟩ ⟨#[]⟩ 0 []⟩
inductive Brs (S : Nat → Prop) (w : World) : Value → List Br → Prop
 | nil (a : Option Addr) (cap : Nat) : cap ≤ maxLen → Brs S w (.slice a 0 cap) []
 | row (b off cap : Nat) (l : List Br) (kv : Nat → Value) : 0 < l.length → l.length ≤ cap → cap ≤ maxLen → b < w.heap.size → S b →
   (∀ i, i < l.length → w.cell? ⟨b, off + i * 4, none⟩ = some (.string (l.getD i default).key) ∧ w.cell? ⟨b, off + i * 4 + 1, none⟩ = some (.string (l.getD i default).val) ∧ w.cell? ⟨b, off + i * 4 + 2, none⟩ = some (.int .i64 (l.getD i default).at_) ∧ w.cell? ⟨b, off + i * 4 + 3, none⟩ = some (kv i)) →
   (∀ i, i < l.length → (l.getD i default).key.size ≤ maxLen ∧ (l.getD i default).val.size ≤ maxLen) →
   (∀ i, i < l.length → Brs S w (kv i) (l.getD i default).kids) →
   Brs S w (.slice (some ⟨b, off, none⟩) l.length cap) l
theorem Brs.kept {S : Nat → Prop} {w w' : World} {v : Value} {l : List Br} (h : Brs S w v l) (hs : w.heap.size ≤ w'.heap.size) (hk : ∀ k, k < w.heap.size → S k → w'.heap[k]? = w.heap[k]?) : Brs S w' v l := by
 induction h with
 | nil a cap hc => exact .nil a cap hc
 | row b off cap l kv h0 h1 h2 h3 h4 h5 h6 h7 ih =>
  have e : ∀ j, w'.cell? ⟨b, j, none⟩ = w.cell? ⟨b, j, none⟩ := fun j => World.cell?_of_block (w := w) (hk b h3 h4)
  exact .row b off cap l kv h0 h1 h2 (Nat.lt_of_lt_of_le h3 hs) h4 (fun i hi => ⟨(e _).trans (h5 i hi).1, (e _).trans (h5 i hi).2.1, (e _).trans (h5 i hi).2.2.1, (e _).trans (h5 i hi).2.2.2⟩) h6 ih
theorem Brs.blw {S : Nat → Prop} {w w' : World} {v : Value} {l : List Br} (h : Brs S w v l) (hb : Below w.heap.size w w') : Brs S w' v l := h.kept hb.size (fun k hk _ => hb.block k hk)
theorem Brs.touch {S T : Nat → Prop} {w w' : World} {v : Value} {l : List Br} (h : Brs S w v l) (ht : Touch T w w') (hn : ∀ k, S k → ¬ T k) : Brs S w' v l := h.kept ht.size (fun k hk hs => ht.block k hk (hn k hs))
theorem Brs.mono {S T : Nat → Prop} {w : World} {v : Value} {l : List Br} (h : Brs S w v l) (hst : ∀ k, S k → T k) : Brs T w v l := by
 induction h with
 | nil a cap hc => exact .nil a cap hc
 | row b off cap l kv h0 h1 h2 h3 h4 h5 h6 h7 ih => exact .row b off cap l kv h0 h1 h2 h3 (hst b h4) h5 h6 ih
theorem Brs.shape {S : Nat → Prop} {w : World} {v : Value} {l : List Br} (h : Brs S w v l) : ∃ a cap, v = .slice a l.length cap ∧ l.length ≤ cap ∧ cap ≤ maxLen := by
 cases h with
 | nil a cap hc => exact ⟨a, cap, rfl, Nat.zero_le _, hc⟩
 | row b off cap l kv h0 h1 h2 => exact ⟨_, cap, rfl, h1, h2⟩
structure BrAt (S : Nat → Prop) (w : World) (b off : Nat) (l : List Br) (kv : Nat → Value) : Prop where
 lt : b < w.heap.size
 here : S b
 cells : ∀ i, i < l.length → w.cell? ⟨b, off + i * 4, none⟩ = some (.string (l.getD i default).key) ∧ w.cell? ⟨b, off + i * 4 + 1, none⟩ = some (.string (l.getD i default).val) ∧ w.cell? ⟨b, off + i * 4 + 2, none⟩ = some (.int .i64 (l.getD i default).at_) ∧ w.cell? ⟨b, off + i * 4 + 3, none⟩ = some (kv i)
 small : ∀ i, i < l.length → (l.getD i default).key.size ≤ maxLen ∧ (l.getD i default).val.size ≤ maxLen
 kids : ∀ i, i < l.length → Brs S w (kv i) (l.getD i default).kids
theorem Brs.at {S : Nat → Prop} {w : World} {a : Option Addr} {n cap : Nat} {l : List Br} (h : Brs S w (.slice a n cap) l) (h0 : 0 < l.length) : ∃ b off kv, a = some ⟨b, off, none⟩ ∧ n = l.length ∧ BrAt S w b off l kv := by
 cases h with
 | nil a cap hc => simp at h0
 | row b off cap l kv h0 h1 h2 h3 h4 h5 h6 h7 => exact ⟨b, off, kv, rfl, rfl, h3, h4, h5, h6, h7⟩
def kh (k : ByteArray) : ByteArray := hashV (bytesI k)
inductive Tr where
 | leaf (key val : ByteArray)
 | fork (a : Nat) (hash : ByteArray) (l r : Tr)
deriving Inhabited
def Tr.hash : Tr → ByteArray
 | .leaf k _ => kh k
 | .fork _ h _ _ => h
def fdF (x y : ByteArray) : Nat → Nat → Nat
 | 0, i => i
 | n + 1, i => if bitN x i = bitN y i then fdF x y n (i + 1) else i
theorem fdF_facts (x y : ByteArray) : ∀ n i, i ≤ fdF x y n i ∧ fdF x y n i ≤ i + n ∧ (∀ j, i ≤ j → j < fdF x y n i → bitN x j = bitN y j) ∧ (fdF x y n i < i + n → bitN x (fdF x y n i) ≠ bitN y (fdF x y n i))
 | 0, i => ⟨Nat.le_refl _, Nat.le_refl _, fun j h1 h2 => by simp [fdF] at h2; omega, fun h => by simp [fdF] at h⟩
 | n + 1, i => by
  unfold fdF
  split
  ·rename_i h
   obtain ⟨h1, h2, h3, h4⟩ := fdF_facts x y n (i + 1)
   refine ⟨by omega, by omega, fun j a b => ?_, fun a => h4 (by omega)⟩
   rcases Nat.lt_or_ge i j with c | c
   ·exact h3 j (by omega) b
   ·obtain rfl : j = i := by omega
    exact h
  ·rename_i h
   exact ⟨Nat.le_refl _, by omega, fun j a b => by omega, fun _ => h⟩
def fd (x y : ByteArray) : Nat := fdF x y 256 0
theorem fd_le (x y : ByteArray) : fd x y ≤ 256 := by have := (fdF_facts x y 256 0).2.1; unfold fd; omega
theorem fd_iff (x y : ByteArray) (a : Nat) (ha : a < 256) : fd x y = a ↔ (∀ i, i < a → bitN x i = bitN y i) ∧ bitN x a ≠ bitN y a := by
 obtain ⟨_, h2, h3, h4⟩ := fdF_facts x y 256 0
 unfold fd
 constructor
 ·intro e
  rw [e] at h3 h4
  exact ⟨fun i hi => h3 i (by omega) hi, h4 (by omega)⟩
 ·rintro ⟨h, hn⟩
  generalize fdF x y 256 0 = q at *
  rcases Nat.lt_trichotomy q a with c | c | c
  ·exact absurd (h q c) (h4 (by omega))
  ·exact c
  ·exact absurd (h3 a (by omega) c) hn
def okK (k : ByteArray) : Bool := decide (1 ≤ k.size) && decide (k.size ≤ 24)
theorem okK_iff {k : ByteArray} : okK k = true ↔ 1 ≤ k.size ∧ k.size ≤ 24 := by simp [okK]
theorem kid_lt {k v : ByteArray} {a : Int} {l : List Br} {b : Br} (h : b ∈ l) : SizeOf.sizeOf b < SizeOf.sizeOf (Br.mk k v a l) := by
 have := List.sizeOf_lt_of_mem h
 simp only [Br.mk.sizeOf_spec]; omega
def readV : Br → Int → Nat → Option (Tr × Nat)
 | .mk k v a ks, least, room =>
  if a = 256 then
   if okK k = true ∧ v.size ≤ 60 ∧ ks.length = 0 ∧ room ≠ 0 then some (.leaf k v, room - 1) else none
  else if h : least ≤ a ∧ a ≤ 255 ∧ ks.length = 2 ∧ k.size = 0 ∧ v.size = 0 then
   match readV (ks[0]'(by omega)) (a + 1) room with
   | none => none
   | some (t0, r0) =>
    match readV (ks[1]'(by omega)) (a + 1) r0 with
    | none => none
    | some (t1, r1) => if fd t0.hash t1.hash = a.toNat ∧ bitN t0.hash a.toNat = 0 then some (.fork a.toNat t0.hash t0 t1, r1) else none
  else none
termination_by b => SizeOf.sizeOf b
decreasing_by
 ·exact kid_lt (List.getElem_mem _)
 ·exact kid_lt (List.getElem_mem _)
def cv (b : Br) (least : Int) (pl : List Int) (left : Int) : Int :=
 match readV b least left.toNat with
 | some (t, r) => if bitL t.hash pl.length = pl then left - r else -1
 | none => -1
def emptyBr (b : Br) : Bool := decide (b.key.size = 0) && (decide (b.val.size = 0) && (decide (b.at_ = 0) && decide (b.kids.length = 0)))
theorem kh_size {k : ByteArray} (h : k.size ≤ 65536) : (kh k).size = 32 := hash_size (by rw [bytesI_len]; exact h)
theorem l07Hash_any (k : ByteArray) (w : World) (hk : k.size ≤ 65536) :
  Calls Tryz.prog 89 #[.string k] w fun e w' => e = .returned (.string (kh k)) ∧ Below w.heap.size w w' := by
 obtain ⟨cap, w1, hcv, hB, hb1⟩ := str_bytesB k w (by unfold maxLen; omega)
 have hl : (bytesI k).length = k.size := bytesI_len k
 have HV : Hid (kh k = strOfNums (textL (stAt (bytesI k) (padLen (bytesI k).length / 64)))) := Hd (hashV_yes (by omega))
 have hB' : Bytes w1 (.slice (some ⟨w.heap.size, 0, none⟩) (bytesI k).length cap) (bytesI k) := by rw [hl]; exact hB
 have HL := Hd (l01Hash_any _ _ _ w1 hB' (by omega))
 rw [hl] at HL HV
 have B1 := Hd hb1
 clear hb1 hB hB' hl
 go_enter Tryz.func89, Tryz.ntmps89
 go_wp2_with fail
 refine (uh HL).mono ?_
 rintro e w3 ⟨rfl, hb3⟩
 have K := hbt B1 hb3
 clear hb3
 rw [← uh HV]
 go_wp2_with fail
 go_ret
 exact ⟨rfl, uh K⟩
theorem wrap64_small8 {n : Int} (h0 : 0 ≤ n) (h1 : n < 1000000) : wrap64 n = n := by unfold wrap64; omega
theorem fold_tab8 : (⟨(([0, 1, 2, 2, 3, 3, 3, 3, 4, 4, 4, 4, 4, 4, 4, 4, 5, 5, 5, 5, 5, 5, 5, 5, 5, 5, 5, 5, 5, 5, 5, 5, 6, 6, 6, 6, 6, 6, 6, 6, 6, 6, 6, 6, 6, 6, 6, 6, 6, 6, 6, 6, 6, 6, 6, 6, 6, 6, 6, 6, 6, 6, 6, 6].append [7, 7, 7, 7, 7, 7, 7, 7, 7, 7, 7, 7, 7, 7, 7, 7, 7, 7, 7, 7, 7, 7, 7, 7, 7, 7, 7, 7, 7, 7, 7, 7, 7, 7, 7, 7, 7, 7, 7, 7, 7, 7, 7, 7, 7, 7, 7, 7, 7, 7, 7, 7, 7, 7, 7, 7, 7, 7, 7, 7, 7, 7, 7, 7]).append ([8, 8, 8, 8, 8, 8, 8, 8, 8, 8, 8, 8, 8, 8, 8, 8, 8, 8, 8, 8, 8, 8, 8, 8, 8, 8, 8, 8, 8, 8, 8, 8, 8, 8, 8, 8, 8, 8, 8, 8, 8, 8, 8, 8, 8, 8, 8, 8, 8, 8, 8, 8, 8, 8, 8, 8, 8, 8, 8, 8, 8, 8, 8, 8].append [8, 8, 8, 8, 8, 8, 8, 8, 8, 8, 8, 8, 8, 8, 8, 8, 8, 8, 8, 8, 8, 8, 8, 8, 8, 8, 8, 8, 8, 8, 8, 8, 8, 8, 8, 8, 8, 8, 8, 8, 8, 8, 8, 8, 8, 8, 8, 8, 8, 8, 8, 8, 8, 8, 8, 8, 8, 8, 8, 8, 8, 8, 8, 8])).toArray⟩ : ByteArray) = Lib.len8tab := by kernel_rfl
theorem len8_any (x : Int) (w : World) (h0 : 0 ≤ x) (h1 : x ≤ 255) :
  Calls Tryz.prog 139 #[.int .u8 x] w fun e w' => e = .returned (.int .i64 (Lib.bitLen x.toNat)) ∧ w' = w := by
 go_enter Tryz.func139, Tryz.ntmps139
 rw [fold_tab8]
 go_wp2
 go_ret
 have e := Lib.len8_eq ⟨x.toNat, by omega⟩
 have l := Lib.bitLen_le8 ⟨x.toNat, by omega⟩
 dsimp only at e l
 rw [Int.toNat_of_nonneg h0] at e
 refine ⟨ret_int ?_, rfl⟩
 rw [e]
 exact wrap64_small8 (by omega) (by omega)
theorem lead8_any (x : Int) (w : World) (h0 : 0 ≤ x) (h1 : x ≤ 255) :
  Calls Tryz.prog 129 #[.int .u8 x] w fun e w' => e = .returned (.int .i64 (8 - (Lib.bitLen x.toNat : Int))) ∧ w' = w := by
 have l := Lib.bitLen_le8 ⟨x.toNat, by omega⟩
 dsimp only at l
 have H := Hd (len8_any x w h0 h1)
 generalize Lib.bitLen x.toNat = q at *
 go_enter Tryz.func129, Tryz.ntmps129
 go_wp2_with fail
 refine (uh H).mono ?_
 rintro e w9 ⟨rfl, hw9⟩
 subst w9
 go_wp2_with fail
 go_ret
 exact ⟨rfl, rfl⟩
theorem bl_bits : ∀ d : Fin 256, d.val ≠ 0 → 1 ≤ Lib.bitLen d.val ∧ Lib.bitLen d.val ≤ 8 ∧ d.val.testBit (Lib.bitLen d.val - 1) = true ∧ ∀ j : Fin 8, Lib.bitLen d.val ≤ j.val → d.val.testBit j.val = false := by decide +kernel
def byN (s : ByteArray) (i : Nat) : Nat := (s.data.toList.getD i 0).toNat
theorem bAt_byN (s : ByteArray) (i : Nat) : bAt s i = (byN s i : Int) := rfl
theorem byN_lt (s : ByteArray) (i : Nat) : byN s i < 256 := (s.data.toList.getD i 0).toNat_lt
theorem bitN_test (s : ByteArray) (i : Nat) : bitN s i = if (byN s (i / 8)).testBit (7 - i % 8) then 1 else 0 := by
 unfold bitN
 rw [bAt_byN, Nat.testBit_eq_decide_div_mod_eq]
 have e : (byN s (i / 8) : Int) / 2 ^ (7 - i % 8) % 2 = ((byN s (i / 8) / 2 ^ (7 - i % 8) % 2 : Nat) : Int) := by simp
 rw [e]
 have := Nat.mod_lt (byN s (i / 8) / 2 ^ (7 - i % 8)) (show 0 < 2 by omega)
 generalize byN s (i / 8) / 2 ^ (7 - i % 8) % 2 = q at *
 by_cases h : q = 1
 ·simp [h]
 ·have : q = 0 := by omega
  simp [this]
theorem fd_byte (x y : ByteArray) (k : Nat) (hk : k < 32) (hs : ∀ j, j < k → byN x j = byN y j) (hd : byN x k ^^^ byN y k ≠ 0) : fd x y = 8 * k + (8 - Lib.bitLen (byN x k ^^^ byN y k)) := by
 have hlt : byN x k ^^^ byN y k < 256 := Nat.xor_lt_two_pow (n := 8) (byN_lt x k) (byN_lt y k)
 obtain ⟨h1, h2, h3, h4⟩ := bl_bits ⟨byN x k ^^^ byN y k, hlt⟩ hd
 dsimp only at h1 h2 h3 h4
 generalize Lib.bitLen (byN x k ^^^ byN y k) = bl at *
 rw [fd_iff _ _ _ (by omega)]
 constructor
 ·intro i hi
  rw [bitN_test, bitN_test]
  rcases Nat.lt_or_ge (i / 8) k with h | h
  ·rw [hs _ h]
  ·have e : i / 8 = k := by omega
   have := h4 ⟨7 - i % 8, by omega⟩ (by dsimp only; omega)
   dsimp only at this
   rw [Nat.testBit_xor] at this
   rw [e]
   generalize (byN x k).testBit (7 - i % 8) = b1 at *
   generalize (byN y k).testBit (7 - i % 8) = b2 at *
   cases b1 <;> cases b2 <;> simp_all
 ·rw [bitN_test, bitN_test]
  have e1 : (8 * k + (8 - bl)) / 8 = k := by omega
  have e2 : 7 - (8 * k + (8 - bl)) % 8 = bl - 1 := by omega
  rw [e1, e2]
  rw [Nat.testBit_xor] at h3
  generalize (byN x k).testBit (bl - 1) = b1 at *
  generalize (byN y k).testBit (bl - 1) = b2 at *
  cases b1 <;> cases b2 <;> simp_all
theorem fd_same (x y : ByteArray) (hs : ∀ j, j < 32 → byN x j = byN y j) : fd x y = 256 := by
 obtain ⟨_, h2, h3, h4⟩ := fdF_facts x y 256 0
 unfold fd
 generalize fdF x y 256 0 = q at *
 rcases Nat.lt_or_ge q 256 with h | h
 ·exfalso
  apply h4 (by omega)
  rw [bitN_test, bitN_test, hs _ (by omega)]
 ·omega
theorem firstDiff_any (x y : ByteArray) (w : World) (hx : x.size = 32) (hy : y.size = 32) :
  Calls Tryz.prog 113 #[.string x, .string y] w fun e w' => e = .returned (.int .i64 (fd x y)) ∧ ∃ n, w' = w.drewN n := by
 go_enter Tryz.func113, Tryz.ntmps113
 go_wp2_with fail
 go_loopw [5, 6, 7] (fun _ _ i wr => ∃ k : Nat, k ≤ 32 ∧ i = .int .i64 k ∧ (∀ j, j < k → byN x j = byN y j) ∧ ∃ n, wr = w.drewN n) (fun _ _ i _ => 32 - (intOf i).toNat)
 case atStart => exact ⟨0, Nat.zero_le _, rfl, fun j hj => by omega, 0, rfl⟩
 case round =>
  obtain ⟨k, hk, rfl, hs, n, hn⟩ := hrel
  have HN := Hd hn
  have HS := Hd hs
  clear hn hs
  by_cases hlt : k < 32
  ·have hk0 : (0 : Int) ≤ (k : Int) := by omega
   have hk1 : (k : Int) < (x.size : Int) := by omega
   have hk2 : (k : Int) < (y.size : Int) := by omega
   have e1 := bAt_eq x k (by omega)
   have e2 := bAt_eq y k (by omega)
   have e3 : bits .xor .u8 (bAt x k) (bAt y k) = ((byN x k ^^^ byN y k : Nat) : Int) := u8_xor_nat _ _ (byN_lt x k) (byN_lt y k)
   have hlt8 : byN x k ^^^ byN y k < 256 := Nat.xor_lt_two_pow (n := 8) (byN_lt x k) (byN_lt y k)
   have HFB := Hd (fun hd => fd_byte x y k hlt (uh HS) hd)
   have HX0 : Hid (byN x k ^^^ byN y k = 0 → byN x k = byN y k) := Hd (fun h => Nat.eq_of_testBit_eq (fun i => by have q := congrArg (fun z => z.testBit i) h; simp [Nat.testBit_xor] at q; exact q))
   generalize byN x k ^^^ byN y k = d at *
   generalize bAt x k = bx at *
   generalize bAt y k = by' at *
   go_wp2_with fail
   go_quiet (fail)
   have HN2 : Hid (∃ n', wr.drewN nq = w.drewN n') := Hd ⟨n + nq, by rw [uh HN, World.drewN_drewN]⟩
   generalize wr.drewN nq = w2 at *
   by_cases hd : d = 0
   ·have HE := Hd (uh HX0 hd)
    subst hd
    go_wp2_with fail
    refine ⟨⟨k + 1, by omega, by go_num, fun j hj => ?_, uh HN2⟩, ?_⟩
    ·rcases Nat.lt_or_ge j k with h | h
     ·exact uh HS j h
     ·obtain rfl : j = k := by omega
      exact uh HE
    ·simp [intOf]; omega
   ·have H := Hd (uh HFB hd)
    have hd2 : (d : Int) ≠ 0 := by omega
    have l := (bl_bits ⟨d, hlt8⟩ hd)
    have l1 := l.1
    have l2 := l.2.1
    dsimp only at l1 l2
    have HL := Hd (lead8_any (d : Int) w2 (by omega) (by omega))
    rw [Int.toNat_natCast] at HL
    clear l HX0 HFB
    generalize Lib.bitLen d = bl at *
    go_wp2_with fail
    refine (uh HL).mono ?_
    rintro e w9 ⟨rfl, hw9⟩
    subst w9
    go_wp2_with fail
    go_ret
    exact ⟨ret_int (by rw [uh H]; omega), uh HN2⟩
  ·obtain rfl : k = 32 := by omega
   have H := Hd (fd_same x y (uh HS))
   go_wp2_with fail
   go_ret
   exact ⟨ret_int (by rw [uh H]; rfl), n, uh HN⟩
end Go.Proofs.YtnhhnjmjodmacaaGreatDoor.Sha
