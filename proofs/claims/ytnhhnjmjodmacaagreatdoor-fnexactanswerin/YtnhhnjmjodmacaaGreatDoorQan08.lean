/- The two tables of words of a seat with a door: what they hold, and that they are read again. A string's bytes; a string put behind a row of the call's own. Rows known whole; a string put behind a row, at a step of a region. The hash of a leaf and of a node: impl's and the specification's. The bits of a hash: one of them (impl.hashBit, spec.l07Bit), all of them (spec.l01Bits). Branches in memory: slices of structs of four cells, their kids' slices below them; how much a branch weighs. -/
import Derived.Test.YtnhhnjmjodmacaaGreatDoorQan07
import Derived.Test.YtnhhnjmjodmacaaGreatDoorQan00
import Derived.Test.YtnhhnjmjodmacaaGreatDoorQan01
import Derived.WalkSmall
import Derived.LaidMore
import Derived.Stop.Joined
import Derived.Lib.LaidTab
import Derived.ChangeVars
import Derived.Laws.IdiomStrings
import Derived.WalkSpells
namespace Go.Proofs.YtnhhnjmjodmacaaGreatDoor.Sha
open Go.ChangeShapes Go.WideShapes Go.ChangeAt Go.RowKit
set_option linter.unusedVariables false
theorem own : ownKnob Tryz.prog.godebug = none := by kernel_rfl
theorem laidOut : laidOutB Tryz.prog = true := by kernel_rfl
theorem gFirst : Tryz.prog.globalNamed "loop.example/g00220/impl.firstWords" = some 0 := by kernel_rfl
theorem gFirstType : (Tryz.prog.globals[0]?).map (·.type) = some 187 := by kernel_rfl
theorem gRound : Tryz.prog.globalNamed "loop.example/g00220/impl.roundWords" = some 1 := by kernel_rfl
theorem gRoundType : (Tryz.prog.globals[1]?).map (·.type) = some 191 := by kernel_rfl
theorem cellsA : Tryz.prog.cellsOf 187 = 8 := by kernel_rfl
theorem cellsB : Tryz.prog.cellsOf 191 = 64 := by kernel_rfl
theorem cellsE : Tryz.prog.cellsOf 171 = 1 := by kernel_rfl
def firstCells : Array Value := (cells32 8 iW).toArray
def roundCells : Array Value := (cells32 64 kW).toArray
def firstH {H : Type} : DataW H := .agg ((List.range 8).map fun j => .lit (.int .u32 (iW j)))
def roundH {H : Type} : DataW H := .agg ((List.range 64).map fun j => .lit (.int .u32 (kW j)))
theorem first_of {W : World} (h : W.var? Tryz.prog "loop.example/g00220/impl.firstWords" = some firstCells) : First W := by
  have hc : ∀ i, i < 8 → W.cell? ⟨0, i, none⟩ = some (.int .u32 (iW i)) := fun i hi => by
    rw [World.var?_cell gFirst h i]; simp [firstCells, cells32, hi]
  exact ⟨World.block_lt_of_cell? W _ (hc 0 (by omega)), hc⟩
theorem table_of {W : World} (h : W.var? Tryz.prog "loop.example/g00220/impl.roundWords" = some roundCells) : Table W := by
  have hc : ∀ i, i < 64 → W.cell? ⟨1, i, none⟩ = some (.int .u32 (kW i)) := fun i hi => by
    rw [World.var?_cell gRound h i]; simp [roundCells, cells32, hi]
  exact ⟨World.block_lt_of_cell? W _ (hc 0 (by omega)), hc⟩
theorem reads_first {H : Type} (enc : TypeId × Value → H) (W : World) (sp : Nat → Bool) : DataW.trod enc Tryz.prog W 0 sp true 3 187 firstCells.toList = some (firstH, []) := by kernel_rfl
theorem reads_round {H : Type} (enc : TypeId × Value → H) (W : World) (sp : Nat → Bool) : DataW.trod enc Tryz.prog W 0 sp true 3 191 roundCells.toList = some (roundH, []) := by kernel_rfl
theorem vars_again {H : Type} {enc : TypeId × Value → H} {W W' : World} {sp : Nat → Bool} {gs : List (DataW H)} {q : List MemPlace}
    (hv1 : W.var? Tryz.prog "loop.example/g00220/impl.firstWords" = some firstCells) (hv2 : W.var? Tryz.prog "loop.example/g00220/impl.roundWords" = some roundCells)
    (hV : DataW.TrodVars enc Tryz.prog W (fun _ => true) ["loop.example/g00220/impl.firstWords", "loop.example/g00220/impl.roundWords"] gs q) (hb : Below W.heap.size W W') :
    gs = [firstH, roundH] ∧ ∃ pv, DataW.TrodVars enc Tryz.prog W' sp ["loop.example/g00220/impl.firstWords", "loop.example/g00220/impl.roundWords"] [firstH, roundH] pv := by
  match gs, hV with
  | d1 :: gs1, ⟨g, t, cs, fuel, p, q1, hg, ht, hvar, hd, hV1, _⟩ =>
    match gs1, hV1 with
    | d2 :: gs2, ⟨g', t', cs', fuel', p', q2, hg', ht', hvar', hd', hV2, _⟩ =>
      match gs2, hV2 with
      | [], _ =>
        obtain rfl := Option.some.inj (gFirst.symm.trans hg)
        obtain rfl := Option.some.inj (gFirstType.symm.trans ht)
        obtain rfl := Option.some.inj (gRound.symm.trans hg')
        obtain rfl := Option.some.inj (gRoundType.symm.trans ht')
        obtain rfl : cs = firstCells := Option.some.inj (hvar.symm.trans hv1)
        obtain rfl : cs' = roundCells := Option.some.inj (hvar'.symm.trans hv2)
        obtain ⟨rfl, rfl⟩ := DataW.Trod.unique (v := .agg firstCells) ⟨fuel, hd⟩ ⟨3, reads_first enc W _⟩
        obtain ⟨rfl, rfl⟩ := DataW.Trod.unique (v := .agg roundCells) ⟨fuel', hd'⟩ ⟨3, reads_round enc W _⟩
        exact ⟨rfl, _, 0, 187, firstCells, 3, [], _, hg, ht, var?_below hb gFirst (first_of hv1).1 hv1, reads_first enc W' sp,
          ⟨1, 191, roundCells, 3, [], [], hg', ht', var?_below hb gRound (table_of hv2).1 hv2, reads_round enc W' sp, rfl, rfl⟩, rfl⟩
theorem First.below {w w' : World} (h : First w) (hb : Below w.heap.size w w') : First w' :=
  ⟨Nat.lt_of_lt_of_le h.1 hb.size, fun i hi => by rw [hb.cell (p := ⟨0, i, none⟩) h.1]; exact h.2 i hi⟩

end Go.Proofs.YtnhhnjmjodmacaaGreatDoor.Sha
namespace Go.Proofs.YtnhhnjmjodmacaaGreatDoor
open Go.ChangeShapes Go.WideShapes Go.ChangeAt Go.RowKit
set_option linter.unusedVariables false
def bytesI (s : ByteArray) : List Int := s.data.toList.map fun c => (c.toNat : Int)
theorem bytesI_len (s : ByteArray) : (bytesI s).length = s.size := by
  unfold bytesI; rw [List.length_map, Array.length_toList]; rfl
theorem bytesI_range (s : ByteArray) : ∀ i, 0 ≤ (bytesI s).getD i 0 ∧ (bytesI s).getD i 0 ≤ 255 := by
  intro i
  unfold bytesI
  by_cases h : i < s.data.toList.length
  · rw [List.getD_eq_getElem?_getD, List.getElem?_map, List.getElem?_eq_getElem h]
    have := (s.data.toList[i]).toNat_lt
    simp only [Option.map_some, Option.getD_some]; omega
  · rw [List.getD_eq_getElem?_getD, List.getElem?_map, List.getElem?_eq_none (by omega)]; simp
theorem strCells_eq (s : ByteArray) : Lib.strCells s = (bytesI s).map (Value.int .u8) := by
  simp [Lib.strCells, bytesI, Function.comp_def]
/-- A string's bytes put behind a row of the call's own, and where the row then lies. -/
theorem wpList_append_str {P : Program} (w : World) {ops : Array Oper} {rest : List Oper} {o : Oper} {a : Act} {Q : Exit → Act → World → Prop} (hgd : o.guard = none) (sl x : Operand) (t u : TypeId)
    (ho : o.op = .call { callee := .builtin .append, args := #[sl, x], argTypes := #[t, u] })
    (base : Nat) (e : TypeId) (i : TypeInfo) (ht : P.underlying t = some (.slice e)) (hu : P.underlying u = some .string) (hi : P.info? e = some i) (hz : i.zero = some (.int .u8 0)) (hsize : i.size = 1) (hby : i.bytes = 1)
    (v : Value) (n : Nat) (xs : List Value) (hs : a.eval sl = v) (hown : w.ownsRow base e 1 v n xs) (s : ByteArray) (hx : a.eval x = .string s) (hpos : 0 < n + s.size) (hb : n + s.size ≤ 140737488355328) (hbase : base ≤ w.heap.size)
    (h : ∀ g cap w', w'.ownsRow base e 1 (.slice (some ⟨g, 0, none⟩) (n + s.size) cap) (n + s.size) (xs ++ Lib.strCells s) → w.grownBy w' v.ownBlock → (v.ownBlock = some g ∨ g = w.heap.size) → wpList P ops Q rest (a.put o.dst (.slice (some ⟨g, 0, none⟩) (n + s.size) cap)) w') :
    wpList P ops Q (o :: rest) a w := by
  refine wpList_plain hgd fun K hK => ?_
  obtain ⟨v', w', hr, h2, h3, h4⟩ := Lib.run_append_own_string (P := P) w base t u o.type e i ht hu hi hz hsize hby v n xs hown s (by unfold maxLen; omega) hb hbase
  unfold Oper.wp execOp
  simp only [ho, resolve, invoke, builtin, Sem.run_bind, Sem.run_pure, Result.andThen_ok, List.map_toArray, List.map_cons, List.map_nil, hs, hx, hr]
  obtain ⟨g, cap, rfl, _, _⟩ := h2.form hpos
  refine hK _ _ (h g cap w' h2 h3 ?_)
  rcases str_lies ht hu hi hz hsize hby hown hb hr h4 with e | e
  · left; rw [← e]; rfl
  · right; simpa [Value.ownBlock] using e
end Go.Proofs.YtnhhnjmjodmacaaGreatDoor
namespace Go.Proofs.YtnhhnjmjodmacaaGreatDoor
open Go.ChangeShapes Go.WideShapes Go.ChangeAt Go.RowKit
set_option linter.unusedVariables false
theorem heap_new {w : World} {o : Obj} {k : Nat} (h : w.heap.size = k) : (w.alloc o).heap[k]? = some o := by subst h; exact heap_alloc_new w o
theorem heap_old {w : World} {o : Obj} {k : Nat} (h : k < w.heap.size) : (w.alloc o).heap[k]? = w.heap[k]? := Below.heap_alloc w o k h
/-- A slice of bytes over a block that is known whole. -/
theorem own_lit {w : World} {B X n : Nat} {cs : Array Value} (h : w.heap[X]? = some (.cells cs 5 (0, 0))) (hB : B ≤ X) (hn : cs.size = n) (hm : n ≤ maxLen) : w.ownsRow B 5 1 (.slice (some ⟨X, 0, none⟩) n n) n cs.toList :=
  ⟨by simp [hn], .inr ⟨X, n, cs, rfl, hB, h, Nat.le_refl _, hm, by simp [hn], by rw [Nat.mul_one, ← hn, ← Array.length_toList, List.take_length]⟩⟩
/-- A string's bytes put behind a row of the call's own, at a step of a region that draws. -/
theorem step_append_str {P : Program} (w : World) {ops : Array Oper} {o : Oper} {a : Act} {K : Act → World → Prop} {Q : Exit → Act → World → Prop} {E : Prop} (hgd : o.guard = none) (sl x : Operand) (t u : TypeId)
    (ho : o.op = .call { callee := .builtin .append, args := #[sl, x], argTypes := #[t, u] })
    (base : Nat) (e : TypeId) (i : TypeInfo) (ht : P.underlying t = some (.slice e)) (hu : P.underlying u = some .string) (hi : P.info? e = some i) (hz : i.zero = some (.int .u8 0)) (hsize : i.size = 1) (hby : i.bytes = 1)
    (v : Value) (n : Nat) (xs : List Value) (hs : a.eval sl = v) (hown : w.ownsRow base e 1 v n xs) (s : ByteArray) (hx : a.eval x = .string s) (hpos : 0 < n + s.size) (hb : n + s.size ≤ 140737488355328) (hbase : base ≤ w.heap.size)
    (h : ∀ g cap w', w'.ownsRow base e 1 (.slice (some ⟨g, 0, none⟩) (n + s.size) cap) (n + s.size) (xs ++ Lib.strCells s) → w.grownBy w' v.ownBlock → (v.ownBlock = some g ∨ g = w.heap.size) → K (a.put o.dst (.slice (some ⟨g, 0, none⟩) (n + s.size) cap)) w') :
    if Region.wanted o (yielded ops a.tmps) = true then Oper.wp P o a w K Q else E := by
  have hw : Region.wanted o (yielded ops a.tmps) = true := by simp [Region.wanted, hgd]
  rw [if_pos hw]
  obtain ⟨v', w', hr, h2, h3, h4⟩ := Lib.run_append_own_string (P := P) w base t u o.type e i ht hu hi hz hsize hby v n xs hown s (by unfold maxLen; omega) hb hbase
  unfold Oper.wp execOp
  simp only [ho, resolve, invoke, builtin, Sem.run_bind, Sem.run_pure, Result.andThen_ok, List.map_toArray, List.map_cons, List.map_nil, hs, hx, hr]
  obtain ⟨g, cap, rfl, _, _⟩ := h2.form hpos
  refine h g cap w' h2 h3 ?_
  rcases str_lies ht hu hi hz hsize hby hown hb hr h4 with e | e
  · left; rw [← e]; rfl
  · right; simpa [Value.ownBlock] using e

end Go.Proofs.YtnhhnjmjodmacaaGreatDoor
namespace Go.Proofs.YtnhhnjmjodmacaaGreatDoor.Sha
open Go.ChangeShapes Go.WideShapes Go.ChangeAt Go.RowKit
set_option linter.unusedVariables false
def Tab (w : World) : Prop := First w ∧ Table w
theorem Tab.below {w w' : World} (h : Tab w) (hb : Below w.heap.size w w') : Tab w' := ⟨h.1.below hb, h.2.below hb (Nat.le_refl _)⟩
theorem bytesI_append (a b : ByteArray) : bytesI (a ++ b) = bytesI a ++ bytesI b := by
  unfold bytesI; rw [ByteArray.data_append, Array.toList_append, List.map_append]
/-- A text's bytes in a block of their own. -/
theorem str_bytesB (s : ByteArray) (w : World) (hs : s.size ≤ maxLen) : ∃ cap w1, (convert 9 127 (.string s)).run Tryz.prog w = .ok (.slice (some ⟨w.heap.size, 0, none⟩) s.size cap) w1 ∧ Bytes w1 (.slice (some ⟨w.heap.size, 0, none⟩) s.size cap) (bytesI s) ∧ Below w.heap.size w w1 := by
  refine ⟨grownCap w s.size 0 5, _, by rw [run_bytes_of_string w 9 127 5 s Tryz.underlying9 Tryz.underlying127 Tryz.underlying5], ?_, ?_⟩
  · refine ⟨_, _, by rw [bytesI_len], by rw [bytesI_len]; exact hs, .inr ⟨w.heap.size, 0, rfl, by simp, fun i hi => ?_⟩, bytesI_range s⟩
    rw [bytesI_len] at hi
    have hb : (w.drew.alloc (.cells (bytesRow s (grownCap w s.size 0 5)) 5 ((bytesRow s (grownCap w s.size 0 5)).size, (bytesRow s (grownCap w s.size 0 5)).size + 1))).heap[w.heap.size]? = some (.cells (bytesRow s (grownCap w s.size 0 5)) 5 ((bytesRow s (grownCap w s.size 0 5)).size, (bytesRow s (grownCap w s.size 0 5)).size + 1)) := heap_alloc_new w.drew _
    rw [Nat.zero_add, cell_of_row _ _ _ _ _ _ hb]
    have hi' : i < s.data.size := hi
    unfold bytesRow bytesI
    rw [Array.getElem?_append_left (by simpa using hi')]
    rw [Array.getElem?_map, Array.getElem?_eq_getElem hi', List.getD_eq_getElem?_getD, List.getElem?_map, Array.getElem?_toList, Array.getElem?_eq_getElem hi']
    rfl
  · exact ((Below.refl _ _).drew).alloc (Nat.le_refl _) _
def leafV (s : ByteArray) : ByteArray := hashV (0 :: bytesI s)
theorem hash_size {l : List Int} (h : l.length ≤ 65536) : (hashV l).size = 32 := by
  unfold hashV; rw [if_neg (by omega), strOfNums_size]; simp [textL]
theorem range_cons {x : Int} {xs : List Int} (h0 : 0 ≤ x) (h1 : x ≤ 255) (h : ∀ i, 0 ≤ xs.getD i 0 ∧ xs.getD i 0 ≤ 255) : ∀ i, 0 ≤ (x :: xs).getD i 0 ∧ (x :: xs).getD i 0 ≤ 255 := by
  intro i
  cases i with
  | zero => simp; omega
  | succ i => simpa using h i
set_option maxRecDepth 100000 in
set_option maxHeartbeats 1000000 in
theorem l06Leaf_any (a : ByteArray) (w : World) (ha : a.size ≤ 65535) :
    Calls Tryz.prog 91 #[.string a] w fun e w' => e = .returned (.string (leafV a)) ∧ Below w.heap.size w w' := by
  obtain ⟨i0, hi, hz0, hz1, hz2⟩ := info_parts info5
  have O0 : Hid ((w.alloc (.cells #[.int .u8 0] 5)).ownsRow w.heap.size 5 1 (.slice (some ⟨w.heap.size, 0, none⟩) 1 1) 1 [.int .u8 0]) := hide (own_lit (heap_new rfl) (Nat.le_refl _) rfl (by unfold maxLen; omega))
  have B0 := hide ((Below.refl w.heap.size w).alloc (Nat.le_refl _) (.cells #[.int .u8 0] 5))
  have hlen : Hid ((0 :: bytesI a).length = 1 + a.size) := hide (by simp [bytesI_len]; omega)
  have hV : Hid (leafV a = strOfNums (textL (stAt (0 :: bytesI a) (padLen (0 :: bytesI a).length / 64)))) := hide (hashV_yes (by rw [unhide hlen]; omega))
  go_enter Tryz.func91, Tryz.ntmps91
  go_wp2_with (at_builtin; refine wpList_append_str _ rfl _ _ _ _ rfl w.heap.size 5 i0 Tryz.underlying127 Tryz.underlying9 hi hz0 hz1 hz2 _ 1 _ rfl (unhide O0) a rfl (by omega) (by omega) (by simp) ?_; intro g1 cap1 w1 hown1 hgrow1 hat1; have O1 := hide hown1; have B1 := hide ((unhide B0).grown hgrow1 (by simp) (fun r hr => ((unhide O0).lt r hr).1)); clear hown1 hgrow1 hat1)
  have hx : Bytes w1 (.slice (some ⟨g1, 0, none⟩) (0 :: bytesI a).length cap1) (0 :: bytesI a) := by
    refine OwnB.bytes (B := w.heap.size) ⟨?_, range_cons (by omega) (by omega) (bytesI_range a)⟩
    have h := unhide O1
    rw [strCells_eq] at h
    rw [unhide hlen]
    simpa using h
  have HL := hide (l01Hash_any _ _ _ w1 hx (by rw [unhide hlen]; omega))
  rw [unhide hlen] at HL hV
  clear hx
  refine (unhide HL).mono ?_
  rintro e w3 ⟨rfl, hb3⟩
  have K := hide ((unhide B1).trans (hb3.mono (unhide B1).size))
  clear hb3
  rw [← unhide hV]
  go_wp2_with fail
  go_ret
  exact ⟨rfl, unhide K⟩
/-- What LeafHash answers. -/
def leafOut (s : ByteArray) : Value := if 65535 < s.size then .tuple #[.string ⟨#[]⟩, .int .i64 2] else .tuple #[.string (leafV s), .int .i64 0]
set_option maxRecDepth 100000 in
set_option maxHeartbeats 1000000 in
theorem implLeaf_any (s : ByteArray) (w : World) (hs : s.size ≤ 1048576) (ht : Tab w) :
    Calls Tryz.prog 137 #[.string s] w fun e w' => e = .returned (leafOut s) ∧ Below w.heap.size w w' := by
  have HT := hide ht
  clear ht
  by_cases h1 : 65535 < s.size
  · have H : Hid (leafOut s = .tuple #[.string ⟨#[]⟩, .int .i64 2]) := hide (if_pos h1)
    have h2 : (65536 : Int) ≤ (s.size : Int) := by omega
    go_enter Tryz.func137, Tryz.ntmps137
    go_wp2_with fail
    go_ret2
    exact ⟨by rw [unhide H]; rfl, Below.refl _ _⟩
  · have H : Hid (leafOut s = .tuple #[.string (leafV s), .int .i64 0]) := hide (if_neg h1)
    have hsz : (ByteArray.mk #[0] ++ s).size = 1 + s.size := by rw [ByteArray.size_append]; rfl
    obtain ⟨cap, w1, hcv, hB, hb1⟩ := str_bytesB (ByteArray.mk #[0] ++ s) w (by rw [hsz]; unfold maxLen; omega)
    have HE : Hid (bytesI (ByteArray.mk #[0] ++ s) = 0 :: bytesI s) := hide (by rw [bytesI_append]; rfl)
    rw [unhide HE, hsz] at hB
    rw [hsz] at hcv
    have HB := hide hB
    have HB1 := hide hb1
    clear hB hb1 hsz
    have h2 : ¬ (65536 : Int) ≤ (s.size : Int) := by omega
    go_enter Tryz.func137, Tryz.ntmps137
    go_wp2_with fail
    refine (implHash_any _ _ w1 (unhide HB) ((unhide HT).below (unhide HB1)).2 ((unhide HT).below (unhide HB1)).1).mono ?_
    rintro e w2 ⟨rfl, hb2⟩
    have K := hide ((unhide HB1).trans (hb2.mono (unhide HB1).size))
    clear hb2
    go_wp2_with fail
    go_ret2
    exact ⟨by rw [unhide H]; rfl, unhide K⟩
end Go.Proofs.YtnhhnjmjodmacaaGreatDoor.Sha
namespace Go.Proofs.YtnhhnjmjodmacaaGreatDoor
open Go.ChangeShapes Go.WideShapes Go.ChangeAt Go.RowKit
set_option linter.unusedVariables false
def bitOf (c : Int) (m : Nat) : Int := 48 + c / 2 ^ (7 - m) % 2
def bitL (s : ByteArray) : Nat → List Int
  | 0 => []
  | n + 1 => bitL s n ++ [bitOf (bAt s (n / 8)) (n % 8)]
def bitN (h : ByteArray) (i : Nat) : Int := bAt h (i / 8) / 2 ^ (7 - i % 8) % 2
theorem bitN_01 (h : ByteArray) (i : Nat) : bitN h i = 0 ∨ bitN h i = 1 := by unfold bitN; omega
theorem shr_lo (c : Int) (h : 0 ≤ c) (n : Nat) : 0 ≤ c / 2 ^ n := Int.ediv_nonneg h (Int.le_of_lt (Int.pow_pos (by omega)))
theorem shr_hi (c : Int) (h : 0 ≤ c) (h1 : c ≤ 255) (n : Nat) : c / 2 ^ n < 256 := by
  have := Int.ediv_le_self (2 ^ n) h
  omega
theorem and1i (x : Int) : bits BinOp.and IntKind.i64 x 1 = x % 2 := by
  have h1 : (BitVec.ofInt 64 1).toNat = 2 ^ 1 - 1 := by decide
  have key : (BitVec.ofInt 64 x &&& BitVec.ofInt 64 1).toNat = (x % ((2 ^ 64 : Nat) : Int)).toNat % 2 ^ 1 := by
    rw [BitVec.toNat_and, BitVec.toNat_ofInt, h1, Nat.and_two_pow_sub_one_eq_mod]
  show IntKind.i64.wrap ((BitVec.ofInt 64 x &&& BitVec.ofInt 64 1).toNat : Nat) = x % 2
  rw [key, IntKind.wrap_i64]
  omega
theorem wrap64_in (x : Int) (h0 : 0 ≤ x) (h1 : x < 256) : wrap64 x = x := by unfold wrap64; omega
set_option maxRecDepth 100000 in
theorem hashBit_any (h : ByteArray) (i : Nat) (w : World) (hs : h.size = 32) (hi : i < 256) :
    Calls Tryz.prog 114 #[.string h, .int .i64 i] w fun e w' => e = .returned (.int .i64 (bitN h i)) ∧ w' = w := by
  have hk8 : (0 : Int) ≤ (i : Int) / 8 := by omega
  have hk9 : (i : Int) / 8 < (h.size : Int) := by omega
  have e1 := bAt_eq h (i / 8) (by omega)
  have HV : Hid (bitN h i = bAt h (i / 8) / 2 ^ (7 - i % 8) % 2) := rfl
  go_enter Tryz.func114, Tryz.ntmps114
  go_wp2_with fail
  go_ret
  refine ⟨ret_int ?_, rfl⟩
  rw [unhide HV, and1i, wrap64_in _ (shr_lo _ (bAt_lo h _) _) (shr_hi _ (bAt_lo h _) (bAt_hi h _) _)]
set_option maxRecDepth 100000 in
theorem l07Bit_any (h : ByteArray) (i : Nat) (w : World) (hs : h.size = 32) (hi : i < 256) :
    Calls Tryz.prog 105 #[.string h, .int .i64 i] w fun e w' => e = .returned (.int .i64 (bitN h i)) ∧ w' = w := by
  have hk8 : (0 : Int) ≤ (i : Int) / 8 := by omega
  have hk9 : (i : Int) / 8 < (h.size : Int) := by omega
  have e1 := bAt_eq h (i / 8) (by omega)
  have HV : Hid (bitN h i = bAt h (i / 8) / 2 ^ (7 - i % 8) % 2) := rfl
  go_enter Tryz.func105, Tryz.ntmps105
  go_wp2_with fail
  go_ret
  refine ⟨ret_int ?_, rfl⟩
  rw [unhide HV, and1i, wrap64_in _ (shr_lo _ (bAt_lo h _) _) (shr_hi _ (bAt_lo h _) (bAt_hi h _) _)]
end Go.Proofs.YtnhhnjmjodmacaaGreatDoor
namespace Go.Proofs.YtnhhnjmjodmacaaGreatDoor.Sha
open Go.ChangeShapes Go.WideShapes Go.ChangeAt Go.RowKit
set_option linter.unusedVariables false
/-- A branch as it is handed on. -/
inductive Br where
  | mk (key val : ByteArray) (at_ : Int) (kids : List Br)
def Br.key : Br → ByteArray | .mk k _ _ _ => k
def Br.val : Br → ByteArray | .mk _ v _ _ => v
def Br.at_ : Br → Int | .mk _ _ a _ => a
def Br.kids : Br → List Br | .mk _ _ _ l => l
instance : Inhabited Br := ⟨.mk ⟨#[]⟩ ⟨#[]⟩ 0 []⟩
/-- The value is a slice that holds these branches; all blocks of theirs are in S. -/
inductive Brs (S : Nat → Prop) (w : World) : Value → List Br → Prop
  | nil (a : Option Addr) (cap : Nat) : cap ≤ maxLen → Brs S w (.slice a 0 cap) []
  | row (b off cap : Nat) (l : List Br) (kv : Nat → Value) : 0 < l.length → l.length ≤ cap → cap ≤ maxLen → b < w.heap.size → S b →
      (∀ i, i < l.length → w.cell? ⟨b, off + i * 4, none⟩ = some (.string (l.getD i default).key) ∧ w.cell? ⟨b, off + i * 4 + 1, none⟩ = some (.string (l.getD i default).val) ∧ w.cell? ⟨b, off + i * 4 + 2, none⟩ = some (.int .i64 (l.getD i default).at_) ∧ w.cell? ⟨b, off + i * 4 + 3, none⟩ = some (kv i)) →
      (∀ i, i < l.length → (l.getD i default).key.size ≤ maxLen ∧ (l.getD i default).val.size ≤ maxLen) →
      (∀ i, i < l.length → Brs S w (kv i) (l.getD i default).kids) →
      Brs S w (.slice (some ⟨b, off, none⟩) l.length cap) l
theorem Brs.kept {S : Nat → Prop} {w w' : World} {v : Value} {l : List Br} (h : Brs S w v l) (hs : w.heap.size ≤ w'.heap.size) (hk : ∀ k, k < w.heap.size → S k → w'.heap[k]? = w.heap[k]?) : Brs S w' v l := by
  induction h with
  | nil a cap hc => exact .nil a cap hc
  | row b off cap l kv h0 h1 h2 h3 h4 h5 h6 h7 ih =>
    have e : ∀ j, w'.cell? ⟨b, j, none⟩ = w.cell? ⟨b, j, none⟩ := fun j => World.cell?_of_block (w := w) (hk b h3 h4)
    exact .row b off cap l kv h0 h1 h2 (Nat.lt_of_lt_of_le h3 hs) h4 (fun i hi => ⟨(e _).trans (h5 i hi).1, (e _).trans (h5 i hi).2.1, (e _).trans (h5 i hi).2.2.1, (e _).trans (h5 i hi).2.2.2⟩) h6 ih
theorem Brs.blw {S : Nat → Prop} {w w' : World} {v : Value} {l : List Br} (h : Brs S w v l) (hb : Below w.heap.size w w') : Brs S w' v l := h.kept hb.size (fun k hk _ => hb.block k hk)
theorem Brs.touch {S T : Nat → Prop} {w w' : World} {v : Value} {l : List Br} (h : Brs S w v l) (ht : Touch T w w') (hn : ∀ k, S k → ¬ T k) : Brs S w' v l := h.kept ht.size (fun k hk hs => ht.block k hk (hn k hs))
theorem Brs.mono {S T : Nat → Prop} {w : World} {v : Value} {l : List Br} (h : Brs S w v l) (hst : ∀ k, S k → T k) : Brs T w v l := by
  induction h with
  | nil a cap hc => exact .nil a cap hc
  | row b off cap l kv h0 h1 h2 h3 h4 h5 h6 h7 ih => exact .row b off cap l kv h0 h1 h2 h3 (hst b h4) h5 h6 ih
theorem Brs.shape {S : Nat → Prop} {w : World} {v : Value} {l : List Br} (h : Brs S w v l) : ∃ a cap, v = .slice a l.length cap ∧ l.length ≤ cap ∧ cap ≤ maxLen := by
  cases h with
  | nil a cap hc => exact ⟨a, cap, rfl, Nat.zero_le _, hc⟩
  | row b off cap l kv h0 h1 h2 => exact ⟨_, cap, rfl, h1, h2⟩
/-- What is told of a slice of branches that is not empty. -/
structure BrAt (S : Nat → Prop) (w : World) (b off : Nat) (l : List Br) (kv : Nat → Value) : Prop where
  lt : b < w.heap.size
  here : S b
  cells : ∀ i, i < l.length → w.cell? ⟨b, off + i * 4, none⟩ = some (.string (l.getD i default).key) ∧ w.cell? ⟨b, off + i * 4 + 1, none⟩ = some (.string (l.getD i default).val) ∧ w.cell? ⟨b, off + i * 4 + 2, none⟩ = some (.int .i64 (l.getD i default).at_) ∧ w.cell? ⟨b, off + i * 4 + 3, none⟩ = some (kv i)
  small : ∀ i, i < l.length → (l.getD i default).key.size ≤ maxLen ∧ (l.getD i default).val.size ≤ maxLen
  kids : ∀ i, i < l.length → Brs S w (kv i) (l.getD i default).kids
theorem Brs.at {S : Nat → Prop} {w : World} {a : Option Addr} {n cap : Nat} {l : List Br} (h : Brs S w (.slice a n cap) l) (h0 : 0 < l.length) : ∃ b off kv, a = some ⟨b, off, none⟩ ∧ n = l.length ∧ BrAt S w b off l kv := by
  cases h with
  | nil a cap hc => simp at h0
  | row b off cap l kv h0 h1 h2 h3 h4 h5 h6 h7 => exact ⟨b, off, kv, rfl, rfl, h3, h4, h5, h6, h7⟩
end Go.Proofs.YtnhhnjmjodmacaaGreatDoor.Sha
