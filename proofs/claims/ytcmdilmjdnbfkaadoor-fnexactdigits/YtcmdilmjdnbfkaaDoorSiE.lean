/- A row of numbers of one's own, in an array's block: marks; impl.Digits. -/
import Derived.Test.YtcmdilmjdnbfkaaDoorSiD
import Derived.Test.YtcmdilmjdnbfkaaDoorMarkI
namespace Go.Proofs.YtcmdilmjdnbfkaaDoor.Sha
open Go.ChangeShapes Go.WideShapes Go.ChangeAt Go.RowKit
set_option linter.unusedVariables false

/-- The value is a slice of the numbers l, in a block from B on that may be written; or nil. -/
def OwnR (B : Nat) (w : World) (v : Value) (l : List Int) : Prop := (v = .slice none 0 0 ∧ l = []) ∨ ∃ g, v = .slice (some ⟨g, 0, none⟩) l.length l.length ∧ B ≤ g ∧ g < w.heap.size ∧ RowI w g l.length (fun j => l.getD j 0)
theorem RowI.kept {T : Nat → Prop} {w w' : World} {b n : Nat} {f : Nat → Int} (h : RowI w b n f) (hb : b < w.heap.size) (ht : Touch T w w') (hn : ¬ T b) : RowI w' b n f := fun j hj =>
  ⟨(ht.cell (p := ⟨b, j, none⟩) hb hn).trans (h j hj).1, (ht.frozen (p := ⟨b, j, none⟩) hb hn).trans (h j hj).2⟩
theorem OwnR.kept {T : Nat → Prop} {B : Nat} {w w' : World} {v : Value} {l : List Int} (h : OwnR B w v l) (ht : Touch T w w') (hn : ∀ k, v.ownBlock = some k → ¬ T k) : OwnR B w' v l := by
  rcases h with h | ⟨g, rfl, hB, hlt, hr⟩
  · exact .inl h
  · exact .inr ⟨g, rfl, hB, Nat.lt_of_lt_of_le hlt ht.size, hr.kept hlt ht (hn g rfl)⟩
theorem OwnR.below {B : Nat} {w w' : World} {v : Value} {l : List Int} (h : OwnR B w v l) (hb : Below w.heap.size w w') : OwnR B w' v l := h.kept (T := fun _ => False) (Touch.ofBelow hb) (fun _ _ h => h)
theorem OwnR.ints {B : Nat} {w : World} {v : Value} {l : List Int} (h : OwnR B w v l) (hl : l.length ≤ maxLen) : Ints w v l := by
  rcases h with ⟨rfl, rfl⟩ | ⟨g, rfl, hB, hlt, hr⟩
  · exact ⟨none, 0, rfl, hl, .inl rfl⟩
  · exact ⟨_, _, rfl, hl, .inr ⟨g, 0, rfl, hlt, fun i hi => by rw [Nat.zero_add]; exact (hr i hi).1⟩⟩
theorem OwnR.lt {B : Nat} {w : World} {v : Value} {l : List Int} (h : OwnR B w v l) : ∀ k, v.ownBlock = some k → B ≤ k ∧ k < w.heap.size := by
  rcases h with ⟨rfl, rfl⟩ | ⟨g, rfl, hB, hlt, hr⟩
  · intro k hk; cases hk
  · intro k hk; cases hk; exact ⟨hB, hlt⟩
theorem OwnR.down {B B' : Nat} {w : World} {v : Value} {l : List Int} (h : OwnR B w v l) (hb : B' ≤ B) : OwnR B' w v l := by
  rcases h with h | ⟨g, rfl, hB, hlt, hr⟩
  · exact .inl h
  · exact .inr ⟨g, rfl, by omega, hlt, hr⟩
theorem setCells_size (b : Nat) : ∀ (vs : List Value) (o : Nat) (w : World), (w.setCells b o vs).heap.size = w.heap.size
  | [], _, _ => rfl
  | v :: r, o, w => by rw [World.setCells, setCells_size b r]; simp
set_option maxRecDepth 100000 in
set_option maxHeartbeats 1000000 in
theorem markR_any (B : Nat) (v : Value) (l : List Int) (w : World) (h : OwnR B w v l) (hl : l.length ≤ 1048576) :
    Calls Tryd.prog 12 #[v, .int .i64 1] w fun e w' => e = .returned (.int .i64 (1 + (l.length : Int))) ∧ OwnR B w' v (marksI l.length) ∧ Touch (fun k => v.ownBlock = some k) w w' := by
  rcases h with ⟨rfl, rfl⟩ | ⟨g, rfl, hB, hlt, hr⟩
  · go_enter Tryd.func12, Tryd.ntmps12
    go_wp2_with fail
    go_loopw [1, 5] (fun k i wr => k = .int .i64 1 ∧ i = .int .i64 0 ∧ wr = w) (fun _ _ _ => 0)
    case atStart => exact ⟨rfl, rfl, rfl⟩
    case round =>
      obtain ⟨rfl, rfl, rfl⟩ := hrel
      go_wp2_with fail
      go_ret
      exact ⟨rfl, .inl ⟨rfl, rfl⟩, Touch.refl _ _⟩
  · have HR := hide hr
    have HL := hide hlt
    clear hr hlt
    have HM : Hid (∀ j, j < l.length → markF l l.length j = (marksI l.length).getD j 0) := hide (fun j hj => by rw [marksI_get _ _ hj]; unfold markF; rw [if_pos hj])
    generalize hn : l.length = n at *
    clear hn
    go_enter Tryd.func12, Tryd.ntmps12
    go_wp2_with fail
    go_loopw [1, 5] (fun k i wr => ∃ j : Nat, j ≤ n ∧ k = .int .i64 (1 + (j : Int)) ∧ i = .int .i64 j ∧ RowI wr g n (markF l j) ∧ Touch (fun k => k = g) w wr) (fun _ i _ => n - (intOf i).toNat)
    case atStart => exact ⟨0, Nat.zero_le _, rfl, rfl, (unhide HR).congr fun j _ => by unfold markF; rw [if_neg (by omega)], Touch.refl _ _⟩
    case round =>
      obtain ⟨j, hj, rfl, rfl, hL, hT⟩ := hrel
      by_cases hlt2 : j < n
      · obtain ⟨c1, f1⟩ := hL j hlt2
        have R := hide (And.intro ((hL.set j (1 + (j : Int))).congr (g := markF l (j + 1)) (fun i hi => by
          unfold markF
          by_cases e : i = j
          · subst e; rw [if_pos rfl, if_pos (by omega)]
          · rw [if_neg e]
            by_cases h1 : i < j
            · rw [if_pos h1, if_pos (by omega)]
            · rw [if_neg h1, if_neg (by omega)])) (hT.setCell ⟨g, j, none⟩ (.int .i64 (1 + (j : Int))) (fun _ => rfl)))
        have p0 : (0 : Int) ≤ (j : Int) := by omega
        have p1 : (j : Int) < (n : Int) := by omega
        clear hL hT
        go_wp2_with fail
        refine ⟨⟨j + 1, by omega, by go_num, by go_num, (unhide R).1, (unhide R).2⟩, ?_⟩
        simp [intOf]; omega
      · obtain rfl : j = n := by omega
        have R := hide (And.intro hL hT)
        clear hL hT
        go_wp2_with fail
        go_ret
        refine ⟨rfl, .inr ⟨g, by rw [marksI_len], hB, ?_, ?_⟩, ?_⟩
        · exact Nat.lt_of_lt_of_le (unhide HL) (unhide R).2.size
        · rw [marksI_len]; exact (unhide R).1.congr (unhide HM)
        · exact (Touch.refl (fun k => (Value.slice (some ⟨g, 0, none⟩) j j).ownBlock = some k) w).trans (unhide R).2 (fun k _ e => by subst e; rfl)
set_option maxRecDepth 100000 in
set_option maxHeartbeats 1000000 in
theorem heldR_any (B : Nat) (v : Value) (n : Nat) (w : World) (h : OwnR B w v (marksI n)) (hn : n ≤ 1048576) :
    Calls Tryd.prog 13 #[v, .int .i64 1] w fun e w' => e = .returned (.int .i64 (1 + (n : Int))) ∧ w' = w := by
  rcases h with ⟨rfl, h0⟩ | ⟨g, rfl, hB, hlt, hr⟩
  · have hn0 : n = 0 := by have := congrArg List.length h0; rw [marksI_len] at this; simpa using this
    subst hn0
    clear h0
    go_enter Tryd.func13, Tryd.ntmps13
    go_wp2_with fail
    go_loop [1, 5] (fun k i => k = .int .i64 1 ∧ i = .int .i64 0) (fun _ _ => 0)
    case atStart => exact ⟨rfl, rfl⟩
    case round =>
      obtain ⟨rfl, rfl⟩ := hrel
      go_wp2_with fail
      go_ret
      exact ⟨rfl, rfl⟩
  · rw [marksI_len] at hr ⊢
    have HC : Hid (∀ j, j < n → w.cell? ⟨g, j, none⟩ = some (.int .i64 (1 + (j : Int)))) := hide (fun j hj => by rw [← marksI_get n j hj]; exact (hr j hj).1)
    clear hr
    go_enter Tryd.func13, Tryd.ntmps13
    go_wp2_with fail
    go_loop [1, 5] (fun k i => ∃ j : Nat, j ≤ n ∧ k = .int .i64 (1 + (j : Int)) ∧ i = .int .i64 j) (fun _ i => n - (intOf i).toNat)
    case atStart => exact ⟨0, Nat.zero_le _, rfl, rfl⟩
    case round =>
      obtain ⟨j, hj, rfl, rfl⟩ := hrel
      by_cases hlt2 : j < n
      · have c1 := unhide HC j (by omega)
        have p0 : (0 : Int) ≤ (j : Int) := by omega
        have p1 : (j : Int) < (n : Int) := by omega
        go_wp2_with fail
        go_round
        case rel => exact ⟨j + 1, by omega, by go_num, by go_num⟩
        case measure => simp [intOf]; omega
      · obtain rfl : j = n := by omega
        go_wp2_with fail
        go_ret
        exact ⟨rfl, rfl⟩
def digL (h : ByteArray) : List Int := (List.range 18).map (dgF h)
theorem digL_len (h : ByteArray) : (digL h).length = 18 := by simp [digL]
theorem digL_get (h : ByteArray) (j : Nat) (hj : j < 18) : (digL h).getD j 0 = dgF h j := by simp [digL, List.getD_eq_getElem?_getD, hj]
/-- What Digits answers. -/
def dgOut (m : ByteArray) : List Int × Int := if 65536 < m.size then ([], 2) else (digL (hashV (bytesI m)), 0)
theorem dgOut_len (m : ByteArray) : (dgOut m).1.length ≤ 18 := by unfold dgOut; split <;> simp [digL_len]
theorem txC_msg (n : Nat) : txC n 0 65536 = if 65536 < n then 2 else 0 := by
  unfold txC; split
  · rfl
  · rw [if_pos (inB_iff.2 (by omega))]
theorem messageFault_any (s : ByteArray) (w : World) (hs : s.size ≤ maxLen) :
    Calls Tryd.prog 33 #[.string s] w fun e w' => e = .returned (.int .i64 (txC s.size 0 65536)) ∧ w' = w := by
  have H := hide (textFault_any s 0 65536 w hs)
  generalize txC s.size 0 65536 = c at *
  go_enter Tryd.func33, Tryd.ntmps33
  go_wp2_with fail
  refine (unhide H).mono ?_
  rintro e w9 ⟨rfl, hw9⟩
  subst w9
  go_wp2_with fail
  go_ret
  exact ⟨rfl, rfl⟩
set_option maxRecDepth 100000 in
set_option maxHeartbeats 2000000 in
theorem implDigits_any (m : ByteArray) (w : World) (hs : m.size ≤ maxLen) (ht : Tab w) :
    Calls Tryd.prog 10 #[.string m] w fun e w' => ∃ v, e = .returned (.tuple #[v, .int .i64 (dgOut m).2]) ∧ OwnR w.heap.size w' v (dgOut m).1 ∧ Below w.heap.size w w' := by
  have HF := hide (messageFault_any m w hs)
  rw [txC_msg] at HF
  unfold maxLen at hs
  by_cases h1 : 65536 < m.size
  · rw [if_pos h1] at HF
    have HO : Hid (dgOut m = ([], 2)) := hide (by unfold dgOut; rw [if_pos h1])
    go_enter Tryd.func10, Tryd.ntmps10
    go_wp2_with fail
    refine (unhide HF).mono ?_
    rintro e w9 ⟨rfl, hw9⟩
    subst w9
    go_wp2_with fail
    go_ret2
    exact ⟨_, by rw [unhide HO]; rfl, by rw [unhide HO]; exact .inl ⟨rfl, rfl⟩, Below.refl _ _⟩
  · rw [if_neg h1] at HF
    have HO : Hid (dgOut m = (digL (hashV (bytesI m)), 0)) := hide (by unfold dgOut; rw [if_neg h1])
    have HD := hide (digitsOf_any m w (by omega) ht)
    generalize hashV (bytesI m) = h at *
    have hi4 : (Tryd.prog.info? 54).map (·.size) = some (cellsI 18 (dgF h)).toArray.size := by rw [show (cellsI 18 (dgF h)).toArray.size = 18 by simp [cellsI_len]]; kernel_rfl
    go_enter Tryd.func10, Tryd.ntmps10
    go_wp2_with fail
    refine (unhide HF).mono ?_
    rintro e w9 ⟨rfl, hw9⟩
    subst w9
    go_wp2_with fail
    refine (unhide HD).mono ?_
    rintro e w1 ⟨rfl, hb1⟩
    have R1 : Hid (RowI (w1.alloc (.cells #[Value.int IntKind.i64 0, Value.int IntKind.i64 0, Value.int IntKind.i64 0, Value.int IntKind.i64 0, Value.int IntKind.i64 0, Value.int IntKind.i64 0, Value.int IntKind.i64 0, Value.int IntKind.i64 0, Value.int IntKind.i64 0, Value.int IntKind.i64 0, Value.int IntKind.i64 0, Value.int IntKind.i64 0, Value.int IntKind.i64 0, Value.int IntKind.i64 0, Value.int IntKind.i64 0, Value.int IntKind.i64 0, Value.int IntKind.i64 0, Value.int IntKind.i64 0] 54)) w1.heap.size 18 (fun _ => 0)) := hide (rowI_box w1 18 (fun _ => 0) 54 _ rfl)
    have hth : (w1.alloc (.cells #[Value.int IntKind.i64 0, Value.int IntKind.i64 0, Value.int IntKind.i64 0, Value.int IntKind.i64 0, Value.int IntKind.i64 0, Value.int IntKind.i64 0, Value.int IntKind.i64 0, Value.int IntKind.i64 0, Value.int IntKind.i64 0, Value.int IntKind.i64 0, Value.int IntKind.i64 0, Value.int IntKind.i64 0, Value.int IntKind.i64 0, Value.int IntKind.i64 0, Value.int IntKind.i64 0, Value.int IntKind.i64 0, Value.int IntKind.i64 0, Value.int IntKind.i64 0] 54)).there w1.heap.size 0 (cellsI 18 (dgF h)).toArray.size := by
      rw [show (cellsI 18 (dgF h)).toArray.size = 18 by simp [cellsI_len]]; exact (unhide R1).there
    have hst := hide ((unhide R1).stored (g := dgF h))
    have B1 := hide hb1
    have K := hide (below_setCells (b := w1.heap.size) hb1.size (cellsI 18 (dgF h)) 0 (hb1.alloc hb1.size (.cells #[Value.int IntKind.i64 0, Value.int IntKind.i64 0, Value.int IntKind.i64 0, Value.int IntKind.i64 0, Value.int IntKind.i64 0, Value.int IntKind.i64 0, Value.int IntKind.i64 0, Value.int IntKind.i64 0, Value.int IntKind.i64 0, Value.int IntKind.i64 0, Value.int IntKind.i64 0, Value.int IntKind.i64 0, Value.int IntKind.i64 0, Value.int IntKind.i64 0, Value.int IntKind.i64 0, Value.int IntKind.i64 0, Value.int IntKind.i64 0, Value.int IntKind.i64 0] 54)))
    clear hb1
    go_wp2_with (refine wpList_store_mid rfl 54 _ _ rfl w1.heap.size 0 _ rfl rfl ?hth hi4 (all_oneCell_toArray (cellsI_one _ _)) ?_)
    case hth => exact hth
    go_ret2
    refine ⟨_, by rw [unhide HO]; rfl, ?_, unhide K⟩
    rw [unhide HO]
    refine .inr ⟨w1.heap.size, by rw [digL_len]; rfl, (unhide B1).size, ?_, ?_⟩
    · rw [setCells_size]; simp
    · rw [digL_len]; exact (unhide hst).congr fun j hj => (digL_get h j hj).symm
end Go.Proofs.YtcmdilmjdnbfkaaDoor.Sha
