/- Drawn leaves: spec.leaves, spec.LeavesOf: at most 40 hashes, in a slice of the call's own. -/
import Derived.Test.YtnaoccndghnmpaaDoorSrcB
import Derived.Test.YtnaoccndghnmpaaDoorMkT
import Derived.Test.YtnaoccndghnmpaaDoorStrL
import Derived.Test.YtnaoccndghnmpaaDoorAppR
import Derived.Deep.RegionLaw
import Derived.Deep.RegionHeld3
import Derived.Deep.AppendLies
namespace Go.Proofs.YtnaoccndghnmpaaDoor
open Go.ChangeShapes Go.WideShapes Go.ChangeAt Go.RowKit Sha
set_option linter.unusedVariables false
set_option linter.unusedSimpArgs false

theorem Src.below {w w' : World} {b : Nat} {a : Option Addr} {cap : Nat} {l : List Int} {M : Int} (h : Src w b a cap l M) (hb : Below w.heap.size w w') : Src w' b a cap l M := by
  obtain ⟨p, s, h1, h2, h3, h4, c0, c1, c2, hf, hlt, hc, hrg, hl⟩ := h
  refine ⟨p, s, h1, h2, h3, h4, (hb.cell (p := ⟨b, 0, none⟩) hlt).trans c0, (hb.cell (p := ⟨b, 1, none⟩) hlt).trans c1, (hb.cell (p := ⟨b, 2, none⟩) hlt).trans c2, fun j => (hb.frozen (p := ⟨b, j, none⟩) hlt).trans (hf j), Nat.lt_of_lt_of_le hlt hb.size, ?_, hrg, hl⟩
  rcases hc with h0 | ⟨c, off, ha, hcb, hcell⟩
  · exact .inl h0
  · exact .inr ⟨c, off, ha, hcb, fun i hi => (hb.cell (p := ⟨c, off + i, none⟩) (by show c < w.heap.size; omega)).trans (hcell i hi)⟩
theorem conv_two (w : World) (a b : Int) : (convert 22 9 (.slice (some ⟨w.heap.size, 0, none⟩) 2 2)).run Tryd.prog (w.alloc (.cells #[.int .u8 a, .int .u8 b] 5)) = .ok (.string (strOfNums [a, b])) (w.alloc (.cells #[.int .u8 a, .int .u8 b] 5)) :=
  run_convert_bytes_arg (P := Tryd.prog) _ 22 5 Tryd.underlying22 Tryd.underlying5 w.heap.size 0 2 2 [a, b] rfl (fun i hi => by
    rw [World.cell?_alloc_at _ _ _ _ rfl]
    match i, hi with
    | 0, _ => rfl
    | 1, _ => rfl) 9 Tryd.underlying9
theorem two_size (a b : Int) : (strOfNums [a, b]).size = 2 := by simp [strOfNums, ByteArray.size]
theorem leaf_size {a : ByteArray} (h : a.size ≤ 65535) : (leafV a).size = 32 := hash_size (by simp [bytesI_len]; omega)
theorem chanceL_any (n : Int) (w : World) (b : Nat) (a : Option Addr) (cap : Nat) (l : List Int) (M : Int) (h : Src w b a cap l M) (hM : M ≤ 900000000) (hn : 1 ≤ n) (hn2 : n < 16777216) :
    Calls Tryd.prog 67 #[.pointer (some ⟨b, 0, none⟩), .int .i64 n] w fun e w' => ∃ q : Bool, e = .returned (.bool q) ∧ Src w' b a cap l (M + 3) ∧ OnlyAt b w w' := by
  have H := hide h
  clear h
  go_enter Tryd.func67, Tryd.ntmps67
  go_wp2_with fail
  refine (srcNext_any n w b a cap l M (unhide H) hM hn hn2).mono ?_
  rintro e w1 ⟨x, rfl, hx0, hx1, hS, hO⟩
  have R := hide (And.intro hS hO)
  clear hS hO H
  go_wp2_with fail
  go_ret
  exact ⟨_, rfl, (unhide R).1, (unhide R).2⟩
/-- A row of drawn leaves: hashes, in a slice of the call's own. -/
structure Row (B b : Nat) (w0 : World) (a : Option Addr) (cap : Nat) (l : List Int) (v : Value) (L : List ByteArray) (M : Int) (w : World) : Prop where
  own : OwnS B w v L
  nn : v ≠ .slice none 0 0
  hash : AllH L
  src : Src w b a cap l M
  bel : Below b w0 w
  lt : B < w.heap.size
theorem Row.below {B b : Nat} {w0 : World} {a : Option Addr} {cap : Nat} {l : List Int} {v : Value} {L : List ByteArray} {M : Int} {w w' : World} (h : Row B b w0 a cap l v L M w) (hb : Below w.heap.size w w') : Row B b w0 a cap l v L M w' :=
  ⟨h.own.below hb, h.nn, h.hash, h.src.below hb, h.bel.trans (hb.mono (Nat.le_of_lt h.src.lt)), Nat.lt_of_lt_of_le h.lt hb.size⟩
theorem Row.drawn {B b : Nat} {w0 : World} {a : Option Addr} {cap : Nat} {l : List Int} {v : Value} {L : List ByteArray} {M M' : Int} {w w' : World} (h : Row B b w0 a cap l v L M w) (hb : b < B) (hS : Src w' b a cap l M') (hO : OnlyAt b w w') : Row B b w0 a cap l v L M' w' :=
  ⟨own_onlyAt h.own hO hb, h.nn, h.hash, hS, hO.below h.bel (Nat.le_refl _) (Nat.le_of_lt h.src.lt), by have := hO.1; have := h.lt; omega⟩
theorem Row.mono {B b : Nat} {w0 : World} {a : Option Addr} {cap : Nat} {l : List Int} {v : Value} {L : List ByteArray} {M M' : Int} {w : World} (h : Row B b w0 a cap l v L M w) (hm : M ≤ M') : Row B b w0 a cap l v L M' w := ⟨h.own, h.nn, h.hash, h.src.mono hm, h.bel, h.lt⟩
theorem oneRw (w : World) (t : ByteArray) : Rw (w.alloc (.cells #[.string t] 9)) (.slice (some ⟨w.heap.size, 0, none⟩) 1 1) 1 [.string t] := ⟨_, _, rfl, .inr ⟨_, rfl, World.news_of_block (cs := #[.string t]) (t := 9) (fr := (0, 0)) (heap_alloc_new w _)⟩⟩
theorem Sha.AllH.push {L : List ByteArray} {t : ByteArray} (h : AllH L) (ht : t.size = 32) : AllH (L ++ [t]) := fun j hj => by
  rw [List.getD_eq_getElem?_getD]
  rcases Nat.lt_or_ge j L.length with h1 | h1
  · rw [List.getElem?_append_left h1, ← List.getD_eq_getElem?_getD]
    exact h j h1
  · have : j = L.length := by rw [List.length_append] at hj; simp at hj; omega
    subst this
    simpa using ht
theorem stopAt {p : Prop} (h : Hid p) : p := unhide h
theorem Row.grew {B b : Nat} {w0 : World} {a : Option Addr} {cap : Nat} {l : List Int} {g c : Nat} {L L' : List ByteArray} {M : Int} {w wa w' : World} {a' : Option Addr} {c' n : Nat} (h : Row B b w0 a cap l (.slice (some ⟨g, 0, none⟩) L.length c) L M w) (hbB : b < B) (hwa : Row B b w0 a cap l (.slice (some ⟨g, 0, none⟩) L.length c) L M wa) (hn : n = L'.length) (hnn : Value.slice a' n c' ≠ .slice none 0 0) (hA : AllH L')
    (hown : w'.ownsRow B 9 1 (.slice a' n c') n (L'.map Value.string)) (hg : wa.grownBy w' (some g)) : Row B b w0 a cap l (.slice a' n c') L' M w' := by
  have hBg := (h.own.lt g rfl).1
  refine ⟨by unfold OwnS; rw [← hn]; exact hown, hnn, hA, hwa.src.grown hg (fun k e => by cases e; omega), hwa.bel.grown hg (Nat.le_of_lt hwa.src.lt) (fun r hr => by cases hr; omega), Nat.lt_of_lt_of_le hwa.lt hg.size⟩
theorem headRw {B : Nat} {w : World} {g c : Nat} {L : List ByteArray} (h : OwnS B w (.slice (some ⟨g, 0, none⟩) L.length c) L) (h0 : 0 < L.length) : Rw w (.slice (some ⟨g, 0, none⟩) 1 c) 1 [.string (L.getD 0 ByteArray.empty)] := by
  refine ⟨_, _, rfl, .inr ⟨_, rfl, fun j u hu => ?_⟩⟩
  have hj : j = 0 := by
    rcases Nat.lt_or_ge j 1 with h1 | h1
    · omega
    · rw [List.getElem?_eq_none (by simpa using h1)] at hu; cases hu
  subst hj
  have hadd : (⟨g, 0, none⟩ : Addr).add 0 = ⟨g, 0, none⟩ := by unfold Addr.add; rfl
  rw [hadd, OwnS.cell h 0 h0]
  simpa using hu
theorem OnlyAt.touchL {b : Nat} {w w' : World} (h : OnlyAt b w w') : Touch (fun k => k = b) w w' :=
  ⟨h.2.os, h.2.tape, h.2.output, h.2.size, fun k hk hn => h.2.block k hk (fun e => hn (by simpa using e))⟩
set_option maxRecDepth 100000 in
set_option maxHeartbeats 2000000 in
theorem leaves_any (w : World) (b : Nat) (a : Option Addr) (cap : Nat) (l : List Int) (M : Int) (h : Src w b a cap l M) (hM : M ≤ 100000000) :
    Calls Tryd.prog 27 #[.pointer (some ⟨b, 0, none⟩)] w fun e w' => ∃ v L, e = .returned v ∧ L.length ≤ 66 ∧ Row w.heap.size b w a cap l v L (M + 1000) w' := by
  have hbl : b < w.heap.size := h.lt
  obtain ⟨i0, hi, hz0', hz1', hz2'⟩ := info_parts9
  have H := hide h
  have R0 : Hid (Row w.heap.size b w a cap l (.slice (some ⟨w.heap.size, 0, none⟩) 0 0) [] M (w.alloc (.cells #[] 9))) := hide
    ⟨owns_made' (base := w.heap.size) (e := 9) w w.heap.size rfl (Nat.le_refl _), by simp, fun j hj => by simp at hj, h.alloc _, (Below.refl _ _).alloc (by omega) _, by simp⟩
  clear h
  go_enter Tryd.func27, Tryd.ntmps27
  generalize hX : w.heap.size = X at *
  have R1 := hide ((unhide R0).below ((Below.refl _ _).alloc (Nat.le_refl _) (.cells #[.int .i64 4, .int .i64 10, .int .i64 20] 3)))
  have T1 := hide (Blk.new (w.alloc (.cells #[] 9)) #[.int .i64 4, .int .i64 10, .int .i64 20] 3 (X + 1) (by simp [hX]))
  go_wp2_with fail
  clear R0 H
  generalize (w.alloc (.cells #[] 9)).alloc (.cells #[.int .i64 4, .int .i64 10, .int .i64 20] 3) = w1 at *
  refine (srcNext_any 3 w1 b a cap l M (unhide R1).src (by omega) (by omega) (by omega)).mono ?_
  rintro e w2 ⟨x, rfl, hx0, hx1, hS2, hO2⟩
  have R2 := hide ((unhide R1).drawn hbl hS2 hO2)
  have T2 := (unhide T1).kept hO2.touchL (by omega)
  obtain ⟨xn, rfl⟩ : ∃ n : Nat, x = (n : Int) := ⟨x.toNat, by omega⟩
  obtain ⟨y, hy0, hy1, cy⟩ : ∃ y : Int, 1 ≤ y ∧ y ≤ 20 ∧ w2.cell? ⟨X + 1, xn, none⟩ = some (.int .i64 y) := by
    rcases (show xn = 0 ∨ xn = 1 ∨ xn = 2 by omega) with rfl | rfl | rfl
    · exact ⟨4, by omega, by omega, T2.cell 0 rfl⟩
    · exact ⟨10, by omega, by omega, T2.cell 1 rfl⟩
    · exact ⟨20, by omega, by omega, T2.cell 2 rfl⟩
  clear hS2 hO2 T2 T1 R1
  go_wp2_with fail
  refine (srcNext_any y w2 b a cap l (M + 3) (unhide R2).src (by omega) (by omega) (by omega)).mono ?_
  rintro e w3 ⟨z, rfl, hz0, hz1, hS3, hO3⟩
  have R3 := hide ((unhide R2).drawn hbl hS3 hO3)
  obtain ⟨zn, rfl⟩ : ∃ n : Nat, z = (n : Int) := ⟨z.toNat, by omega⟩
  clear hS3 hO3 R2 cy
  go_wp2_with fail
  go_loopw [3, 4] (fun v i wr => ∃ (k : Nat) (L : List ByteArray), i = .int .i64 k ∧ L.length + k ≤ 20 ∧ Row X b w a cap l v L (M + 6 + 3 * L.length) wr) (fun _ i _ => (intOf i).toNat)
  case atStart => exact ⟨zn, [], rfl, by simp; omega, (unhide R3).mono (by simp; omega)⟩
  case round =>
    clear R3
    obtain ⟨k, L, rfl, hkL, hR⟩ := hrel
    rcases hR.own.2 with ⟨e, _⟩ | ⟨g, c, cur, rfl, hBg, _⟩
    · exact absurd e hR.nn
    have RR := hide hR
    clear hR
    by_cases hk : k = 0
    · subst hk
      go_wp2_with fail
      refine (chanceL_any 40 wr b a cap l _ (unhide RR).src (by omega) (by omega) (by omega)).mono ?_
      rintro e w4 ⟨q, rfl, hS4, hO4⟩
      have R4 := hide ((unhide RR).drawn hbl hS4 hO4)
      clear hS4 hO4 RR
      cases q
      · go_wp2_with fail
        go_ret
        exact ⟨_, L, rfl, by omega, (unhide R4).mono (by omega)⟩
      go_wp2_with fail
      go_loopw [3] (fun v wr => ∃ L : List ByteArray, L.length ≤ 65 ∧ Row X b w a cap l v L (M + 100 + 3 * L.length) wr) (fun v _ => match v with | .slice _ n _ => 66 - n | _ => 0)
      case atStart => exact ⟨L, by omega, (unhide R4).mono (by omega)⟩
      case round =>
        clear R4 hkL hBg
        obtain ⟨L, hL, hR⟩ := hrel
        rcases hR.own.2 with ⟨e, _⟩ | ⟨g, c, cur, rfl, hBg, _⟩
        · exact absurd e hR.nn
        have RR := hide hR
        clear hR
        go_wp2_with fail
        refine (srcNext_any 2 _ b a cap l _ (unhide RR).src (by omega) (by omega) (by omega)).mono ?_
        rintro e w5 ⟨x5, rfl, hx50, hx51, hS5, hO5⟩
        have R5 := hide ((unhide RR).drawn hbl hS5 hO5)
        clear hS5 hO5 RR
        have k1 : IntKind.i64.wrap (64 + x5) = 64 + x5 := by
          rcases (show x5 = 0 ∨ x5 = 1 by omega) with rfl | rfl <;> rfl
        by_cases hlt : (L.length : Int) < 64 + x5
        case neg =>
          go_wp2_with fail
          go_ret
          exact ⟨_, L, rfl, by omega, (unhide R5).mono (by omega)⟩
        by_cases h0 : L.length = 0
        · obtain rfl : L = [] := List.eq_nil_of_length_eq_zero h0
          have k2 : min (1 : Int) (0 : Int) = 0 := rfl
          go_wp2_with fail
          have z6 := leaf_size (a := ⟨#[]⟩) (by decide)
          refine (l06Leaf_any ⟨#[]⟩ w5 (by decide)).mono ?_
          rintro e w6 ⟨rfl, hb6⟩
          have R6 := hide ((unhide R5).below hb6)
          have R7 := hide ((unhide R6).below ((Below.refl _ _).alloc (Nat.le_refl _) (.cells #[.string (leafV ⟨#[]⟩)] 9)))
          clear hb6 R5
          generalize leafV ⟨#[]⟩ = lf at *
          go_wp2_with (at_builtin; refine wpList_append_row _ rfl _ _ _ rfl X 9 i0 _ 1 16 Tryd.underlying23 hi hz0' hz1' hz2' rfl (by omega) _ 0 [] rfl (unhide R7).own _ 1 [.string lf] rfl (oneRw w6 lf) rfl (by simp [Value.oneCell']) (by unfold maxLen; omega) (by omega) (Nat.le_of_lt (unhide R7).lt) ?_; intro a8 c8 w8 hown8 hgrow8 hat8; have R8 := hide ((unhide R6).grew hbl (unhide R7) (L' := [lf]) (n := 0 + 1) (by simp) (fun e => by simp only [Value.slice.injEq] at e; omega) (fun j hj => by (obtain rfl : j = 0 := by simpa using hj); exact z6) hown8 hgrow8); clear hown8 hgrow8 hat8)
          refine ⟨⟨[lf], by simp, (unhide R8).mono (by simp)⟩, ?_⟩
          simp
        · have k2 : min (1 : Int) (L.length : Int) = 1 := by omega
          have k3 : (1 : Int) ≤ (c : Int) := by
            rcases own_shape (unhide R5).own with ⟨e, _⟩ | ⟨g', c', e, _, _, hn, _⟩
            · cases e
            · simp only [Value.slice.injEq] at e
              omega
          go_wp2_with (at_builtin; refine wpList_append_row _ rfl _ _ _ rfl X 9 i0 _ 1 16 Tryd.underlying23 hi hz0' hz1' hz2' rfl (by omega) _ L.length (L.map Value.string) rfl (unhide R5).own _ 1 [.string (L.getD 0 ByteArray.empty)] rfl (headRw (unhide R5).own (by omega)) rfl (by simp [Value.oneCell']) (by unfold maxLen; omega) (by omega) (Nat.le_of_lt (unhide R5).lt) ?_; intro a6 c6 w6 hown6 hgrow6 hat6; have R6 := hide ((unhide R5).grew hbl (unhide R5) (L' := L ++ [L.getD 0 ByteArray.empty]) (n := L.length + 1) (by simp) (fun e => by simp only [Value.slice.injEq] at e; omega) ((unhide R5).hash.push ((unhide R5).hash 0 (by omega))) (by rw [List.map_append]; exact hown6) hgrow6); clear hown6 hgrow6 hat6)
          refine ⟨⟨L ++ [L.getD 0 ByteArray.empty], by simp; omega, (unhide R6).mono (by simp; omega)⟩, ?_⟩
          simp
          omega
    · have hk0 : (0 : Int) < (k : Int) := by omega
      go_wp2_with fail
      refine (srcNext_any 3 wr b a cap l _ (unhide RR).src (by omega) (by omega) (by omega)).mono ?_
      rintro e w4 ⟨x4, rfl, hx40, hx41, hS4, hO4⟩
      have R4 := hide ((unhide RR).drawn hbl hS4 hO4)
      have hcv := conv_two w4 (k : Int) x4
      have R5 := hide ((unhide R4).below ((Below.refl _ _).alloc (Nat.le_refl _) (.cells #[.int .u8 (k : Int), .int .u8 x4] 5)))
      clear hS4 hO4 RR R4
      go_wp2_with fail
      generalize w4.alloc (.cells #[.int .u8 (k : Int), .int .u8 x4] 5) = w5 at *
      have z5 := leaf_size (a := strOfNums [(k : Int), x4]) (by rw [two_size]; omega)
      refine (l06Leaf_any (strOfNums [(k : Int), x4]) w5 (by rw [two_size]; omega)).mono ?_
      rintro e w6 ⟨rfl, hb6⟩
      have R6 := hide ((unhide R5).below hb6)
      have R7 := hide ((unhide R6).below ((Below.refl _ _).alloc (Nat.le_refl _) (.cells #[.string (leafV (strOfNums [(k : Int), x4]))] 9)))
      clear hb6 R5 hcv
      generalize leafV (strOfNums [(k : Int), x4]) = lf at *
      go_wp2_with (at_builtin; refine stopAt ?_)
      refine hide ?_
      refine wpList_append_row _ rfl _ _ _ rfl X 9 i0 _ 1 16 Tryd.underlying23 hi hz0' hz1' hz2' rfl (by omega) _ L.length (L.map Value.string) rfl (unhide R7).own _ 1 [.string lf] rfl (oneRw w6 lf) rfl (by simp [Value.oneCell']) (by unfold maxLen; omega) (by omega) (Nat.le_of_lt (unhide R7).lt) ?_
      intro a8 c8 w8 hown8 hgrow8 hat8
      have R8 := hide ((unhide R6).grew hbl (unhide R7) (L' := L ++ [lf]) (n := L.length + 1) (by simp) (fun e => by simp only [Value.slice.injEq] at e; omega) ((unhide R6).hash.push z5) (by rw [List.map_append]; exact hown8) hgrow8)
      clear hown8 hgrow8 hat8
      go_wp2_with fail
      refine ⟨⟨k - 1, L ++ [lf], ?_, by simp; omega, (unhide R8).mono (by simp; omega)⟩, ?_⟩
      · exact congrArg (Value.int .i64) (by omega)
      · simp [intOf]; omega
theorem OwnS.head {B : Nat} {w : World} {g c : Nat} {L : List ByteArray} (h : OwnS B w (.slice (some ⟨g, 0, none⟩) L.length c) L) (k : Nat) (hk : k ≤ L.length) : OwnS B w (.slice (some ⟨g, 0, none⟩) (L.take k).length c) (L.take k) := by
  have htl : (L.take k).length = k := by rw [List.length_take]; omega
  obtain ⟨hl, h⟩ := h
  unfold OwnS
  rw [htl]
  rcases h with ⟨hv, _⟩ | ⟨g', cap, cur, hv, hB, hg, hn, hm, hz, ht⟩
  · cases hv
  · simp only [Value.slice.injEq, Option.some.injEq, Addr.mk.injEq] at hv
    obtain ⟨⟨rfl, _⟩, _, rfl⟩ := hv
    refine ⟨by rw [List.length_map, htl]; omega, .inr ⟨g, c, cur, rfl, hB, hg, by omega, hm, hz, ?_⟩⟩
    have e : cur.toList.take (k * 1) = (cur.toList.take (L.length * 1)).take (k * 1) := by rw [List.take_take, Nat.min_eq_left (by omega)]
    rw [e, ht, Nat.mul_one, List.map_take]
set_option maxRecDepth 100000 in
set_option maxHeartbeats 1000000 in
theorem leavesOf_any (a : Option Addr) (cap : Nat) (l : List Int) (w : World) (h : Bytes w (.slice a l.length cap) l) (hl : l.length ≤ 2097152) :
    Calls Tryd.prog 6 #[.slice a l.length cap] w fun e w' => ∃ g c L, e = .returned (.slice (some ⟨g, 0, none⟩) L.length c) ∧ L.length ≤ 40 ∧ AllH L ∧ OwnS w.heap.size w' (.slice (some ⟨g, 0, none⟩) L.length c) L ∧ Below w.heap.size w w' := by
  have HS := hide (l00Source_any a cap l w h hl)
  clear h
  go_enter Tryd.func6, Tryd.ntmps6
  go_wp2_with fail
  refine (unhide HS).mono ?_
  rintro e w1 ⟨rfl, hS1, hb1⟩
  have HL := hide (leaves_any w1 w.heap.size a cap l 0 hS1 (by omega))
  have B1 := hide hb1
  clear hS1 hb1 HS
  go_wp2_with fail
  refine (unhide HL).mono ?_
  rintro e w2 ⟨v, L, rfl, hL, hR⟩
  rcases hR.own.2 with ⟨e, _⟩ | ⟨g, c, cur, rfl, hBg, _⟩
  · exact absurd e hR.nn
  have hcL : L.length ≤ c ∧ c ≤ 9223372036854775807 := by
    rcases own_shape hR.own with ⟨e, _⟩ | ⟨g', c', e, _, _, hn, hm⟩
    · cases e
    · simp only [Value.slice.injEq] at e
      obtain ⟨_, _, rfl⟩ := e
      unfold maxLen at hm
      exact ⟨hn, by omega⟩
  have RR := hide (And.intro hR.own (And.intro hR.hash ((unhide B1).trans hR.bel)))
  have hw1 := (unhide B1).size
  have hc1 := hcL.1
  clear hR HL
  by_cases h40 : 40 < L.length
  · have RT := hide (And.intro ((unhide RR).1.head 40 (by omega)) ((unhide RR).2.1.take 40))
    have htl : (L.take 40).length = 40 := by rw [List.length_take]; omega
    rw [htl] at RT
    have k0 : ¬ (L.length : Int) < 40 := by omega
    have k1 : (40 : Int) < (L.length : Int) := by omega
    have k2 : (40 : Int) ≤ (c : Int) := by omega
    go_wp2_with fail
    go_ret
    exact ⟨g, c, L.take 40, by rw [htl]; rfl, by omega, (unhide RT).2, by rw [htl]; exact World.ownsRow.mono (unhide RT).1 hw1, (unhide RR).2.2⟩
  · by_cases h41 : L.length = 40
    · have k0 : (L.length : Int) = 40 := by omega
      have k2 : (40 : Int) ≤ (c : Int) := by omega
      rw [h41] at RR
      go_wp2_with fail
      go_ret
      exact ⟨g, c, L, by rw [h41]; rfl, by omega, (unhide RR).2.1, by rw [h41]; exact World.ownsRow.mono (unhide RR).1 hw1, (unhide RR).2.2⟩
    · have k0 : (L.length : Int) < 40 := by omega
      have k1 : ¬ (40 : Int) < (L.length : Int) := by omega
      have k2 : (L.length : Int) ≤ (c : Int) := by omega
      go_wp2_with fail
      go_ret
      exact ⟨g, c, L, rfl, by omega, (unhide RR).2.1, World.ownsRow.mono (unhide RR).1 hw1, (unhide RR).2.2⟩
end Go.Proofs.YtnaoccndghnmpaaDoor
