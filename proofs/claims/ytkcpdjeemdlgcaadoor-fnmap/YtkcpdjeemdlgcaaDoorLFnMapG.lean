/- For every two lists of bytes that can be read, laws.FnMap returns true, they read as they did, and so do the two tables of words, which the card ties to the program's text. Condition: the listed tables start as the program's text lays them. (Written by py/lfm.py.) -/
import Derived.Test.YtkcpdjeemdlgcaaDoorGwC
import Derived.Test.YtkcpdjeemdlgcaaDoorGwD
import Derived.Test.YtkcpdjeemdlgcaaDoorBrV
import Derived.Test.YtkcpdjeemdlgcaaDoorGwE
import Derived.Test.YtkcpdjeemdlgcaaDoorGwF
import Derived.Test.YtkcpdjeemdlgcaaDoorLawG
import Derived.Test.YtkcpdjeemdlgcaaDoorCards
import Derived.Test.YtkcpdjeemdlgcaaDoorTie
import Derived.Deep.Cut
import Derived.Deep.CutBlock
import Derived.Deep.AppendLies
namespace Go.Proofs.YtkcpdjeemdlgcaaDoor.fnMap
open Go.ChangeShapes Go.WideShapes Go.ChangeAt Go.RowKit Sha
open Go.ChangeMaps (open_string shut_string)
set_option linter.unusedVariables false
set_option linter.unusedSimpArgs false

/-- What is carried on while keys are drawn. -/
structure Ks (w : World) (i : Nat) (idx : List Nat) (ga : Option Addr) (gc : Nat) (wr : World) : Prop where
  b : Below w.heap.size w wr
  o : OwnS w.heap.size wr (.slice ga idx.length gc) (idx.map keyN)
  nd : idx.Nodup
  lt : ∀ j, j ∈ idx → j < 24
  ln : idx.length ≤ i
  ne : 1 ≤ i → 1 ≤ idx.length
theorem Ks.below {w : World} {i : Nat} {idx : List Nat} {ga : Option Addr} {gc : Nat} {wr wx : World} (h : Ks w i idx ga gc wr) (hb : Below wr.heap.size wr wx) : Ks w i idx ga gc wx :=
  ⟨h.b.trans (hb.mono h.b.size), h.o.below hb, h.nd, h.lt, h.ln, h.ne⟩
theorem infoStrM : (Tryd.prog.info? 9).map (fun i => (i.zero, i.size, i.bytes)) = some (some (.string ⟨#[]⟩), 1, 16) := by kernel_rfl
theorem keyN_eq (i j : Nat) (hi : i < 64) (hj : j < 64) : ((keyN i).toList == (keyN j).toList) = decide (i = j) := by
  by_cases e : i = j
  · subst e; simp
  · have hne : ¬ (keyN i).toList = (keyN j).toList := fun x => e (by
      have h := keyN_inj ⟨i, hi⟩ ⟨j, hj⟩ (by
        rw [ByteArray.toList_eq, ByteArray.toList_eq] at x
        exact ByteArray.ext (Array.ext' x))
      exact congrArg Fin.val h)
    rw [decide_eq_false e, beq_eq_false_iff_ne]
    exact hne
/-- A branch in a box, its rows in S. -/
def Bx (S : Nat → Prop) (w : World) (p : Nat) (b : Br) : Prop := ∃ sa c, Blk w p [.string b.key, .string b.val, .int .i64 b.at_, .slice sa b.kids.length c] ∧ Brs S w (.slice sa b.kids.length c) b.kids
theorem Bx.lt {S : Nat → Prop} {w : World} {p : Nat} {b : Br} (h : Bx S w p b) : p < w.heap.size := by
  obtain ⟨_, _, h1, _⟩ := h
  exact h1.1
theorem Bx.touch {S T : Nat → Prop} {w w' : World} {p : Nat} {b : Br} (h : Bx S w p b) (ht : Touch T w w') (hp : ¬ T p) (hS : ∀ k, S k → ¬ T k) : Bx S w' p b := by
  obtain ⟨sa, c, h1, h2⟩ := h
  exact ⟨sa, c, h1.kept ht hp, h2.touch ht hS⟩
theorem Bx.below {S : Nat → Prop} {w w' : World} {p : Nat} {b : Br} (h : Bx S w p b) (hb : Below w.heap.size w w') : Bx S w' p b := by
  obtain ⟨sa, c, h1, h2⟩ := h
  exact ⟨sa, c, h1.below hb, h2.blw hb⟩
theorem brs_nil (S : Nat → Prop) (w : World) : Brs S w (.slice none 0 0) [] := (show BrO w S (.slice none 0 0) [] from .nil _ _ _ (by unfold maxLen; omega)).brs
/-- Rows behind the two boxes. -/
structure Rw (lo hi : Nat) (w : World) (v : Value) (ks : List Br) : Prop where
  r : Brs (fun x => lo ≤ x ∧ x < hi) w v ks
theorem Rw.below {lo hi : Nat} {w w' : World} {v : Value} {ks : List Br} (h : Rw lo hi w v ks) (hb : Below w.heap.size w w') : Rw lo hi w' v ks := ⟨h.r.blw hb⟩
/-- What is carried on while the two maps grow. -/
structure St (w : World) (idx : List Nat) (g gc ab bb : Nat) (oa ob : Option Tr) (wr : World) : Prop where
  k : Ks w 8 idx (some ⟨g, 0, none⟩) gc wr
  ga : g < ab
  lo : w.heap.size ≤ ab
  lb : ab < bb
  xa : Bx (fun x => bb < x) wr ab (brOf oa)
  xb : Bx (fun x => bb < x) wr bb (brOf ob)
theorem St.below {w : World} {idx : List Nat} {g gc ab bb : Nat} {oa ob : Option Tr} {wr wx : World} (h : St w idx g gc ab bb oa ob wr) (hb : Below wr.heap.size wr wx) : St w idx g gc ab bb oa ob wx :=
  ⟨h.k.below hb, h.ga, h.lo, h.lb, h.xa.below hb, h.xb.below hb⟩
theorem Ks.touch {T : Nat → Prop} {w : World} {i : Nat} {idx : List Nat} {g gc : Nat} {wr wx : World} (h : Ks w i idx (some ⟨g, 0, none⟩) gc wr) (ht : Touch T wr wx) (hT : ∀ k, k < w.heap.size → ¬ T k) (hg : ¬ T g) : Ks w i idx (some ⟨g, 0, none⟩) gc wx :=
  ⟨h.b.trans (ht.below h.b.size hT), h.o.kept ht (fun k hk => by cases hk; exact hg), h.nd, h.lt, h.ln, h.ne⟩
theorem St.touch {T : Nat → Prop} {w : World} {idx : List Nat} {g gc ab bb : Nat} {oa ob : Option Tr} {wr wx : World} (h : St w idx g gc ab bb oa ob wr) (ht : Touch T wr wx) (hT : ∀ k, k < wr.heap.size → ¬ T k) : St w idx g gc ab bb oa ob wx := by
  have hx := ht.below (Nat.le_refl _) hT
  exact h.below hx
theorem St.size {w : World} {idx : List Nat} {g gc ab bb : Nat} {oa ob : Option Tr} {wr : World} (h : St w idx g gc ab bb oa ob wr) : bb < wr.heap.size := h.xb.lt
/-- The first box gets a new map. -/
theorem St.setA {w : World} {idx : List Nat} {g gc ab bb : Nat} {oa oa' ob : Option Tr} {wr : World} {sa : Option Addr} {c : Nat} (h : St w idx g gc ab bb oa ob wr) (hB : Brs (fun x => bb < x) wr (.slice sa (brOf oa').kids.length c) (brOf oa').kids) :
    St w idx g gc ab bb oa' ob (set4 wr ab (.string (brOf oa').key) (.string (brOf oa').val) (.int .i64 (brOf oa').at_) (.slice sa (brOf oa').kids.length c)) := by
  have hT := set4_touch wr ab (.string (brOf oa').key) (.string (brOf oa').val) (.int .i64 (brOf oa').at_) (.slice sa (brOf oa').kids.length c)
  have h1 := h.lo; have h2 := h.lb; have h3 := h.ga
  obtain ⟨_, _, hb, _⟩ := h.xa
  exact ⟨h.k.touch hT (fun k hk e => by omega) (fun e => by omega), h.ga, h.lo, h.lb, ⟨sa, c, set4_blk hb _ _ _ _, hB.touch hT (fun k hk e => by omega)⟩, h.xb.touch hT (fun e => by omega) (fun k hk e => by omega)⟩
theorem St.setB {w : World} {idx : List Nat} {g gc ab bb : Nat} {oa ob ob' : Option Tr} {wr : World} {sa : Option Addr} {c : Nat} (h : St w idx g gc ab bb oa ob wr) (hB : Brs (fun x => bb < x) wr (.slice sa (brOf ob').kids.length c) (brOf ob').kids) :
    St w idx g gc ab bb oa ob' (set4 wr bb (.string (brOf ob').key) (.string (brOf ob').val) (.int .i64 (brOf ob').at_) (.slice sa (brOf ob').kids.length c)) := by
  have hT := set4_touch wr bb (.string (brOf ob').key) (.string (brOf ob').val) (.int .i64 (brOf ob').at_) (.slice sa (brOf ob').kids.length c)
  have h1 := h.lo; have h2 := h.lb; have h3 := h.ga
  obtain ⟨_, _, hb, _⟩ := h.xb
  exact ⟨h.k.touch hT (fun k hk e => by omega) (fun e => by omega), h.ga, h.lo, h.lb, h.xa.touch hT (fun e => by omega) (fun k hk e => by omega), ⟨sa, c, set4_blk hb _ _ _ _, hB.touch hT (fun k hk e => by omega)⟩⟩
theorem less_tri2 : ∀ x y : List UInt8, (Op.bytesLess x y || x == y) = !(Op.bytesLess y x)
  | [], [] => by simp [Op.bytesLess]
  | [], b :: y => by simp [Op.bytesLess]
  | a :: x, [] => by simp [Op.bytesLess]
  | a :: x, b :: y => by
    have ih := less_tri2 x y
    have h1 : ∀ a b : UInt8, (a < b) = (a.toNat < b.toNat) := fun a b => by rw [UInt8.lt_iff_toNat_lt]
    have h2 : ∀ a b : UInt8, (a == b) = decide (a.toNat = b.toNat) := fun a b => by
      rw [Bool.eq_iff_iff]; simp [UInt8.toNat_inj]
    simp only [Op.bytesLess, List.cons_beq_cons, h1, h2]
    rcases Nat.lt_trichotomy a.toNat b.toNat with h | h | h
    · simp [h, Nat.lt_asymm h, Nat.ne_of_gt h]
    · rw [h]; simp at ih ⊢; exact ih
    · simp [h, Nat.lt_asymm h, Nat.ne_of_gt h]
theorem less_not {x y : List UInt8} (h : Op.bytesLess x y = true) : Op.bytesLess y x = false ∧ (y == x) = false := by
  have h2 := less_tri2 y x
  rw [h] at h2
  exact Bool.or_eq_false_iff.1 h2
/-- A choice out of at least one. -/
theorem at_in (v : Value) (l : List Int) (n : Int) (w : World) (h : Bytes w v l) (hn : 1 ≤ n) (hn2 : n ≤ 1000) :
    Calls Tryd.prog 14 #[v, .int .i64 0, .int .i64 n] w fun e w' => ∃ r : Int, e = .returned (.int .i64 r) ∧ 0 ≤ r ∧ r < n ∧ ∃ d, w' = w.drewN d := by
  by_cases h2 : 2 ≤ n
  · exact at_any v l 0 n w h (by omega) (by omega) h2 (by omega)
  · have h1 : n ≤ 1 := by omega
    clear h h2
    go_enter Tryd.func14, Tryd.ntmps14
    go_wp2_with fail
    go_ret
    exact ⟨0, rfl, by omega, by omega, 0, rfl⟩
theorem mem_take_succ {idx : List Nat} {i x y : Nat} (hx : idx[i]? = some x) : y ∈ idx.take (i + 1) ↔ y = x ∨ y ∈ idx.take i := by
  rw [List.take_add_one, hx]
  simp
  exact Or.comm
theorem drop_one {idx : List Nat} {r x : Nat} (hx : idx[r]? = some x) : idx.drop r = x :: idx.drop (r + 1) := by
  obtain ⟨h, rfl⟩ := List.getElem?_eq_some_iff.1 hx
  exact List.drop_eq_getElem_cons h
set_option maxRecDepth 100000 in
set_option maxHeartbeats 8000000 in
theorem walk0 (a : Option Addr) (cap : Nat) (l : List Int) (a2 : Option Addr) (cap2 : Nat) (l2 : List Int) (w : World) (h1 : Bytes w (.slice a l.length cap) l) (h2 : Bytes w (.slice a2 l2.length cap2) l2) (hf : First w) (ht : Table w) :
    Calls Tryd.prog 3 #[.slice a l.length cap, .slice a2 l2.length cap2] w fun e w' => e = .returned (.bool true) ∧ Below w.heap.size w w' := by
  have HT := hide (show Tab w from ⟨hf, ht⟩)
  obtain ⟨i0, hi, hz0, hz1, hz2⟩ := info_parts infoStrM
  obtain ⟨i5, hi5, hz50, hz51, hz52⟩ := info_parts info5
  have H1 := hide h1
  have H2 := hide h2
  have g1 : l.length ≤ 9223372036854775807 := by obtain ⟨_, _, _, hm1, _⟩ := h1; unfold maxLen at hm1; omega
  have g2 : l2.length ≤ 9223372036854775807 := by obtain ⟨_, _, _, hm1, _⟩ := h2; unfold maxLen at hm1; omega
  clear hf ht h1 h2
  by_cases hl : 1048576 < l.length
  · go_enter Tryd.func3, Tryd.ntmps3
    go_wp2_with fail
    go_ret
    exact ⟨rfl, Below.refl _ _⟩
  by_cases hl2 : 1048576 < l2.length
  · go_enter Tryd.func3, Tryd.ntmps3
    go_wp2_with fail
    go_ret
    exact ⟨rfl, Below.refl _ _⟩
  go_enter Tryd.func3, Tryd.ntmps3
  go_upto_block 0 with fail
  go_cut [5] (fun kv wx => ∃ (idx : List Nat) (ga : Option Addr) (gc : Nat), kv = .slice ga idx.length gc ∧ 1 ≤ idx.length ∧ idx.length ≤ 8 ∧ Hid (Ks w 8 idx ga gc wx))
  case first =>
    go_wp2_with fail
    go_loopw [5, 6] (fun kv iv wr => ∃ (i : Nat) (idx : List Nat) (ga : Option Addr) (gc : Nat), i ≤ 8 ∧ kv = .slice ga idx.length gc ∧ iv = .int .i64 (i : Int) ∧ Hid (Ks w i idx ga gc wr)) (fun _ iv _ => 8 - (intOf iv).toNat)
    case atStart => exact ⟨0, [], _, _, Nat.zero_le _, rfl, rfl, hide ⟨(Below.refl _ w).alloc (Nat.le_refl _) _, own_noneS w _ _ rfl (Nat.le_refl _), List.nodup_nil, fun j hj => by simp at hj, Nat.le_refl _, fun h => by omega⟩⟩
    case round =>
      obtain ⟨i, idx, ga, gc, hi8, rfl, rfl, HK⟩ := hrel
      by_cases hlt : i < 8
      · have hs2 := (unhide HK).b.size
        have hby : IntKind.u8.wrap (i : Int) = (i : Int) := by simp [IntKind.wrap, IntKind.bits, IntKind.signed]; omega
        have hi8' : (i : Int) < 8 := by omega
        have HA2 := hide (((unhide H1).below (unhide HK).b).below ((Below.refl wr.heap.size wr).alloc (Nat.le_refl _) (.cells #[.int .u8 (i : Int)] 5)))
        go_wp2_with (at_builtin; refine wpList_append_bytes _ rfl _ _ _ rfl wr.heap.size 5 i5 Tryd.underlying22 hi5 hz50 hz51 hz52 _ 1 _ rfl (own_lit (heap_new rfl) (Nat.le_refl _) rfl (by unfold maxLen; omega)) _ l rfl (unhide HA2) (by omega) (by omega) (by simp) ?_; intro g3 cap3 w3 hown3 hgrow3 hlt3 hbg3)
        have K3 := ((Below.refl wr.heap.size wr).alloc (Nat.le_refl _) (.cells #[.int .u8 (i : Int)] 5)).grown hgrow3 (by simp) (fun k hk => by cases hk; exact Nat.le_refl _)
        have hlen3 : ((i : Int) :: l).length = 1 + l.length := by simp; omega
        have V3 : OwnB wr.heap.size w3 (.slice (some ⟨g3, 0, none⟩) (1 + l.length) cap3) ((i : Int) :: l) := ⟨by rw [hlen3]; exact hown3, by
          obtain ⟨_, _, _, _, _, hr⟩ := unhide H1
          intro q
          cases q with
          | zero => simp; omega
          | succ q => simpa using hr q⟩
        have HMK := hide (mapKeyOf_any (some ⟨g3, 0, none⟩) cap3 ((i : Int) :: l) w3 (by rw [hlen3]; exact V3.bytes) (by rw [hlen3]; omega))
        rw [hlen3] at HMK
        have HK3 := hide ((unhide HK).below K3)
        clear hown3 hgrow3 hlt3 hbg3 V3 HA2 K3 HK hs2
        refine (unhide HMK).mono ?_
        rintro e w4 ⟨jj, hjj, rfl, hb⟩
        have HK4 := hide ((unhide HK3).below hb)
        clear hb HK3 HMK
        go_wp2_with fail
        have hj64 : jj < 64 := by omega
        have hln8 : idx.length ≤ 8 := by have := (unhide HK4).ln; omega
        go_loop [8, 9] (fun tv qv => ∃ q : Nat, q ≤ idx.length ∧ qv = .int .i64 (q : Int) ∧ tv = .bool (decide (jj ∈ idx.take q))) (fun _ qv => idx.length - (intOf qv).toNat)
        case atStart => exact ⟨0, Nat.zero_le _, rfl, by simp⟩
        case round =>
          obtain ⟨q, hq, rfl, rfl⟩ := hrel
          by_cases hlt2 : q < idx.length
          · have hq1 : (q : Int) < (idx.length : Int) := by omega
            have hq0 : (0 : Int) ≤ (q : Int) := by omega
            obtain ⟨g, rfl⟩ : ∃ g, ga = some ⟨g, 0, none⟩ := by
              rcases own_shape (unhide HK4).o with ⟨e, h0⟩ | ⟨g, c, e, _⟩
              · rw [List.length_map] at h0; omega
              · simp only [Value.slice.injEq] at e; exact ⟨g, e.1⟩
            have c0 := (unhide HK4).o.cell q (by rw [List.length_map]; exact hlt2)
            obtain ⟨iq, hiq⟩ : ∃ iq, idx[q]? = some iq := ⟨idx[q], List.getElem?_eq_getElem hlt2⟩
            have e0 : (idx.map keyN).getD q ByteArray.empty = keyN iq := by rw [List.getD_eq_getElem?_getD, List.getElem?_map, hiq]; rfl
            rw [e0] at c0
            have hi64 : iq < 64 := by have := (unhide HK4).lt iq (List.mem_of_getElem? hiq); omega
            have hcmp := keyN_eq iq jj hi64 hj64
            have hT : idx.take (q + 1) = idx.take q ++ [iq] := by rw [List.take_add_one, hiq]; rfl
            have HTT := hide hT
            clear hT e0 hiq hi64
            by_cases hin : jj ∈ idx.take q
            · have HV := hide (show decide (jj ∈ idx.take (q + 1)) = true by rw [unhide HTT]; simp [hin])
              rw [decide_eq_true hin]
              go_wp2_with fail
              refine ⟨⟨q + 1, by omega, by go_num, by rw [unhide HV]⟩, ?_⟩
              simp [intOf]; omega
            · rw [decide_eq_false hin]
              by_cases heq : iq = jj
              · have HV := hide (show decide (jj ∈ idx.take (q + 1)) = true by rw [unhide HTT]; simp [heq])
                rw [decide_eq_true heq] at hcmp
                clear hin heq
                go_wp2_with fail
                refine ⟨⟨q + 1, by omega, by go_num, by rw [unhide HV]⟩, ?_⟩
                simp [intOf]; omega
              · have HV := hide (show decide (jj ∈ idx.take (q + 1)) = false by
                  rw [unhide HTT, decide_eq_false]
                  intro x
                  rcases List.mem_append.1 x with y | y
                  · exact hin y
                  · have h9 : jj = iq := by simpa using y
                    exact heq h9.symm)
                rw [decide_eq_false heq] at hcmp
                clear hin heq
                go_wp2_with fail
                refine ⟨⟨q + 1, by omega, by go_num, by rw [unhide HV]⟩, ?_⟩
                simp [intOf]; omega
          · obtain rfl : q = idx.length := by omega
            have hlt3 : ¬ (idx.length : Int) < (idx.length : Int) := by omega
            rw [List.take_length]
            by_cases hin : jj ∈ idx
            · have HN := hide (show 1 ≤ idx.length from List.length_pos_of_mem hin)
              rw [decide_eq_true hin]
              clear hin
              go_wp2_with fail
              refine ⟨⟨i + 1, idx, ga, gc, by omega, rfl, by go_num, hide ⟨(unhide HK4).b, (unhide HK4).o, (unhide HK4).nd, (unhide HK4).lt, by have := (unhide HK4).ln; omega, fun _ => unhide HN⟩⟩, ?_⟩
              simp [intOf]; omega
            · have HIN := hide hin
              rw [decide_eq_false hin]
              clear hin
              have hs4 := (unhide HK4).b.size
              have hln4 := (unhide HK4).ln
              have HO0 : Hid ((w4.alloc (.cells #[.string (keyN jj)] 9)).ownsRow w.heap.size 9 1 (.slice ga idx.length gc) idx.length ((idx.map keyN).map Value.string)) := hide (by
                have h := World.ownsRow.alloc (unhide HK4).o (.cells #[.string (keyN jj)] 9)
                rw [List.length_map] at h
                exact h)
              go_wp2_with (at_builtin; refine wpList_append_lies _ rfl _ _ 23 rfl w.heap.size 9 i0 _ 1 16 Tryd.underlying23 hi hz0 hz1 hz2 rfl (by omega) (.slice ga idx.length gc) idx.length _ rfl (unhide HO0) ⟨w4.heap.size, 0, none⟩ 1 1 [_] rfl rfl (World.news_of_block (cs := #[_]) (t := 9) (fr := (0, 0)) (heap_alloc_new w4 _)) (by simp [Value.oneCell']) (by omega) (by unfold maxLen; omega) (by omega) (by simp; omega) _ rfl ?_; intro g5 cap5 w5 hown5 hgrow5 hat5 hlt5; have R5 := hide (And.intro hown5 (((unhide HK4).b.alloc (unhide HK4).b.size (.cells #[.string (keyN jj)] 9)).grown hgrow5 (by simp; omega) (fun r hr => (World.ownsRow.lt (unhide HO0) r hr).1))); clear hown5 hgrow5 hat5 hlt5)
              refine ⟨⟨i + 1, idx ++ [jj], some ⟨g5, 0, none⟩, cap5, by omega, by rw [List.length_append]; rfl, by go_num, hide ⟨(unhide R5).2, ?_, ?_, ?_, ?_, ?_⟩⟩, ?_⟩
              · have h5 := (unhide R5).1
                unfold OwnS
                rw [List.length_append, List.length_map, List.map_append, List.map_append, List.length_append]
                exact h5
              · refine List.nodup_append.2 ⟨(unhide HK4).nd, by simp, fun x hx y hy e => ?_⟩
                have h9 : y = jj := by simpa using hy
                rw [e, h9] at hx
                exact unhide HIN hx
              · intro j hj
                rcases List.mem_append.1 hj with h | h
                · exact (unhide HK4).lt j h
                · have : j = jj := by simpa using h
                  omega
              · rw [List.length_append]; simp; omega
              · intro _; rw [List.length_append]; simp
              · simp [intOf]; omega
      · obtain rfl : i = 8 := by omega
        go_wp2_with fail
        go_meet
        exact ⟨idx, ga, gc, rfl, (unhide HK).ne (by omega), (unhide HK).ln, HK⟩
  case rest =>
    obtain ⟨idx, ga, gc, rfl, hn1, hn8, HK⟩ := hcut
    obtain ⟨g, rfl, hgl⟩ : ∃ g, ga = some ⟨g, 0, none⟩ ∧ g < wc.heap.size := by
      rcases own_shape (unhide HK).o with ⟨e, h0⟩ | ⟨g, c, e, h1, h2, _⟩
      · rw [List.length_map] at h0; omega
      · simp only [Value.slice.injEq] at e; exact ⟨g, e.1, h2⟩
    have hsz := (unhide HK).b.size
    have K1 := (Below.refl wc.heap.size wc).alloc (Nat.le_refl _) (.cells #[.string ⟨#[]⟩, .string ⟨#[]⟩, .int .i64 0, .slice none 0 0] 27)
    have K2 := K1.alloc K1.size (.cells #[.string ⟨#[]⟩, .string ⟨#[]⟩, .int .i64 0, .slice none 0 0] 27)
    have SR : Hid (St w idx g gc wc.heap.size (wc.heap.size + 1) none none ((wc.alloc (.cells #[.string ⟨#[]⟩, .string ⟨#[]⟩, .int .i64 0, .slice none 0 0] 27)).alloc (.cells #[.string ⟨#[]⟩, .string ⟨#[]⟩, .int .i64 0, .slice none 0 0] 27))) := hide ⟨(unhide HK).below K2, hgl, hsz, by omega, ⟨none, 0, (Blk.new wc #[.string ⟨#[]⟩, .string ⟨#[]⟩, .int .i64 0, .slice none 0 0] 27 wc.heap.size rfl).alloc _, brs_nil _ _⟩, ⟨none, 0, Blk.new (wc.alloc (.cells #[.string ⟨#[]⟩, .string ⟨#[]⟩, .int .i64 0, .slice none 0 0] 27)) #[.string ⟨#[]⟩, .string ⟨#[]⟩, .int .i64 0, .slice none 0 0] 27 (wc.heap.size + 1) (by simp), brs_nil _ _⟩⟩
    clear K1 K2 hgl hsz HK
    go_upto_region 17 with fail
    generalize (wc.alloc (.cells #[.string ⟨#[]⟩, .string ⟨#[]⟩, .int .i64 0, .slice none 0 0] 27)).alloc (.cells #[.string ⟨#[]⟩, .string ⟨#[]⟩, .int .i64 0, .slice none 0 0] 27) = w1 at *
    generalize wc.heap.size + 1 = bb at *
    generalize wc.heap.size = ab at *
    go_wp2_with fail
    go_loopw [12] (fun iv wr => ∃ (i : Nat) (oa ob : Option Tr), i ≤ idx.length ∧ iv = .int .i64 (i : Int) ∧ HasL oa (idx.take i) ∧ HasL ob (idx.drop (idx.length - i)) ∧ Hid (St w idx g gc ab bb oa ob wr)) (fun iv _ => idx.length - (intOf iv).toNat)
    case atStart => exact ⟨0, none, none, Nat.zero_le _, rfl, hasL_nil, by rw [Nat.sub_zero, List.drop_length]; exact hasL_nil, SR⟩
    case round =>
      clear SR
      obtain ⟨i, oa, ob, hi8, rfl, hA, hB, SR⟩ := hrel
      by_cases hlt : i < idx.length
      · have hi1 : (i : Int) < (idx.length : Int) := by omega
        have hi0 : (0 : Int) ≤ (i : Int) := by omega
        obtain ⟨r, hr⟩ : ∃ r, r + i + 1 = idx.length := ⟨idx.length - i - 1, by omega⟩
        obtain ⟨m, hm⟩ : ∃ m, m + 1 = idx.length := ⟨idx.length - 1, by omega⟩
        have hw1 : IntKind.i64.wrap ((idx.length : Int) - 1) = (m : Int) := by rw [wrapA _ (by omega) (by omega)]; omega
        have hw2 : IntKind.i64.wrap ((m : Int) - (i : Int)) = (r : Int) := by rw [wrapA _ (by omega) (by omega)]; omega
        have hr0 : (0 : Int) ≤ (r : Int) := by omega
        have hr1 : (r : Int) < (idx.length : Int) := by omega
        obtain ⟨x, hx⟩ : ∃ x, idx[i]? = some x := ⟨idx[i], List.getElem?_eq_getElem hlt⟩
        obtain ⟨y, hy⟩ : ∃ y, idx[r]? = some y := ⟨idx[r], List.getElem?_eq_getElem (by omega)⟩
        have c0 := (unhide SR).k.o.cell i (by rw [List.length_map]; exact hlt)
        have e0 : (idx.map keyN).getD i ByteArray.empty = keyN x := by rw [List.getD_eq_getElem?_getD, List.getElem?_map, hx]; rfl
        rw [e0] at c0
        have c1 := (unhide SR).k.o.cell r (by rw [List.length_map]; omega)
        have e1 : (idx.map keyN).getD r ByteArray.empty = keyN y := by rw [List.getD_eq_getElem?_getD, List.getElem?_map, hy]; rfl
        rw [e1] at c1
        have h24 := (unhide SR).k.lt
        have hnd := (unhide SR).k.nd
        have hx64 : x < 64 := by have := h24 x (List.mem_of_getElem? hx); omega
        have hy64 : y < 64 := by have := h24 y (List.mem_of_getElem? hy); omega
        have hex : idx.length - i = r + 1 := by omega
        have hex2 : idx.length - (i + 1) = r := by omega
        rw [hex] at hB
        have hxn : x ∉ idx.take i := fun hmem => by
          have h2 : (idx.take i ++ idx.drop i).Nodup := by rw [List.take_append_drop]; exact hnd
          exact (List.nodup_append.1 h2).2.2 x hmem x (by rw [drop_one hx]; simp) rfl
        have hyn : y ∉ idx.drop (r + 1) := by
          have h2 : (idx.drop r).Nodup := List.Nodup.sublist (List.drop_sublist _ _) hnd
          rw [drop_one hy, List.nodup_cons] at h2
          exact h2.1
        obtain ⟨oa', hpa, hA'⟩ := hA.put hx64 (fun q hq => by have := h24 q (List.mem_of_mem_take hq); omega) hxn (by rw [List.length_take]; omega) (T' := idx.take (i + 1)) (fun q => mem_take_succ hx) (by rw [List.length_take, List.length_take]; omega)
        obtain ⟨ob', hpb, hB'⟩ := hB.put hy64 (fun q hq => by have := h24 q (List.mem_of_mem_drop hq); omega) hyn (by rw [List.length_drop]; omega) (T' := idx.drop r) (fun q => by rw [drop_one hy, List.mem_cons]) (by rw [List.length_drop, List.length_drop]; omega)
        have HSA := hide (dr_small hA.dr.ok)
        have HSB := hide (dr_small hB.dr.ok)
        have ebr : ∀ b : Br, Br.mk b.key b.val b.at_ b.kids = b := fun b => by cases b; rfl
        have HXS := hide (And.intro (keyN_24 hx64) (keyN_24 hy64))
        have HVS := hide (And.intro (vOf_size hx64) (vOf_size hy64))
        have HPA := hide hpa
        have HPB := hide hpb
        have HOKA := hide (dr_mapB hA'.dr)
        have HNX := hide (And.intro hA' (by rw [hex2]; exact hB' : HasL ob' (idx.drop (idx.length - (i + 1)))))
        have HSA' := hide (dr_small hA'.dr.ok)
        have HE := hide ebr
        have hcx : ¬ 9223372036854775807 < 1 + (keyN x).size := by have := (unhide HXS).1; omega
        have hcy : ¬ 9223372036854775807 < 1 + (keyN y).size := by have := (unhide HXS).2; omega
        have HCY := hide (fun wx (hk : Ks w 8 idx (some ⟨g, 0, none⟩) gc wx) => show wx.cell? ⟨g, r, none⟩ = some (.string (keyN y)) from by
          have c1 := hk.o.cell r (by rw [List.length_map]; omega)
          rw [e1] at c1
          exact c1)
        clear c1 hx hy e0 e1 h24 hnd hx64 hy64 hex hex2 hxn hyn hpa hpb hA hB hA' hB' ebr hm hr
        go_upto_region 20 with fail
        go_cut [13, 14] (fun xv cv wx => ∃ xp, xv = .pointer (some ⟨xp, 0, none⟩) ∧ cv = .int .i64 0 ∧ bb < xp ∧ Hid (St w idx g gc ab bb oa ob wx) ∧ Hid (Bx (fun x => bb < x) wx xp (brOf oa')))
        case first =>
          obtain ⟨xa, xc, xb, xs⟩ := (unhide SR).xa
          have x0 := xb.cell 0 rfl
          have x1 := xb.cell 1 rfl
          have x2 := xb.cell 2 rfl
          have x3 := xb.cell 3 rfl
          have xS := hide xs
          have xl := xb.1
          clear xb xs
          have hbb := (unhide SR).size
          have hgg : g < wr.heap.size := by have := (unhide SR).ga; have := (unhide SR).lb; omega
          have HPP : Hid (∀ wx, Below wr.heap.size wr wx → Calls Tryd.prog 7 #[.agg #[.string (brOf oa).key, .string (brOf oa).val, .int .i64 (brOf oa).at_, .slice xa (brOf oa).kids.length xc], .string (keyN x), .string (vOf x)] wx fun e w' => ∃ u, e = .returned (.tuple #[u, .int .i64 0]) ∧ BrV wx.heap.size w' u (brOf oa') ∧ Below wx.heap.size wx w') := hide (fun wx hx => by
            have h := implMapPut_any (brOf oa).key (brOf oa).val (brOf oa).at_ (brOf oa).kids (keyN x) (vOf x) _ _ wx ((unhide xS).blw hx) (unhide HSA).1 (unhide HSA).2 (by have := (unhide HXS).1; omega) (by have := (unhide HVS).1; omega) ((unhide HT).below ((unhide SR).k.b.trans (hx.mono (unhide SR).k.b.size)))
            rw [unhide HE, unhide HPA] at h
            exact h)
          have HKS : Hid (∀ wx, Below wr.heap.size wr wx → (fun wx => wx.cell? ⟨ab, 0, none⟩ = some (.string (brOf oa).key) ∧ wx.cell? ⟨ab, 1, none⟩ = some (.string (brOf oa).val) ∧ wx.cell? ⟨ab, 2, none⟩ = some (.int .i64 (brOf oa).at_) ∧ wx.cell? ⟨ab, 3, none⟩ = some (.slice xa (brOf oa).kids.length xc) ∧ wx.cell? ⟨g, i, none⟩ = some (.string (keyN x))) wx) := hide (fun wx hx => ⟨(hx.cell (p := ⟨ab, 0, none⟩) xl).trans x0, (hx.cell (p := ⟨ab, 1, none⟩) xl).trans x1, (hx.cell (p := ⟨ab, 2, none⟩) xl).trans x2, (hx.cell (p := ⟨ab, 3, none⟩) xl).trans x3, (hx.cell (p := ⟨g, i, none⟩) hgg).trans c0⟩)
          refine wp_region_noPanic ?_
          refine wp_region_held_drew (S := (fun wx => wx.cell? ⟨ab, 0, none⟩ = some (.string (brOf oa).key) ∧ wx.cell? ⟨ab, 1, none⟩ = some (.string (brOf oa).val) ∧ wx.cell? ⟨ab, 2, none⟩ = some (.int .i64 (brOf oa).at_) ∧ wx.cell? ⟨ab, 3, none⟩ = some (.slice xa (brOf oa).kids.length xc) ∧ wx.cell? ⟨g, i, none⟩ = some (.string (keyN x)))) (by kernel_rfl) ?_ (fun hHeld => ?_)
          · exact unhide HKS _ (below_drewN (Below.refl _ _) 1)
          refine tkH 0 rfl ?_
          refine tkH 1 rfl ?_
          refine tkH 2 rfl ?_
          refine tkH 3 rfl ?_
          refine tkH 4 rfl ?_
          refine tkH 5 rfl ?_
          refine tkH 6 rfl ?_
          refine tkH 7 rfl ?_
          refine tkH 8 rfl ?_
          refine tkH 9 rfl ?_
          have HBx := hide (below_drewN (Below.refl wr.heap.size wr) 1)
          change Hid (Below wr.heap.size wr wr.drew) at HBx
          have hdr := unhide HBx
          clear hdr hHeld x0 x1 x2 x3 c0
          generalize wr.drew = y0 at *
          refine wpAnyH_ready (rs := [10, 14]) (by kernel_rfl) (by simp) ?_
          refine AllReadyH.cons (o := _) rfl (fun K hK => ?_) (AllReadyH.cons (o := _) rfl (fun K hK => ?_) AllReadyH.nil)
          · go_simp
            refine (unhide HPP y0 (unhide HBx)).mono ?_
            rintro e y1 ⟨u, rfl, ⟨pa, pn, pc, rfl, hpB⟩, hbs⟩
            obtain rfl : pn = (brOf oa').kids.length := by obtain ⟨a', cap', e', _, _⟩ := hpB.brs.shape; cases e'; rfl
            have Pp : Hid (Rw y0.heap.size y1.heap.size y1 (.slice pa (brOf oa').kids.length pc) (brOf oa').kids) := hide ⟨hpB.brs⟩
            have hlo := (unhide HBx).size
            clear hpB
            replace HBx := hide ((unhide HBx).trans (hbs.mono (unhide HBx).size))
            clear hbs
            go_wp2_with fail
            refine hK.out _ _ ?_ (fun hHeld => ?_)
            · exact unhide HKS _ (unhide HBx)
            clear hK K
            (try simp only [Act.put, List.getElem_toArray, List.getElem_cons_succ, List.getElem_cons_zero, List.setIfInBounds_toArray, List.set_cons_zero, List.set_cons_succ])
            refine tkH 11 rfl ?_
            refine tkH 12 rfl ?_
            refine tkH 13 rfl ?_
            refine wpAnyH_ready (rs := [14]) (by kernel_rfl) (by simp) ?_
            refine AllReadyH.cons (o := _) rfl (fun K hK => ?_) AllReadyH.nil
            go_simp
            have hbs := (Below.refl y1.heap.size y1).alloc (Nat.le_refl _) (.cells #[.string ⟨#[]⟩, .string ⟨#[]⟩, .int .i64 0, .slice none 0 0] 27)
            replace Pp := hide ((unhide Pp).below hbs)
            have Bxp := hide (Blk.new y1 #[.string ⟨#[]⟩, .string ⟨#[]⟩, .int .i64 0, .slice none 0 0] 27 y1.heap.size rfl)
            have hxp : wr.heap.size ≤ y1.heap.size := (unhide HBx).size
            replace HBx := hide ((unhide HBx).trans (hbs.mono (unhide HBx).size))
            refine hK.out _ _ ?_ (fun hHeld => ?_)
            · exact unhide HKS _ (unhide HBx)
            clear hK K
            (try simp only [Act.put, List.getElem_toArray, List.getElem_cons_succ, List.getElem_cons_zero, List.setIfInBounds_toArray, List.set_cons_zero, List.set_cons_succ])
            clear hbs
            generalize y1.alloc (.cells #[.string ⟨#[]⟩, .string ⟨#[]⟩, .int .i64 0, .slice none 0 0] 27) = y2 at *
            generalize y1.heap.size = xp at *
            have c0x := (unhide Bxp).cell 0 rfl
            have f0x := (unhide Bxp).fro 0
            have c1x := (unhide Bxp).cell 1 rfl
            have f1x := (unhide Bxp).fro 1
            have c2x := (unhide Bxp).cell 2 rfl
            have f2x := (unhide Bxp).fro 2
            have c3x := (unhide Bxp).cell 3 rfl
            have f3x := (unhide Bxp).fro 3
            have HT4 := hide (set4_touch y2 xp (.string (brOf oa').key) (.string (brOf oa').val) (.int .i64 (brOf oa').at_) (.slice pa (brOf oa').kids.length pc))
            have HB4 := hide (set4_blk (unhide Bxp) (.string (brOf oa').key) (.string (brOf oa').val) (.int .i64 (brOf oa').at_) (.slice pa (brOf oa').kids.length pc))
            have KB := hide ((unhide HBx).trans ((unhide HT4).below (unhide HBx).size (fun x hx e => by omega)))
            refine wpAnyH_ready (rs := [15]) (by kernel_rfl) (by simp) ?_
            refine AllReadyH.cons (o := _) rfl (fun K hK => ?_) AllReadyH.nil
            go_simp
            refine hK.out _ _ ?_ (fun hHeld => ?_)
            · exact unhide HKS _ (unhide KB)
            clear hK K
            (try simp only [Act.put, List.getElem_toArray, List.getElem_cons_succ, List.getElem_cons_zero, List.setIfInBounds_toArray, List.set_cons_zero, List.set_cons_succ])
            refine tkH 16 rfl ?_
            refine wpAnyH_done (by kernel_rfl) (NoPanic.normal ?_) _
            clear hHeld c0x c1x c2x c3x f0x f1x f2x f3x
            go_wp2_with fail
            go_meet
            exact ⟨xp, rfl, rfl, by omega, hide ((unhide SR).below (unhide KB)), hide ⟨_, _, unhide HB4, ((unhide Pp).r.touch (unhide HT4) (fun k hk e => by have h1 := hk.1; have h2 := hk.2; omega)).mono (fun k hk => by have h1 := hk.1; omega)⟩⟩
          · go_simp
            have hbs := (Below.refl y0.heap.size y0).alloc (Nat.le_refl _) (.cells #[.string ⟨#[]⟩, .string ⟨#[]⟩, .int .i64 0, .slice none 0 0] 27)
            have Bxp := hide (Blk.new y0 #[.string ⟨#[]⟩, .string ⟨#[]⟩, .int .i64 0, .slice none 0 0] 27 y0.heap.size rfl)
            have hxp : wr.heap.size ≤ y0.heap.size := (unhide HBx).size
            replace HBx := hide ((unhide HBx).trans (hbs.mono (unhide HBx).size))
            refine hK.out _ _ ?_ (fun hHeld => ?_)
            · exact unhide HKS _ (unhide HBx)
            clear hK K
            (try simp only [Act.put, List.getElem_toArray, List.getElem_cons_succ, List.getElem_cons_zero, List.setIfInBounds_toArray, List.set_cons_zero, List.set_cons_succ])
            clear hbs
            generalize y0.alloc (.cells #[.string ⟨#[]⟩, .string ⟨#[]⟩, .int .i64 0, .slice none 0 0] 27) = y3 at *
            generalize y0.heap.size = xp at *
            refine wpAnyH_ready (rs := [10]) (by kernel_rfl) (by simp) ?_
            refine AllReadyH.cons (o := _) rfl (fun K hK => ?_) AllReadyH.nil
            have hxl := (unhide Bxp).1
            go_simp
            refine (unhide HPP y3 (unhide HBx)).mono ?_
            rintro e y4 ⟨u, rfl, ⟨pa, pn, pc, rfl, hpB⟩, hbs⟩
            obtain rfl : pn = (brOf oa').kids.length := by obtain ⟨a', cap', e', _, _⟩ := hpB.brs.shape; cases e'; rfl
            have Pp : Hid (Rw y3.heap.size y4.heap.size y4 (.slice pa (brOf oa').kids.length pc) (brOf oa').kids) := hide ⟨hpB.brs⟩
            have hlo := (unhide HBx).size
            clear hpB
            replace Bxp := hide ((unhide Bxp).below hbs)
            replace HBx := hide ((unhide HBx).trans (hbs.mono (unhide HBx).size))
            clear hbs
            go_wp2_with fail
            refine hK.out _ _ ?_ (fun hHeld => ?_)
            · exact unhide HKS _ (unhide HBx)
            clear hK K
            (try simp only [Act.put, List.getElem_toArray, List.getElem_cons_succ, List.getElem_cons_zero, List.setIfInBounds_toArray, List.set_cons_zero, List.set_cons_succ])
            refine tkH 11 rfl ?_
            refine tkH 12 rfl ?_
            refine tkH 13 rfl ?_
            have c0x := (unhide Bxp).cell 0 rfl
            have f0x := (unhide Bxp).fro 0
            have c1x := (unhide Bxp).cell 1 rfl
            have f1x := (unhide Bxp).fro 1
            have c2x := (unhide Bxp).cell 2 rfl
            have f2x := (unhide Bxp).fro 2
            have c3x := (unhide Bxp).cell 3 rfl
            have f3x := (unhide Bxp).fro 3
            have HT4 := hide (set4_touch y4 xp (.string (brOf oa').key) (.string (brOf oa').val) (.int .i64 (brOf oa').at_) (.slice pa (brOf oa').kids.length pc))
            have HB4 := hide (set4_blk (unhide Bxp) (.string (brOf oa').key) (.string (brOf oa').val) (.int .i64 (brOf oa').at_) (.slice pa (brOf oa').kids.length pc))
            have KB := hide ((unhide HBx).trans ((unhide HT4).below (unhide HBx).size (fun x hx e => by omega)))
            refine wpAnyH_ready (rs := [15]) (by kernel_rfl) (by simp) ?_
            refine AllReadyH.cons (o := _) rfl (fun K hK => ?_) AllReadyH.nil
            go_simp
            refine hK.out _ _ ?_ (fun hHeld => ?_)
            · exact unhide HKS _ (unhide KB)
            clear hK K
            (try simp only [Act.put, List.getElem_toArray, List.getElem_cons_succ, List.getElem_cons_zero, List.setIfInBounds_toArray, List.set_cons_zero, List.set_cons_succ])
            refine tkH 16 rfl ?_
            refine wpAnyH_done (by kernel_rfl) (NoPanic.normal ?_) _
            clear hHeld c0x c1x c2x c3x f0x f1x f2x f3x
            go_wp2_with fail
            go_meet
            exact ⟨xp, rfl, rfl, by omega, hide ((unhide SR).below (unhide KB)), hide ⟨_, _, unhide HB4, ((unhide Pp).r.touch (unhide HT4) (fun k hk e => by have h1 := hk.1; have h2 := hk.2; omega)).mono (fun k hk => by have h1 := hk.1; omega)⟩⟩
        case rest =>
          clear SR c0
          obtain ⟨xp, rfl, rfl, hxp, SR, XP⟩ := hcut
          go_upto_region 21 with fail
          go_cut [15, 16] (fun yv dv wx => ∃ yp, yv = .pointer (some ⟨yp, 0, none⟩) ∧ dv = .int .i64 0 ∧ bb < yp ∧ Hid (St w idx g gc ab bb oa ob wx) ∧ Hid (Bx (fun x => bb < x) wx xp (brOf oa')) ∧ Hid (Bx (fun x => bb < x) wx yp (brOf ob')))
          case first =>
            obtain ⟨xa, xc, xb, xs⟩ := (unhide SR).xb
            have x0 := xb.cell 0 rfl
            have x1 := xb.cell 1 rfl
            have x2 := xb.cell 2 rfl
            have x3 := xb.cell 3 rfl
            have xS := hide xs
            have xl := xb.1
            clear xb xs
            have hbb := (unhide SR).size
            have hgg : g < wc.heap.size := by have := (unhide SR).ga; have := (unhide SR).lb; omega
            have c1 := unhide HCY wc (unhide SR).k
            have HPP : Hid (∀ wx, Below wc.heap.size wc wx → Calls Tryd.prog 7 #[.agg #[.string (brOf ob).key, .string (brOf ob).val, .int .i64 (brOf ob).at_, .slice xa (brOf ob).kids.length xc], .string (keyN y), .string (vOf y)] wx fun e w' => ∃ u, e = .returned (.tuple #[u, .int .i64 0]) ∧ BrV wx.heap.size w' u (brOf ob') ∧ Below wx.heap.size wx w') := hide (fun wx hx => by
              have h := implMapPut_any (brOf ob).key (brOf ob).val (brOf ob).at_ (brOf ob).kids (keyN y) (vOf y) _ _ wx ((unhide xS).blw hx) (unhide HSB).1 (unhide HSB).2 (by have := (unhide HXS).2; omega) (by have := (unhide HVS).2; omega) ((unhide HT).below ((unhide SR).k.b.trans (hx.mono (unhide SR).k.b.size)))
              rw [unhide HE, unhide HPB] at h
              exact h)
            have HKS : Hid (∀ wx, Below wc.heap.size wc wx → (fun wx => wx.cell? ⟨bb, 0, none⟩ = some (.string (brOf ob).key) ∧ wx.cell? ⟨bb, 1, none⟩ = some (.string (brOf ob).val) ∧ wx.cell? ⟨bb, 2, none⟩ = some (.int .i64 (brOf ob).at_) ∧ wx.cell? ⟨bb, 3, none⟩ = some (.slice xa (brOf ob).kids.length xc) ∧ wx.cell? ⟨g, r, none⟩ = some (.string (keyN y))) wx) := hide (fun wx hx => ⟨(hx.cell (p := ⟨bb, 0, none⟩) xl).trans x0, (hx.cell (p := ⟨bb, 1, none⟩) xl).trans x1, (hx.cell (p := ⟨bb, 2, none⟩) xl).trans x2, (hx.cell (p := ⟨bb, 3, none⟩) xl).trans x3, (hx.cell (p := ⟨g, r, none⟩) hgg).trans c1⟩)
            refine wp_region_noPanic ?_
            refine wp_region_held_drew (S := (fun wx => wx.cell? ⟨bb, 0, none⟩ = some (.string (brOf ob).key) ∧ wx.cell? ⟨bb, 1, none⟩ = some (.string (brOf ob).val) ∧ wx.cell? ⟨bb, 2, none⟩ = some (.int .i64 (brOf ob).at_) ∧ wx.cell? ⟨bb, 3, none⟩ = some (.slice xa (brOf ob).kids.length xc) ∧ wx.cell? ⟨g, r, none⟩ = some (.string (keyN y)))) (by kernel_rfl) ?_ (fun hHeld => ?_)
            · exact unhide HKS _ (below_drewN (Below.refl _ _) 1)
            refine tkH 0 rfl ?_
            refine tkH 1 rfl ?_
            refine tkH 2 rfl ?_
            refine tkH 3 rfl ?_
            refine tkH 4 rfl ?_
            refine tkH 5 rfl ?_
            refine tkH 6 rfl ?_
            refine tkH 7 rfl ?_
            refine tkH 8 rfl ?_
            refine tkH 9 rfl ?_
            refine tkH 10 rfl ?_
            refine tkH 11 rfl ?_
            refine tkH 12 rfl ?_
            refine tkH 13 rfl ?_
            refine tkH 14 rfl ?_
            refine tkH 15 rfl ?_
            refine tkH 16 rfl ?_
            refine tkH 17 rfl ?_
            have HBx := hide (below_drewN (Below.refl wc.heap.size wc) 1)
            change Hid (Below wc.heap.size wc wc.drew) at HBx
            have hdr := unhide HBx
            clear hdr hHeld x0 x1 x2 x3 c1
            generalize wc.drew = y0 at *
            refine wpAnyH_ready (rs := [18, 22]) (by kernel_rfl) (by simp) ?_
            refine AllReadyH.cons (o := _) rfl (fun K hK => ?_) (AllReadyH.cons (o := _) rfl (fun K hK => ?_) AllReadyH.nil)
            · go_simp
              refine (unhide HPP y0 (unhide HBx)).mono ?_
              rintro e y1 ⟨u, rfl, ⟨pa, pn, pc, rfl, hpB⟩, hbs⟩
              obtain rfl : pn = (brOf ob').kids.length := by obtain ⟨a', cap', e', _, _⟩ := hpB.brs.shape; cases e'; rfl
              have Pp : Hid (Rw y0.heap.size y1.heap.size y1 (.slice pa (brOf ob').kids.length pc) (brOf ob').kids) := hide ⟨hpB.brs⟩
              have hlo := (unhide HBx).size
              clear hpB
              replace HBx := hide ((unhide HBx).trans (hbs.mono (unhide HBx).size))
              clear hbs
              go_wp2_with fail
              refine hK.out _ _ ?_ (fun hHeld => ?_)
              · exact unhide HKS _ (unhide HBx)
              clear hK K
              (try simp only [Act.put, List.getElem_toArray, List.getElem_cons_succ, List.getElem_cons_zero, List.setIfInBounds_toArray, List.set_cons_zero, List.set_cons_succ])
              refine tkH 19 rfl ?_
              refine tkH 20 rfl ?_
              refine tkH 21 rfl ?_
              refine wpAnyH_ready (rs := [22]) (by kernel_rfl) (by simp) ?_
              refine AllReadyH.cons (o := _) rfl (fun K hK => ?_) AllReadyH.nil
              go_simp
              have hbs := (Below.refl y1.heap.size y1).alloc (Nat.le_refl _) (.cells #[.string ⟨#[]⟩, .string ⟨#[]⟩, .int .i64 0, .slice none 0 0] 27)
              replace Pp := hide ((unhide Pp).below hbs)
              have Byp := hide (Blk.new y1 #[.string ⟨#[]⟩, .string ⟨#[]⟩, .int .i64 0, .slice none 0 0] 27 y1.heap.size rfl)
              have hyp : wc.heap.size ≤ y1.heap.size := (unhide HBx).size
              replace HBx := hide ((unhide HBx).trans (hbs.mono (unhide HBx).size))
              refine hK.out _ _ ?_ (fun hHeld => ?_)
              · exact unhide HKS _ (unhide HBx)
              clear hK K
              (try simp only [Act.put, List.getElem_toArray, List.getElem_cons_succ, List.getElem_cons_zero, List.setIfInBounds_toArray, List.set_cons_zero, List.set_cons_succ])
              clear hbs
              generalize y1.alloc (.cells #[.string ⟨#[]⟩, .string ⟨#[]⟩, .int .i64 0, .slice none 0 0] 27) = y2 at *
              generalize y1.heap.size = yp at *
              have c0x := (unhide Byp).cell 0 rfl
              have f0x := (unhide Byp).fro 0
              have c1x := (unhide Byp).cell 1 rfl
              have f1x := (unhide Byp).fro 1
              have c2x := (unhide Byp).cell 2 rfl
              have f2x := (unhide Byp).fro 2
              have c3x := (unhide Byp).cell 3 rfl
              have f3x := (unhide Byp).fro 3
              have HT4 := hide (set4_touch y2 yp (.string (brOf ob').key) (.string (brOf ob').val) (.int .i64 (brOf ob').at_) (.slice pa (brOf ob').kids.length pc))
              have HB4 := hide (set4_blk (unhide Byp) (.string (brOf ob').key) (.string (brOf ob').val) (.int .i64 (brOf ob').at_) (.slice pa (brOf ob').kids.length pc))
              have KB := hide ((unhide HBx).trans ((unhide HT4).below (unhide HBx).size (fun x hx e => by omega)))
              refine wpAnyH_ready (rs := [23]) (by kernel_rfl) (by simp) ?_
              refine AllReadyH.cons (o := _) rfl (fun K hK => ?_) AllReadyH.nil
              go_simp
              refine hK.out _ _ ?_ (fun hHeld => ?_)
              · exact unhide HKS _ (unhide KB)
              clear hK K
              (try simp only [Act.put, List.getElem_toArray, List.getElem_cons_succ, List.getElem_cons_zero, List.setIfInBounds_toArray, List.set_cons_zero, List.set_cons_succ])
              refine tkH 24 rfl ?_
              refine wpAnyH_done (by kernel_rfl) (NoPanic.normal ?_) _
              clear hHeld c0x c1x c2x c3x f0x f1x f2x f3x
              go_wp2_with fail
              go_meet
              exact ⟨yp, rfl, rfl, by omega, hide ((unhide SR).below (unhide KB)), hide ((unhide XP).below (unhide KB)), hide ⟨_, _, unhide HB4, ((unhide Pp).r.touch (unhide HT4) (fun k hk e => by have h1 := hk.1; have h2 := hk.2; omega)).mono (fun k hk => by have h1 := hk.1; omega)⟩⟩
            · go_simp
              have hbs := (Below.refl y0.heap.size y0).alloc (Nat.le_refl _) (.cells #[.string ⟨#[]⟩, .string ⟨#[]⟩, .int .i64 0, .slice none 0 0] 27)
              have Byp := hide (Blk.new y0 #[.string ⟨#[]⟩, .string ⟨#[]⟩, .int .i64 0, .slice none 0 0] 27 y0.heap.size rfl)
              have hyp : wc.heap.size ≤ y0.heap.size := (unhide HBx).size
              replace HBx := hide ((unhide HBx).trans (hbs.mono (unhide HBx).size))
              refine hK.out _ _ ?_ (fun hHeld => ?_)
              · exact unhide HKS _ (unhide HBx)
              clear hK K
              (try simp only [Act.put, List.getElem_toArray, List.getElem_cons_succ, List.getElem_cons_zero, List.setIfInBounds_toArray, List.set_cons_zero, List.set_cons_succ])
              clear hbs
              generalize y0.alloc (.cells #[.string ⟨#[]⟩, .string ⟨#[]⟩, .int .i64 0, .slice none 0 0] 27) = y3 at *
              generalize y0.heap.size = yp at *
              refine wpAnyH_ready (rs := [18]) (by kernel_rfl) (by simp) ?_
              refine AllReadyH.cons (o := _) rfl (fun K hK => ?_) AllReadyH.nil
              have hxl := (unhide Byp).1
              go_simp
              refine (unhide HPP y3 (unhide HBx)).mono ?_
              rintro e y4 ⟨u, rfl, ⟨pa, pn, pc, rfl, hpB⟩, hbs⟩
              obtain rfl : pn = (brOf ob').kids.length := by obtain ⟨a', cap', e', _, _⟩ := hpB.brs.shape; cases e'; rfl
              have Pp : Hid (Rw y3.heap.size y4.heap.size y4 (.slice pa (brOf ob').kids.length pc) (brOf ob').kids) := hide ⟨hpB.brs⟩
              have hlo := (unhide HBx).size
              clear hpB
              replace Byp := hide ((unhide Byp).below hbs)
              replace HBx := hide ((unhide HBx).trans (hbs.mono (unhide HBx).size))
              clear hbs
              go_wp2_with fail
              refine hK.out _ _ ?_ (fun hHeld => ?_)
              · exact unhide HKS _ (unhide HBx)
              clear hK K
              (try simp only [Act.put, List.getElem_toArray, List.getElem_cons_succ, List.getElem_cons_zero, List.setIfInBounds_toArray, List.set_cons_zero, List.set_cons_succ])
              refine tkH 19 rfl ?_
              refine tkH 20 rfl ?_
              refine tkH 21 rfl ?_
              have c0x := (unhide Byp).cell 0 rfl
              have f0x := (unhide Byp).fro 0
              have c1x := (unhide Byp).cell 1 rfl
              have f1x := (unhide Byp).fro 1
              have c2x := (unhide Byp).cell 2 rfl
              have f2x := (unhide Byp).fro 2
              have c3x := (unhide Byp).cell 3 rfl
              have f3x := (unhide Byp).fro 3
              have HT4 := hide (set4_touch y4 yp (.string (brOf ob').key) (.string (brOf ob').val) (.int .i64 (brOf ob').at_) (.slice pa (brOf ob').kids.length pc))
              have HB4 := hide (set4_blk (unhide Byp) (.string (brOf ob').key) (.string (brOf ob').val) (.int .i64 (brOf ob').at_) (.slice pa (brOf ob').kids.length pc))
              have KB := hide ((unhide HBx).trans ((unhide HT4).below (unhide HBx).size (fun x hx e => by omega)))
              refine wpAnyH_ready (rs := [23]) (by kernel_rfl) (by simp) ?_
              refine AllReadyH.cons (o := _) rfl (fun K hK => ?_) AllReadyH.nil
              go_simp
              refine hK.out _ _ ?_ (fun hHeld => ?_)
              · exact unhide HKS _ (unhide KB)
              clear hK K
              (try simp only [Act.put, List.getElem_toArray, List.getElem_cons_succ, List.getElem_cons_zero, List.setIfInBounds_toArray, List.set_cons_zero, List.set_cons_succ])
              refine tkH 24 rfl ?_
              refine wpAnyH_done (by kernel_rfl) (NoPanic.normal ?_) _
              clear hHeld c0x c1x c2x c3x f0x f1x f2x f3x
              go_wp2_with fail
              go_meet
              exact ⟨yp, rfl, rfl, by omega, hide ((unhide SR).below (unhide KB)), hide ((unhide XP).below (unhide KB)), hide ⟨_, _, unhide HB4, ((unhide Pp).r.touch (unhide HT4) (fun k hk e => by have h1 := hk.1; have h2 := hk.2; omega)).mono (fun k hk => by have h1 := hk.1; omega)⟩⟩
          case rest =>
            clear SR XP
            obtain ⟨yp, rfl, rfl, hyp, SR, XP, YP⟩ := hcut
            have hbb := (unhide SR).size
            obtain ⟨xa, xc, xb, xs⟩ := unhide XP
            have x0 := xb.cell 0 rfl
            have x1 := xb.cell 1 rfl
            have x2 := xb.cell 2 rfl
            have x3 := xb.cell 3 rfl
            have xS := hide xs
            have xl := xb.1
            clear xb xs
            go_wp2_with fail
            have h := implMapOK_any (brOf oa').key (brOf oa').val (brOf oa').at_ (brOf oa').kids _ _ wc (unhide xS) (unhide HSA').1 (unhide HSA').2 ((unhide HT).below (unhide SR).k.b)
            rw [unhide HE, unhide HOKA] at h
            refine h.mono ?_
            clear h
            rintro e w4 ⟨rfl, hb⟩
            have S4 := hide ((unhide SR).below hb)
            have X4 := hide ((unhide XP).below hb)
            have Y4 := hide ((unhide YP).below hb)
            clear hb SR XP YP x0 x1 x2 x3 xS hbb xl
            obtain ⟨xa, xc, xb, xs⟩ := unhide X4
            have x0 := xb.cell 0 rfl
            have x1 := xb.cell 1 rfl
            have x2 := xb.cell 2 rfl
            have x3 := xb.cell 3 rfl
            have xS := hide xs
            have xl := xb.1
            clear xb xs
            obtain ⟨_, _, ab4, _⟩ := (unhide S4).xa
            have a0 := ab4.cell 0 rfl
            have af0 := ab4.fro 0
            have a1 := ab4.cell 1 rfl
            have af1 := ab4.fro 1
            have a2 := ab4.cell 2 rfl
            have af2 := ab4.fro 2
            have a3 := ab4.cell 3 rfl
            have af3 := ab4.fro 3
            clear ab4
            go_upto_region 25 with fail
            have hlab := (unhide S4).lb
            have S5 := hide ((unhide S4).setA (unhide xS))
            have Y5 := hide ((unhide Y4).touch (set4_touch w4 ab (.string (brOf oa').key) (.string (brOf oa').val) (.int .i64 (brOf oa').at_) (.slice xa (brOf oa').kids.length xc)) (fun e => by omega) (fun k hk e => by omega))
            obtain ⟨w5, hw5⟩ : ∃ w5, w5 = set4 w4 ab (.string (brOf oa').key) (.string (brOf oa').val) (.int .i64 (brOf oa').at_) (.slice xa (brOf oa').kids.length xc) := ⟨_, rfl⟩
            rw [← hw5] at S5 Y5
            replace hw5 : w5 = (((w4.setCell ⟨ab, 0, none⟩ (.string (brOf oa').key)).setCell ⟨ab, 1, none⟩ (.string (brOf oa').val)).setCell ⟨ab, 2, none⟩ (.int .i64 (brOf oa').at_)).setCell ⟨ab, 3, none⟩ (.slice xa (brOf oa').kids.length xc) := hw5
            rw [← hw5]
            clear hw5 S4 X4 Y4 x0 x1 x2 x3 xS xl a0 a1 a2 a3 af0 af1 af2 af3
            obtain ⟨ya, yc, yb, ys⟩ := unhide Y5
            have y0 := yb.cell 0 rfl
            have y1 := yb.cell 1 rfl
            have y2 := yb.cell 2 rfl
            have y3 := yb.cell 3 rfl
            have yS := hide ys
            have yl := yb.1
            clear yb ys
            obtain ⟨_, _, bb5, _⟩ := (unhide S5).xb
            have b0 := bb5.cell 0 rfl
            have bf0 := bb5.fro 0
            have b1 := bb5.cell 1 rfl
            have bf1 := bb5.fro 1
            have b2 := bb5.cell 2 rfl
            have bf2 := bb5.fro 2
            have b3 := bb5.cell 3 rfl
            have bf3 := bb5.fro 3
            clear bb5
            go_wp2_with fail
            refine ⟨⟨i + 1, oa', ob', by omega, by go_num, (unhide HNX).1, (unhide HNX).2, hide ((unhide S5).setB (unhide yS))⟩, ?_⟩
            simp [intOf]; omega
      · have hiq : i = idx.length := by omega
        subst hiq
        rw [List.take_length] at hA
        rw [Nat.sub_self, List.drop_zero] at hB
        have hrt := hB.root hA
        have hma := mr_dr hA.dr
        have hmb := mr_dr hB.dr
        rw [hrt] at hmb
        have HSA := hide (dr_small hA.dr.ok)
        have HSB := hide (dr_small hB.dr.ok)
        have HE := hide (fun b : Br => show Br.mk b.key b.val b.at_ b.kids = b by cases b; rfl)
        obtain ⟨cs, hml, hcl, hck, hcr⟩ := hA.list
        have HML := hide hml
        have HCL := hide hcl
        have HCK := hide hck
        have HCR := hide hcr
        have HMA := hide hma
        have HMB := hide hmb
        have HA := hide hA
        have hlt2 : ¬ (idx.length : Int) < (idx.length : Int) := by omega
        clear hml hcl hck hcr hma hmb hA hB hrt hlt hi8
        generalize rootR oa = root at *
        obtain ⟨xa, xc, xb, xs⟩ := (unhide SR).xa
        have x0 := xb.cell 0 rfl
        have x1 := xb.cell 1 rfl
        have x2 := xb.cell 2 rfl
        have x3 := xb.cell 3 rfl
        have xS := hide xs
        have xl := xb.1
        clear xb xs
        go_wp2_with fail
        have h := implMapRoot_any (brOf oa).key (brOf oa).val (brOf oa).at_ (brOf oa).kids _ _ _ (unhide xS) (unhide HSA).1 (unhide HSA).2 ((unhide HT).below (unhide SR).k.b)
        rw [unhide HE, unhide HMA] at h
        refine h.mono ?_
        clear h
        rintro e wb ⟨rfl, hb⟩
        replace SR := hide ((unhide SR).below hb)
        clear hb x0 x1 x2 x3 xS xl
        obtain ⟨xa, xc, xb, xs⟩ := (unhide SR).xb
        have x0 := xb.cell 0 rfl
        have x1 := xb.cell 1 rfl
        have x2 := xb.cell 2 rfl
        have x3 := xb.cell 3 rfl
        have xS := hide xs
        have xl := xb.1
        clear xb xs
        go_wp2_with fail
        have h := implMapRoot_any (brOf ob).key (brOf ob).val (brOf ob).at_ (brOf ob).kids _ _ _ (unhide xS) (unhide HSB).1 (unhide HSB).2 ((unhide HT).below (unhide SR).k.b)
        rw [unhide HE, unhide HMB] at h
        refine h.mono ?_
        clear h
        rintro e wd ⟨rfl, hb⟩
        replace SR := hide ((unhide SR).below hb)
        clear hb x0 x1 x2 x3 xS xl
        obtain ⟨xa, xc, xb, xs⟩ := (unhide SR).xa
        have x0 := xb.cell 0 rfl
        have x1 := xb.cell 1 rfl
        have x2 := xb.cell 2 rfl
        have x3 := xb.cell 3 rfl
        have xS := hide xs
        have xl := xb.1
        clear xb xs
        go_wp2_with fail
        have h := specMapRoot_any (brOf oa).key (brOf oa).val (brOf oa).at_ (brOf oa).kids _ _ _ (unhide xS) (unhide HSA).1 (unhide HSA).2
        rw [unhide HE, unhide HMA] at h
        refine h.mono ?_
        clear h
        rintro e we ⟨rfl, hb⟩
        replace SR := hide ((unhide SR).below hb)
        clear hb x0 x1 x2 x3 xS xl
        obtain ⟨xa, xc, xb, xs⟩ := (unhide SR).xa
        have x0 := xb.cell 0 rfl
        have x1 := xb.cell 1 rfl
        have x2 := xb.cell 2 rfl
        have x3 := xb.cell 3 rfl
        have xS := hide xs
        have xl := xb.1
        clear xb xs
        go_wp2_with fail
        have h := implMapList_any (brOf oa).key (brOf oa).val (brOf oa).at_ (brOf oa).kids _ _ we (unhide xS) (unhide HSA).1 (unhide HSA).2 ((unhide HT).below (unhide SR).k.b)
        rw [unhide HE, unhide HML] at h
        refine h.mono ?_
        clear h
        rintro e wl ⟨u, rfl, hO, hb⟩
        replace SR := hide ((unhide SR).below hb)
        dsimp only at hO
        obtain ⟨lg, lc, rfl⟩ : ∃ lg lc, u = .slice (some ⟨lg, 0, none⟩) idx.length lc := by
          rcases own_shape hO with ⟨e, h0⟩ | ⟨q, c, e, _⟩
          · have := unhide HCL; omega
          · rw [unhide HCL] at e; exact ⟨q, c, e⟩
        generalize we.heap.size = lo at *
        have HO := hide hO
        clear hb hO x0 x1 x2 x3 xS xl HML HMA HMB HSB
        have b1 : (root.toList == root.toList) = true := by simp
        have b2 : ((idx.length : Int) == (idx.length : Int)) = true := by simp
        go_wp2_with fail
        go_loopw [25] (fun iv wr => ∃ i : Nat, i ≤ idx.length ∧ iv = .int .i64 (i : Int) ∧ Hid (St w idx g gc ab bb oa ob wr) ∧ Hid (OwnC lo wr (.slice (some ⟨lg, 0, none⟩) idx.length lc) cs)) (fun iv _ => idx.length - (intOf iv).toNat)
        case atStart => exact ⟨0, Nat.zero_le _, rfl, SR, HO⟩
        case round =>
          clear SR HO
          obtain ⟨i, hi8, rfl, SR, HO⟩ := hrel
          by_cases hlt : i < idx.length
          · skip
            have hi1 : (i : Int) < (idx.length : Int) := by omega
            have hi0 : (0 : Int) ≤ (i : Int) := by omega
            obtain ⟨x, hx⟩ : ∃ x, idx[i]? = some x := ⟨idx[i], List.getElem?_eq_getElem hlt⟩
            have hx64 : x < 64 := by have := (unhide SR).k.lt x (List.mem_of_getElem? hx); omega
            have hmx := List.mem_of_getElem? hx
            have HCX := hide (fun wx (hk : Ks w 8 idx (some ⟨g, 0, none⟩) gc wx) => show wx.cell? ⟨g, i, none⟩ = some (.string (keyN x)) from by
              have c1 := hk.o.cell i (by rw [List.length_map]; exact hlt)
              have e1 : (idx.map keyN).getD i ByteArray.empty = keyN x := by rw [List.getD_eq_getElem?_getD, List.getElem?_map, hx]; rfl
              rw [e1] at c1
              exact c1)
            have HGET : Hid (mgOut (brOf oa) (keyN x) = .tuple #[.string (⟨#[118]⟩ ++ keyN x), .int .i64 0]) := hide ((unhide HA).get hx64 hmx)
            have HXS := hide (keyN_24 hx64)
            have hcx : ¬ 9223372036854775807 < 1 + (keyN x).size := by have := (unhide HXS).2; omega
            have b3 : (((⟨#[118]⟩ : ByteArray) ++ keyN x).toList == ((⟨#[118]⟩ : ByteArray) ++ keyN x).toList) = true := by simp
            have HB3 := hide b3
            clear b3 hx hmx hx64
            obtain ⟨xa, xc, xb, xs⟩ := (unhide SR).xa
            have x0 := xb.cell 0 rfl
            have x1 := xb.cell 1 rfl
            have x2 := xb.cell 2 rfl
            have x3 := xb.cell 3 rfl
            have xS := hide xs
            have xl := xb.1
            clear xb xs
            have hgg : g < wr.heap.size := by have := (unhide SR).ga; have := (unhide SR).lb; omega
            have c0 := unhide HCX wr (unhide SR).k
            go_upto_region 35 with fail
            have HKS : Hid (∀ wx, Below wr.heap.size wr wx → (fun wx => wx.cell? ⟨ab, 0, none⟩ = some (.string (brOf oa).key) ∧ wx.cell? ⟨ab, 1, none⟩ = some (.string (brOf oa).val) ∧ wx.cell? ⟨ab, 2, none⟩ = some (.int .i64 (brOf oa).at_) ∧ wx.cell? ⟨ab, 3, none⟩ = some (.slice xa (brOf oa).kids.length xc) ∧ wx.cell? ⟨g, i, none⟩ = some (.string (keyN x))) wx) := hide (fun wx hx => ⟨(hx.cell (p := ⟨ab, 0, none⟩) xl).trans x0, (hx.cell (p := ⟨ab, 1, none⟩) xl).trans x1, (hx.cell (p := ⟨ab, 2, none⟩) xl).trans x2, (hx.cell (p := ⟨ab, 3, none⟩) xl).trans x3, (hx.cell (p := ⟨g, i, none⟩) hgg).trans c0⟩)
            refine wp_region_noPanic ?_
            refine wp_region_held_drew (S := (fun wx => wx.cell? ⟨ab, 0, none⟩ = some (.string (brOf oa).key) ∧ wx.cell? ⟨ab, 1, none⟩ = some (.string (brOf oa).val) ∧ wx.cell? ⟨ab, 2, none⟩ = some (.int .i64 (brOf oa).at_) ∧ wx.cell? ⟨ab, 3, none⟩ = some (.slice xa (brOf oa).kids.length xc) ∧ wx.cell? ⟨g, i, none⟩ = some (.string (keyN x)))) (by kernel_rfl) ?_ (fun hHeld => ?_)
            · exact unhide HKS _ (below_drewN (Below.refl _ _) 1)
            refine tkH 0 rfl ?_
            refine tkH 1 rfl ?_
            refine tkH 2 rfl ?_
            refine tkH 3 rfl ?_
            refine tkH 4 rfl ?_
            have HBx := hide (below_drewN (Below.refl wr.heap.size wr) 1)
            change Hid (Below wr.heap.size wr wr.drew) at HBx
            clear hHeld x0 x1 x2 x3 c0
            generalize wr.drew = y0 at *
            refine wpAnyH_ready (rs := [5]) (by kernel_rfl) (by simp) ?_
            refine AllReadyH.cons (o := _) rfl (fun K hK => ?_) AllReadyH.nil
            go_simp
            have h := implMapGet_any (brOf oa).key (brOf oa).val (brOf oa).at_ (brOf oa).kids (keyN x) _ _ y0 ((unhide xS).blw (unhide HBx)) (unhide HSA).1 (unhide HSA).2 (by have := (unhide HXS).2; omega) ((unhide HT).below ((unhide SR).k.b.trans ((unhide HBx).mono (unhide SR).k.b.size)))
            rw [unhide HE, unhide HGET] at h
            refine h.mono ?_
            clear h
            rintro e y1 ⟨rfl, hbs⟩
            replace HBx := hide ((unhide HBx).trans (hbs.mono (unhide HBx).size))
            clear hbs
            go_wp2_with fail
            refine hK.out _ _ ?_ (fun hHeld => ?_)
            · exact unhide HKS _ (unhide HBx)
            clear hK K
            (try simp only [Act.put, List.getElem_toArray, List.getElem_cons_succ, List.getElem_cons_zero, List.setIfInBounds_toArray, List.set_cons_zero, List.set_cons_succ])
            refine tkH 6 rfl ?_
            refine tkH 7 rfl ?_
            refine tkH 8 rfl ?_
            refine tkH 9 rfl ?_
            refine tkH 10 rfl ?_
            refine wpAnyH_done (by kernel_rfl) (NoPanic.normal ?_) _
            clear hHeld
            replace SR := hide ((unhide SR).below (unhide HBx))
            replace HO := hide ((unhide HO).below (unhide HBx))
            clear HBx HKS xS xl hgg
            have c0 := unhide HCX y1 (unhide SR).k
            have b3 := unhide HB3
            by_cases hz : i = 0
            · have hgt : ¬ (0 : Int) < (i : Int) := by omega
              have hgt2 : ¬ 0 < i := by omega
              clear hz
              go_wp2_with fail
              refine ⟨⟨i + 1, by omega, by go_num, SR, HO⟩, ?_⟩
              simp [intOf]; omega
            · obtain ⟨p, hp⟩ : ∃ p, p + 1 = i := ⟨i - 1, by omega⟩
              have hgt : (0 : Int) < (i : Int) := by omega
              have hgt2 : 0 < i := by omega
              have hwp : IntKind.i64.wrap ((i : Int) - 1) = (p : Int) := by rw [wrapA _ (by omega) (by omega)]; omega
              have hp0 : (0 : Int) ≤ (p : Int) := by omega
              have hp1 : (p : Int) < (idx.length : Int) := by omega
              have hcl := unhide HCL
              have hk1 := unhide HCK p (by omega)
              have hk2 := unhide HCK i (by omega)
              have hls := unhide HCR i (by omega) (by omega)
              rw [show i - 1 = p by omega] at hls
              obtain ⟨_, _, _, d1, _⟩ := OwnC.cells (show y1.ownsRow lo 39 5 (.slice (some ⟨lg, 0, none⟩) idx.length lc) idx.length (csC cs) from by have h := unhide HO; unfold OwnC at h; rw [hcl] at h; exact h) p (by omega) hcl.symm
              have HCI := hide (fun wx (h : OwnC lo wx (.slice (some ⟨lg, 0, none⟩) idx.length lc) cs) => (OwnC.cells (show wx.ownsRow lo 39 5 (.slice (some ⟨lg, 0, none⟩) idx.length lc) idx.length (csC cs) from by unfold OwnC at h; rw [hcl] at h; exact h) i (by omega) hcl.symm).2.2.2.1)
              obtain ⟨kp, hkp⟩ : ∃ kp, kp = (cs.getD p default).ky := ⟨_, rfl⟩
              obtain ⟨ki, hki⟩ : ∃ ki, ki = (cs.getD i default).ky := ⟨_, rfl⟩
              rw [← hkp] at hk1 hls d1
              rw [← hki] at hk2 hls HCI
              have hln := less_not hls
              have HLN := hide hln
              have HLS := hide hls
              have HK1 := hide hk1
              have HK2 := hide hk2
              clear hkp hki hk1 hk2 hls hln hcl hp
              go_wp2_with fail
              have h := implKeyHash_any kp y1 (by have := (unhide HK1).2; omega) ((unhide HT).below (unhide SR).k.b)
              rw [(unhide HK1).1] at h
              refine h.mono ?_
              clear h
              rintro e y2 ⟨rfl, hb⟩
              replace SR := hide ((unhide SR).below hb)
              replace HO := hide ((unhide HO).below hb)
              clear hb d1 c0
              have d2 := unhide HCI y2 (unhide HO)
              go_wp2_with fail
              have h := implKeyHash_any ki y2 (by have := (unhide HK2).2; omega) ((unhide HT).below (unhide SR).k.b)
              rw [(unhide HK2).1] at h
              refine h.mono ?_
              clear h
              rintro e y3 ⟨rfl, hb⟩
              replace SR := hide ((unhide SR).below hb)
              replace HO := hide ((unhide HO).below hb)
              clear hb d2
              have hge : ∀ T : TypeId, Sem.run Tryd.prog (binOp BinOp.geq T (.string (kh kp)) (.string (kh ki))) y3 = Result.ok (.bool (!Op.bytesLess (kh kp).toList (kh ki).toList)) y3 := fun T => rfl
              rw [unhide HLS] at hge
              replace hge : Sem.run Tryd.prog (binOp BinOp.geq 9 (.string (kh kp)) (.string (kh ki))) y3 = Result.ok (.bool false) y3 := hge 9
              go_wp2_with fail
              refine ⟨⟨i + 1, by omega, by go_num, SR, HO⟩, ?_⟩
              simp [intOf]; omega
          · have hiq : i = idx.length := by omega
            subst hiq
            have hlt4 : ¬ (idx.length : Int) < (idx.length : Int) := by omega
            clear HO HCL HCK HCR
            go_wp2_with fail
            refine (at_in _ l2 _ wr ((unhide H2).below (unhide SR).k.b) (by omega) (by omega)).mono ?_
            rintro e wj ⟨rr, rfl, hr0, hr1, d, rfl⟩
            obtain ⟨rn, rfl⟩ : ∃ rn : Nat, rr = (rn : Int) := ⟨rr.toNat, by omega⟩
            replace SR := hide ((unhide SR).below (below_drewN (Below.refl wr.heap.size wr) d))
            generalize wr.drewN d = wj at *
            have hrn : rn < idx.length := by omega
            obtain ⟨x, hx⟩ : ∃ x, idx[rn]? = some x := ⟨idx[rn], List.getElem?_eq_getElem hrn⟩
            have hx64 : x < 64 := by have := (unhide SR).k.lt x (List.mem_of_getElem? hx); omega
            have hmx := List.mem_of_getElem? hx
            have HCX := hide (fun wx (hk : Ks w 8 idx (some ⟨g, 0, none⟩) gc wx) => show wx.cell? ⟨g, rn, none⟩ = some (.string (keyN x)) from by
              have c1 := hk.o.cell rn (by rw [List.length_map]; exact hrn)
              have e1 : (idx.map keyN).getD rn ByteArray.empty = keyN x := by rw [List.getD_eq_getElem?_getD, List.getElem?_map, hx]; rfl
              rw [e1] at c1
              exact c1)
            obtain ⟨oc, hpc, hdc, hgc⟩ := (unhide HA).change hx64 (by omega)
            have hmc := mr_dr hdc
            have HPC := hide hpc
            have HGC := hide hgc
            have HMC := hide hmc
            have HSC := hide (dr_small hdc.ok)
            have HXS := hide (keyN_24 hx64)
            have c0 := unhide HCX wj (unhide SR).k
            clear hx hmx hx64 hpc hgc hmc hdc HCX HA b1
            generalize rootR oc = root2 at *
            obtain ⟨xa, xc, xb, xs⟩ := (unhide SR).xa
            have x0 := xb.cell 0 rfl
            have x1 := xb.cell 1 rfl
            have x2 := xb.cell 2 rfl
            have x3 := xb.cell 3 rfl
            have xS := hide xs
            have xl := xb.1
            clear xb xs
            go_wp2_with fail
            have h := implMapPut_any (brOf oa).key (brOf oa).val (brOf oa).at_ (brOf oa).kids (keyN x) chB _ _ wj (unhide xS) (unhide HSA).1 (unhide HSA).2 (by have := (unhide HXS).2; omega) (by decide) ((unhide HT).below (unhide SR).k.b)
            rw [unhide HE, unhide HPC] at h
            refine h.mono ?_
            clear h
            rintro e wp ⟨u, rfl, ⟨pa, pn, pc, rfl, hpB⟩, hb⟩
            dsimp only at hpB ⊢
            obtain rfl : pn = (brOf oc).kids.length := by obtain ⟨a', cap', e', _, _⟩ := hpB.brs.shape; cases e'; rfl
            have BB := (Below.refl wp.heap.size wp).alloc (Nat.le_refl _) (.cells #[.string (brOf oc).key, .string (brOf oc).val, .int .i64 (brOf oc).at_, .slice pa (brOf oc).kids.length pc] 27)
            replace SR := hide ((unhide SR).below (hb.trans (BB.mono hb.size)))
            have XC := hide (show Bx (fun _ => True) (wp.alloc (.cells #[.string (brOf oc).key, .string (brOf oc).val, .int .i64 (brOf oc).at_, .slice pa (brOf oc).kids.length pc] 27)) wp.heap.size (brOf oc) from ⟨pa, pc, Blk.new wp #[.string (brOf oc).key, .string (brOf oc).val, .int .i64 (brOf oc).at_, .slice pa (brOf oc).kids.length pc] 27 wp.heap.size rfl, (hpB.brs.mono (fun _ _ => trivial)).blw BB⟩)
            clear hb BB hpB x0 x1 x2 x3 xS xl c0
            go_upto_region 45 with fail
            generalize wp.alloc (.cells #[.string (brOf oc).key, .string (brOf oc).val, .int .i64 (brOf oc).at_, .slice pa (brOf oc).kids.length pc] 27) = wq at *
            generalize wp.heap.size = xp at *
            obtain ⟨xa, xc, xb, xs⟩ := unhide XC
            have x0 := xb.cell 0 rfl
            have x1 := xb.cell 1 rfl
            have x2 := xb.cell 2 rfl
            have x3 := xb.cell 3 rfl
            have xS := hide xs
            have xl := xb.1
            clear xb xs
            go_wp2_with fail
            have h := implMapGet_any (brOf oc).key (brOf oc).val (brOf oc).at_ (brOf oc).kids (keyN x) _ _ wq (unhide xS) (unhide HSC).1 (unhide HSC).2 (by have := (unhide HXS).2; omega) ((unhide HT).below (unhide SR).k.b)
            rw [unhide HE, unhide HGC] at h
            refine h.mono ?_
            clear h
            rintro e wq1 ⟨rfl, hb⟩
            replace SR := hide ((unhide SR).below hb)
            replace XC := hide ((unhide XC).below hb)
            clear hb x0 x1 x2 x3 xS xl
            obtain ⟨xa, xc, xb, xs⟩ := unhide XC
            have x0 := xb.cell 0 rfl
            have x1 := xb.cell 1 rfl
            have x2 := xb.cell 2 rfl
            have x3 := xb.cell 3 rfl
            have xS := hide xs
            have xl := xb.1
            clear xb xs
            go_wp2_with fail
            have h := implMapRoot_any (brOf oc).key (brOf oc).val (brOf oc).at_ (brOf oc).kids _ _ wq1 (unhide xS) (unhide HSC).1 (unhide HSC).2 ((unhide HT).below (unhide SR).k.b)
            rw [unhide HE, unhide HMC] at h
            refine h.mono ?_
            clear h
            rintro e wq2 ⟨rfl, hb⟩
            replace SR := hide ((unhide SR).below hb)
            replace XC := hide ((unhide XC).below hb)
            clear hb x0 x1 x2 x3 xS xl
            obtain ⟨xa, xc, xb, xs⟩ := unhide XC
            have x0 := xb.cell 0 rfl
            have x1 := xb.cell 1 rfl
            have x2 := xb.cell 2 rfl
            have x3 := xb.cell 3 rfl
            have xS := hide xs
            have xl := xb.1
            clear xb xs
            go_wp2_with fail
            have h := specMapRoot_any (brOf oc).key (brOf oc).val (brOf oc).at_ (brOf oc).kids _ _ wq2 (unhide xS) (unhide HSC).1 (unhide HSC).2
            rw [unhide HE, unhide HMC] at h
            refine h.mono ?_
            clear h
            rintro e wq3 ⟨rfl, hb⟩
            replace SR := hide ((unhide SR).below hb)
            replace XC := hide ((unhide XC).below hb)
            clear hb x0 x1 x2 x3 xS xl
            have b4 : (chB.toList == chB.toList) = true := by simp
            have b5 : (root2.toList == root2.toList) = true := by simp
            unfold chB at b4 ⊢
            go_wp2_with fail
            go_ret
            exact ⟨rfl, (unhide SR).k.b⟩
set_option maxRecDepth 100000 in
theorem walk (a0 : Option Addr) (len0 cap0 : Nat) (z0 : List Int) (a1 : Option Addr) (len1 cap1 : Nat) (z1 : List Int) (w : World) (w0 : IsRow .u8 w a0 len0 cap0 z0) (w1 : IsRow .u8 w a1 len1 cap1 z1) (hf : First w) (ht : Table w) :
    Calls Tryd.prog 3 #[.slice a0 len0 cap0, .slice a1 len1 cap1] w fun e w' => e = .returned (.bool true) ∧ Below w.heap.size w w' := by
  have b0 := bytes_of_row w0
  have b1 := bytes_of_row w1
  have l0 : (z0.take len0).length = len0 := by
    rcases w0 with ⟨_, rfl, _, rfl⟩ | ⟨x, _, hl, hm, hz, _⟩
    · rfl
    · rw [List.length_take]; omega
  have l1 : (z1.take len1).length = len1 := by
    rcases w1 with ⟨_, rfl, _, rfl⟩ | ⟨x, _, hl, hm, hz, _⟩
    · rfl
    · rw [List.length_take]; omega
  have h := walk0 a0 cap0 (z0.take len0) a1 cap1 (z1.take len1) w (by rw [l0]; exact b0) (by rw [l1]; exact b1) hf ht
  rw [l0, l1] at h
  exact h

theorem vars_of_laid {W : World} (h : laidMetH Tryd.prog Rows.fnMapRow.laid W) :
    W.var? Tryd.prog "loop.example/g00220/impl.firstWords" = some firstCells ∧ W.var? Tryd.prog "loop.example/g00220/impl.roundWords" = some roundCells := by
  rw [MakeChecks.laidMetH_plain _ _ _ (by kernel_rfl)] at h
  obtain ⟨ps, ⟨g0, t0, cs0, f0, p0, q0, hg0, ht0, hv0, hd0, ⟨g1, t1, cs1, f1, p1, q1, hg1, ht1, hv1, hd1, _, _⟩, _⟩, _, _⟩ := h
  obtain rfl := Option.some.inj (gFirst.symm.trans hg0)
  obtain rfl := Option.some.inj (gRound.symm.trans hg1)
  obtain rfl := Option.some.inj (gFirstType.symm.trans ht0)
  obtain rfl := Option.some.inj (gRoundType.symm.trans ht1)
  have e0 := Lib.cells_of_tab (k := .u32) (cs := cs0.toList) (zs := iL.map fun (n : Nat) => (n : Int)) Tryd.underlying107 Tryd.underlying106 cellsE cellsA hd0
  have e1 := Lib.cells_of_tab (k := .u32) (cs := cs1.toList) (zs := kL.map fun (n : Nat) => (n : Int)) Tryd.underlying111 Tryd.underlying106 cellsE cellsB hd1
  have a0 : cs0 = firstCells := by
    have : cs0.toList = firstCells.toList := e0.trans (by kernel_rfl)
    exact Array.toList_inj.1 this
  have a1 : cs1 = roundCells := by
    have : cs1.toList = roundCells.toList := e1.trans (by kernel_rfl)
    exact Array.toList_inj.1 this
  exact ⟨by rw [hv0, a0], by rw [hv1, a1]⟩
theorem door_met (os : Os) (args : Array Value) : laidMetH Tryd.prog Rows.fnMapRow.laid ((World.doorLaid Tryd.prog 19 os).forCall (fun _ _ => 0) ⟨#[], args, []⟩).memory :=
  laidMetH_of_parts3 (fuel := 8) (laidMet_of_run' 8 (by kernel_rfl) (by kernel_rfl)) (by kernel_rfl) (by kernel_rfl)
set_option maxRecDepth 100000 in
theorem lifted (os : Os) (started : os.Started) (H : Type) (enc : TypeId × Value → H) :
    ReturnsInHanded {} Tryd.checked os 3 .any (fun w args => (Rows.fnMapSpec.pre enc Tryd.prog Tryd.f3 [] false w args ∧ laidMetH Tryd.prog Rows.fnMapRow.laid w) ∧ sizedMet enc Tryd.prog Tryd.f3 (OpenSpec.ofChange Rows.fnMapSpec) false w args)
      (Rows.fnMapSpec.post enc Tryd.prog Tryd.f3 false true false false) := by
  refine returnsInHanded_of_change_and (C := Tryd.checked) (X := fun w _ => laidMetH Tryd.prog Rows.fnMapRow.laid w) (fun _ _ _ hh h => h.of_heap hh) own started (by kernel_rfl) Tryd.func3
    (ChangeSpec.witness_shaped (enc := enc) (C := Tryd.checked) (os := os) (X := fun w _ => laidMetH Tryd.prog Rows.fnMapRow.laid w) false (World.doorLaid Tryd.prog 19 os) #[.slice none 0 0, .slice none 0 0] 8 rfl (World.shaped_of_RefB (by kernel_rfl) (by kernel_rfl)) (by kernel_rfl) (by kernel_rfl) (by kernel_rfl) (door_met os _)) ?_
  intro W base args ds gs before hval0 hW _ _ hL _
  have hval : ∀ (j : Nat) t v, Tryd.f3.params[j]? = some t → args[j]? = some v → Value.okWide Tryd.prog W .any base t v := hval0
  have hW' := hW
  obtain ⟨p, q, hA0, hV0, rfl, hfz, hnd⟩ := hW
  have hA : DataW.TrodAll enc Tryd.prog W 0 (fun _ => true) true Tryd.f3.params.toList args.toList ds p := hA0
  have hV : DataW.TrodVars enc Tryd.prog W (fun _ => true) ["loop.example/g00220/impl.firstWords", "loop.example/g00220/impl.roundWords"] gs q := hV0
  rw [Tryd.params3] at hA hval
  obtain ⟨v0, vs0, d0, ds0, p0, q0, hargs, rfl, rfl, h0, r0⟩ := trodAll_cons hA
  obtain ⟨v1, vs1, d1, ds1, p1, q1, rfl, rfl, rfl, h1, r1⟩ := trodAll_cons r0
  obtain ⟨rfl, rfl, rfl⟩ := trodAll_nil r1
  obtain rfl : args = #[v0, v1] := by cases args; simp_all
  have k0 := h0
  have lt0 : ∀ x ∈ p0, x.block < W.heap.size := by obtain ⟨m, hm⟩ := k0; exact DataW.trod_lt m _ _ _ hm
  obtain ⟨a0, len0, cap0, rfl⟩ := okWide_slice Tryd.underlying22 (hval 0 22 v0 rfl rfl)
  obtain ⟨z0, w0⟩ : ∃ zs, IsRow .u8 W a0 len0 cap0 zs := by
    obtain ⟨fuel, hf⟩ := h0
    rcases open_ints Tryd.underlying22 Tryd.underlying5 (by kernel_rfl) hf with ⟨hcs, _⟩ | ⟨x, l, c, zs, hcs, _, hl, hm, hz, _, hcell, hwz⟩
    · simp [Value.cells] at hcs
      obtain ⟨rfl, rfl, rfl⟩ := hcs
      exact ⟨[], .inl ⟨rfl, rfl, rfl, rfl⟩⟩
    · simp [Value.cells] at hcs
      obtain ⟨rfl, rfl, rfl⟩ := hcs
      exact ⟨zs, .inr ⟨_, rfl, hl, hm, by simpa using hz, hcell, hwz⟩⟩
  have k1 := h1
  have lt1 : ∀ x ∈ p1, x.block < W.heap.size := by obtain ⟨m, hm⟩ := k1; exact DataW.trod_lt m _ _ _ hm
  obtain ⟨a1, len1, cap1, rfl⟩ := okWide_slice Tryd.underlying22 (hval 1 22 v1 rfl rfl)
  obtain ⟨z1, w1⟩ : ∃ zs, IsRow .u8 W a1 len1 cap1 zs := by
    obtain ⟨fuel, hf⟩ := h1
    rcases open_ints Tryd.underlying22 Tryd.underlying5 (by kernel_rfl) hf with ⟨hcs, _⟩ | ⟨x, l, c, zs, hcs, _, hl, hm, hz, _, hcell, hwz⟩
    · simp [Value.cells] at hcs
      obtain ⟨rfl, rfl, rfl⟩ := hcs
      exact ⟨[], .inl ⟨rfl, rfl, rfl, rfl⟩⟩
    · simp [Value.cells] at hcs
      obtain ⟨rfl, rfl, rfl⟩ := hcs
      exact ⟨zs, .inr ⟨_, rfl, hl, hm, by simpa using hz, hcell, hwz⟩⟩
  obtain ⟨hvA, hvB⟩ := vars_of_laid hL
  clear hA0 hV0 hval0
  refine (walk a0 len0 cap0 z0 a1 len1 cap1 z1 W w0 w1 (first_of hvA) (table_of hvB)).mono fun e W' ⟨he, bel⟩ => ?_
  subst he
  obtain ⟨rfl, pv, hvs⟩ := vars_again (sp := fun b => decide (b < W.heap.size)) hvA hvB hV bel
  exact ⟨_, rfl, _, _, _, [], _, pv, hW', trodAll_mk1 (shut_bool Tryd.underlying4 _), (trodAll_cons_mk (Below.trod laidOut (by kernel_rfl) (of_decide_eq_true (by kernel_rfl)) k0 bel lt0) (trodAll_cons_mk (Below.trod laidOut (by kernel_rfl) (of_decide_eq_true (by kernel_rfl)) k1 bel lt1) trodAll_mk0)), hvs, bel.frame _, fun h => by cases h⟩

theorem said : Rows.FnMapSaid :=
  OpenClaim.holds_of_wide 3 Tryd.f3 rfl rfl rfl rfl rfl rfl rfl ⟨rfl, rfl, rfl, rfl, rfl⟩ rfl rfl rfl rfl rfl (by kernel_rfl) Tryd.func3 (by kernel_rfl)
    (of_decide_eq_true (by kernel_rfl)) (by unfold Func.isWrapper; first | (rw [if_pos (by decide +kernel)]; kernel_rfl) | (rw [if_neg (by decide +kernel)]; exact ⟨rfl, rfl⟩))
    (fun os started H enc _ => lifted os started H enc)

theorem plain (f : FuncId) (fn : Func) (hf : Tryd.pinned.checked.prog.funcNamed "loop.example/g00220/laws.FnMap" = some f) (hfn : Tryd.pinned.checked.prog.funcs[f]? = some fn) :
    false = Tryd.pinned.checked.prog.looks [] ∧ ∀ (j : Nat) t, fn.params[j]? = some t → Tryd.pinned.checked.prog.wantsStandIn t = false := by
  obtain rfl : f = 3 := Option.some.inj ((show Tryd.prog.funcNamed "loop.example/g00220/laws.FnMap" = some 3 by kernel_rfl).symm.trans hf) |>.symm
  obtain rfl : fn = Tryd.f3 := (Option.some.inj (Tryd.func3.symm.trans hfn)).symm
  refine ⟨by kernel_rfl, fun j t ht => ?_⟩
  rw [Tryd.params3] at ht
  obtain rfl : t = 22 := by
    have := Array.mem_of_getElem? ht
    simpa using this
  exact (show Tryd.prog.wantsStandIn 22 = false by kernel_rfl)
end Go.Proofs.YtkcpdjeemdlgcaaDoor.fnMap
namespace Go.Proofs.YtkcpdjeemdlgcaaDoor
theorem fnMap_card : Rows.FnMapCardSaid :=
  Claim7.holds_tied_plain_at .later [] _ _ _ _ fnMap.said (fun _ h => by cases h) (by kernel_rfl) (fun _ h => by cases h) fnMap_row_tie rfl ⟨rfl, rfl⟩ (by kernel_rfl) rfl fnMap.plain (by kernel_rfl)
#print axioms fnMap_card
end Go.Proofs.YtkcpdjeemdlgcaaDoor
