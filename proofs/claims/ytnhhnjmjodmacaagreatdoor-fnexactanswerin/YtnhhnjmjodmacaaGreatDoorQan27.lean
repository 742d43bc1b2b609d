/- (*leafLog).note, walked. How many leaves, how many keys a book has, walked. What is at a key of a book's map: keyMap.value. -/
import Derived.Test.YtnhhnjmjodmacaaGreatDoorQan26
import Derived.Test.YtnhhnjmjodmacaaGreatDoorQan10
import Derived.Test.YtnhhnjmjodmacaaGreatDoorQan25
import Derived.Test.YtnhhnjmjodmacaaGreatDoorQan14
import Derived.Deep.AppendLies
namespace Go.Proofs.YtnhhnjmjodmacaaGreatDoor.Sha
open Go.ChangeShapes Go.WideShapes Go.ChangeAt Go.RowKit Go.Deep
set_option linter.unusedVariables false
set_option linter.unusedSimpArgs false
theorem infoStr_ : (Tryz.prog.info? 9).map (fun i => (i.zero, i.size, i.bytes)) = some (some (.string ⟨#[]⟩), 1, 16) := by kernel_rfl
theorem own_str {B : Nat} {w : World} {v : Value} {l : List Int} (h : OwnB B w v l) (hl : 0 < l.length) : (convert 127 9 v).run Tryz.prog w = .ok (.string (strOfNums l)) w := by
  obtain ⟨g, cap, rfl, _, _⟩ := World.ownsRow.form h.1 hl
  refine run_convert_bytes_arg (P := Tryz.prog) w 127 5 Tryz.underlying127 Tryz.underlying5 g 0 l.length cap l rfl (fun i hi => ?_) 9 Tryz.underlying9
  have := h.1.cellAt i (by omega)
  rw [Nat.zero_add, this, List.getElem?_map, List.getElem?_eq_getElem hi, Option.map_some, List.getD_eq_getElem?_getD, List.getElem?_eq_getElem hi]
  rfl
/-- The leaves at cell 0 of block p are one more now. -/
def LogR (B p : Nat) (lv : Value) (tp : Option Addr) (sv : Value) (ls : List ByteArray) (w w' : World) : Prop :=
  ∃ lv', Blk w' p [lv', .pointer tp, sv] ∧ OwnS B w' lv' ls ∧ (lv'.ownBlock = lv.ownBlock ∨ ∃ g, lv'.ownBlock = some g ∧ w.heap.size ≤ g) ∧ Touch (fun q => lv.ownBlock = some q ∨ q = p) w w'
set_option maxRecDepth 100000 in
set_option maxHeartbeats 4000000 in
theorem note_any (B p : Nat) (lv sv : Value) (tp : Option Addr) (ls : List ByteArray) (c : Cm) (w : World) (hX : Blk w p [lv, .pointer tp, sv]) (hO : OwnS B w lv ls) (hB : B ≤ w.heap.size) (hpo : lv.ownBlock ≠ some p) (hc : cmK c = true) (hk : c.ky.size ≤ 24) (hv : c.vl.size ≤ 60) (hn : ls.length ≤ 1000) (ht : Tab w) :
    Calls Tryz.prog 124 #[.pointer (some ⟨p, 0, none⟩), .agg #[.int .i64 c.kd, .int .i64 c.ss, .int .i64 c.sq, .string c.ky, .string c.vl]] w fun e w' => (∃ v, e = .returned v) ∧ LogR B p lv tp sv (ls ++ [leafC c]) w w' := by
  obtain ⟨i0, hi, hz0, hz1, hz2⟩ := info_parts infoStr_
  obtain ⟨ckd, css, csq, cky, cvl⟩ := c
  dsimp only at hk hv ⊢
  have HLF : Hid (leafC ⟨ckd, css, csq, cky, cvl⟩ = leafV (strOfNums (cmdBytes ckd css csq cky cvl))) := hide rfl
  generalize leafC ⟨ckd, css, csq, cky, cvl⟩ = lf at *
  have hco : cmdOut ckd css csq cky cvl = (cmdBytes ckd css csq cky cvl, 0) := by unfold cmdOut; rw [if_pos (show cmdOK ckd css csq cky cvl = true from hc)]
  have hbl : 0 < (cmdBytes ckd css csq cky cvl).length ∧ (strOfNums (cmdBytes ckd css csq cky cvl)).size ≤ 100 := by
    have e1 : cky.data.size = cky.size := rfl
    have e2 : cvl.data.size = cvl.size := rfl
    simp only [strOfNums, ByteArray.size, cmdBytes, List.length_append, encN_len, textsL_len, sizes, List.size_toArray, List.length_map]
    omega
  have HCB := hide (fun wx => implCommandBytes_any ckd css csq cky cvl wx (by unfold maxLen; omega) (by unfold maxLen; omega))
  rw [hco] at HCB
  dsimp only at HCB
  generalize cmdBytes ckd css csq cky cvl = bs at *
  obtain ⟨hbl1, hbl2⟩ := hbl
  have B0 := hide ((Below.refl w.heap.size w).alloc (Nat.le_refl _) (.cells #[.int .i64 ckd, .int .i64 css, .int .i64 csq, .string cky, .string cvl] 44))
  have HX := hide hX
  have HO := hide hO
  have HT := hide ht
  have HP := hide (And.intro hpo hX.1)
  clear hX hO ht hc hco hpo
  go_enter Tryz.func124, Tryz.ntmps124
  go_wp2_with fail
  generalize w.alloc (.cells #[.int .i64 ckd, .int .i64 css, .int .i64 csq, .string cky, .string cvl] 44) = w0 at *
  refine (unhide HCB w0).mono ?_
  rintro e w1 ⟨v1, rfl, hOB, hb1⟩
  have K1 := hide ((unhide B0).trans (hb1.mono (unhide B0).size))
  have hcv := own_str hOB hbl1
  have HLH := hide (implLeaf_any (strOfNums bs) w1 (by omega) ((unhide HT).below (unhide K1)))
  have hlo : leafOut (strOfNums bs) = .tuple #[.string lf, .int .i64 0] := by unfold leafOut; rw [if_neg (by omega), ← unhide HLF]
  rw [hlo] at HLH
  clear hlo hOB hb1 B0 HCB HLF
  generalize strOfNums bs = bt at *
  go_wp2_with fail
  refine (unhide HLH).mono ?_
  rintro e w2 ⟨rfl, hb2⟩
  have K2 := hide ((unhide K1).trans (hb2.mono (unhide K1).size))
  have hs2 := (unhide K2).size
  clear hb2 HLH hcv K1
  have X2 := (unhide HX).below (unhide K2)
  have x0 := X2.cell 0 rfl
  have HX2 := hide X2
  have HO2 := hide ((unhide HO).below (unhide K2))
  clear X2
  obtain ⟨ob, hob⟩ : ∃ ob, ob = lv.ownBlock := ⟨_, rfl⟩
  have HOB := hide hob
  clear hob
  go_wp2_with (at_builtin; refine wpList_append_lies _ rfl _ _ 22 rfl B 9 i0 _ 1 16 Tryz.underlying22 hi hz0 hz1 hz2 rfl (by omega) lv ls.length _ rfl (World.ownsRow.alloc (unhide HO2) _) ⟨w2.heap.size, 0, none⟩ 1 1 [_] rfl rfl (World.news_of_block (cs := #[_]) (t := 9) (fr := (0, 0)) (heap_alloc_new w2 _)) (by simp [Value.oneCell']) (by omega) (by unfold maxLen; omega) (by omega) (by simp; omega) _ rfl ?_; intro g5 cap5 w5 hown5 hgrow5 hat5 hlt5; have R5 := hide (And.intro hown5 (And.intro hgrow5 hat5)); have TT := (Touch.refl (fun q => lv.ownBlock = some q) (w2.alloc (.cells #[.string lf] 9))).grown hgrow5 (fun q e _ => e); have X5 := ((unhide HX2).alloc (.cells #[.string lf] 9)).kept TT (fun e => (unhide HP).1 e); have y0 := X5.cell 0 rfl; have f0 := X5.fro 0; have HX5 := hide X5; have HTT := hide TT; clear hown5 hgrow5 hat5 hlt5 TT X5)
  go_end0
  obtain ⟨hown5, hgrow5, hat5⟩ := unhide R5
  have TS := (Touch.refl (fun k => k = p) w5).setCell ⟨p, 0, none⟩ (.slice (some ⟨g5, 0, none⟩) (ls.length + 1) cap5) (fun _ => rfl)
  have hg5 : g5 ≠ p := by
    rcases hat5 with h | h
    · exact fun e => (unhide HP).1 (by rw [h, e])
    · have := (unhide HP).2
      simp only [World.size_alloc] at h
      omega
  refine ⟨⟨_, rfl⟩, .slice (some ⟨g5, 0, none⟩) (ls.length + 1) cap5, ?_, ?_, ?_, ?_⟩
  · have := (unhide HX5).set 0 (.slice (some ⟨g5, 0, none⟩) (ls.length + 1) cap5) (by simp)
    simpa using this
  · refine own_kept (T := fun k => k = p) ?_ TS (fun k hk e => hg5 (by simp [Value.ownBlock] at hk; omega))

    rw [List.length_append, List.map_append]
    exact hown5
  · rcases hat5 with h | h
    · exact .inl h.symm
    · refine .inr ⟨g5, rfl, ?_⟩
      simp only [World.size_alloc] at h
      omega
  · have T2 : Touch (fun q => lv.ownBlock = some q ∨ q = p) w w2 := Touch.ofBelow (unhide K2)
    exact ((T2.alloc (.cells #[.string lf] 9)).trans (unhide HTT) (fun j _ e => .inl e)).trans TS (fun j _ e => .inr e)
end Go.Proofs.YtnhhnjmjodmacaaGreatDoor.Sha
namespace Go.Proofs.YtnhhnjmjodmacaaGreatDoor.Sha
open Go.ChangeShapes Go.WideShapes Go.ChangeAt Go.RowKit
set_option linter.unusedVariables false
set_option linter.unusedSimpArgs false
set_option maxRecDepth 100000 in
theorem places_any (p : Nat) (a : Option Addr) (n c : Nat) (w : World) (h : w.cell? ⟨p, 0, none⟩ = some (.slice a n c)) (hn : n ≤ maxLen) :
    Calls Tryz.prog 125 #[.pointer (some ⟨p, 0, none⟩)] w fun e w' => e = .returned (.int .i64 n) ∧ w' = w := by
  unfold maxLen at hn
  go_enter Tryz.func125, Tryz.ntmps125
  go_wp2_with fail
  go_ret
  exact ⟨rfl, rfl⟩
set_option maxRecDepth 100000 in
theorem keys_any (p : Nat) (tp : Option Addr) (S : Nat → Prop) (o : Option Tr) (w : World) (hc : w.cell? ⟨p, 1, none⟩ = some (.pointer tp)) (hp : PtrM w S tp o) (hok : OkO o) (h40 : lvO o ≤ 1000) :
    Calls Tryz.prog 132 #[.pointer (some ⟨p, 1, none⟩)] w fun e w' => e = .returned (.int .i64 (lvO o)) ∧ Below w.heap.size w w' := by
  have HT := hide (sizeO_any hp hok h40)
  clear hp hok
  generalize lvO o = tv at *
  go_enter Tryz.func132, Tryz.ntmps132
  go_wp2_with fail
  refine (unhide HT).mono ?_
  rintro e w1 ⟨rfl, hb1⟩
  have K := hide hb1
  clear hb1
  go_wp2_with fail
  go_ret
  exact ⟨rfl, unhide K⟩
end Go.Proofs.YtnhhnjmjodmacaaGreatDoor.Sha
namespace Go.Proofs.YtnhhnjmjodmacaaGreatDoor.Sha
open Go.ChangeShapes Go.WideShapes Go.ChangeAt Go.RowKit
set_option linter.unusedVariables false
/-- What value answers. -/
def valV (o : Option Tr) (key : ByteArray) : Value := match getV o key with
  | none => .tuple #[.string ⟨#[]⟩, .bool false]
  | some x => .tuple #[.string x, .bool true]
set_option maxRecDepth 100000 in
set_option maxHeartbeats 1000000 in
theorem value_any (p : Nat) (key : ByteArray) (hk : key.size ≤ 24) (w : World) (S : Nat → Prop) (pv : Option Addr) (o : Option Tr) (hc : w.cell? ⟨p, 1, none⟩ = some (.pointer pv)) (hp : PtrM w S pv o) (hr : RiseO o) (ht : Tab w) :
    Calls Tryz.prog 119 #[.pointer (some ⟨p, 1, none⟩), .string key] w fun e w' => e = .returned (valV o key) ∧ Below w.heap.size w w' := by
  have HFD := hide (find_any key hk w S pv o hp hr ht)
  clear hp hr ht hk
  go_enter Tryz.func119, Tryz.ntmps119
  go_wp2_with fail
  refine (unhide HFD).mono ?_
  rintro e w3 ⟨qv, rfl, hb3, hq⟩
  have B3 := hide hb3
  clear hb3 HFD
  rcases hq with ⟨hq1, hq2⟩ | ⟨t, q, hq1, hq2, hq3, hq4⟩
  · have HG : Hid (valV o key = .tuple #[.string ⟨#[]⟩, .bool false]) := hide (by
      have : getV o key = none := by
        cases o with
        | none => rfl
        | some t => unfold getV; dsimp only; rw [if_neg (hq2 t rfl)]
      unfold valV; rw [this])
    subst hq1
    clear hq2
    go_wp2_with fail
    go_ret2
    exact ⟨by rw [unhide HG]; rfl, unhide B3⟩
  · have HG : Hid (valV o key = .tuple #[.string (leadL (kh key) t).2, .bool true]) := hide (by
      have : getV o key = some (leadL (kh key) t).2 := by
        subst hq1; unfold getV; dsimp only; rw [if_pos hq2]
      unfold valV; rw [this])
    subst hq3
    have c1 := hq4.cell 1 rfl
    clear hq1 hq2 hq4
    generalize (leadL (kh key) t).2 = x at *
    go_wp2_with fail
    go_ret2
    exact ⟨by rw [unhide HG]; rfl, unhide B3⟩
end Go.Proofs.YtnhhnjmjodmacaaGreatDoor.Sha
