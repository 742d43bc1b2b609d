/- What the listed table of words holds when the call begins, and that it holds that still behind the call. -/
import Derived.Test.YtbpadjocaigpgagDoorWords
namespace Go.Proofs.YtbpadjocaigpgagDoor
open Go.ChangeShapes Go.WideShapes Go.ChangeAt Go.RowKit
set_option linter.unusedVariables false

theorem own : ownKnob Tryd.prog.godebug = none := by kernel_rfl
theorem laidOut : laidOutB Tryd.prog = true := by kernel_rfl
theorem gWords : Tryd.prog.globalNamed "loop.example/g00220/impl.codeWords" = some 0 := by kernel_rfl
theorem gWordsType : (Tryd.prog.globals[0]?).map (·.type) = some 32 := by kernel_rfl
theorem cells32 : Tryd.prog.cellsOf 32 = 20 := by kernel_rfl
theorem cells9 : Tryd.prog.cellsOf 9 = 1 := by kernel_rfl

/-- An array of texts that reads as the table holds the table's texts, cell for cell. -/
theorem cells_of_texts {H : Type} {enc : TypeId × Value → H} {P : Program} {w : World} {base : Nat} {sp : Nat → Bool} {held : Bool} {fuel : Nat} {t e : TypeId} {n : Nat} {cs : List Value} {ss : List ByteArray} {p : List MemPlace}
    (ht : P.underlying t = some (.array n e)) (he : P.underlying e = some .string) (hce : P.cellsOf e = 1) (hct : P.cellsOf t = n)
    (h : DataW.trod enc P w base sp held fuel t cs = some (.agg (ss.map fun s => .lit (.string s.data.toList)), p)) : cs = ss.map Value.string := by
  cases fuel with
  | zero => simp [DataW.trod] at h
  | succ fuel =>
    simp only [DataW.trod, ht, hce, hct, Nat.mul_one] at h
    split at h
    · rename_i hl
      obtain ⟨xs, hm, hx⟩ := Option.map_eq_some_iff.1 h
      have hxs : xs.map (·.1) = ss.map fun s => (DataW.lit (.string s.data.toList) : DataW H) := by
        have := congrArg Prod.fst hx
        simpa using this
      have hxl : xs.length = n := by simpa using Lib.mapM_length hm
      have hzl : ss.length = n := by
        have := congrArg List.length hxs
        simp at this
        omega
      apply List.ext_getElem?
      intro i
      by_cases hi : i < n
      · obtain ⟨b, hb, hf⟩ := Lib.mapM_at hm i i (by simp [hi])
        obtain ⟨s, hc, rfl, _⟩ := DataW.trod_string he hf
        have h1 : cs[i]? = some (.string s) := by
          have := congrArg (·[0]?) hc
          simpa [List.getElem?_take, List.getElem?_drop] using this
        have h2 : (xs.map (·.1))[i]? = some (DataW.lit (.string s.data.toList) : DataW H) := by simp [hb]
        rw [hxs] at h2
        simp only [List.getElem?_map, Option.map_eq_some_iff, DataW.lit.injEq, Lit.string.injEq] at h2
        obtain ⟨s', hs', he'⟩ := h2
        have : s' = s := by cases s'; cases s; simpa using he'
        subst this
        simp [h1, hs']
      · rw [List.getElem?_eq_none (by omega), List.getElem?_eq_none (by simp; omega)]
    · cases h

def wordCells : Array Value := (wordL.map Value.string).toArray
theorem var_of_laid {W : World} (h : laidMetH Tryd.prog Rows.fnExactCodeWordRow.laid W) : W.var? Tryd.prog "loop.example/g00220/impl.codeWords" = some wordCells := by
  rw [MakeChecks.laidMetH_plain _ _ _ (by kernel_rfl)] at h
  obtain ⟨ps, ⟨g, t, cs, fuel, p, q, hg, ht, hvar, hd, _, _⟩, _⟩ := h
  obtain rfl := Option.some.inj (gWords.symm.trans hg)
  obtain rfl := Option.some.inj (gWordsType.symm.trans ht)
  have e := cells_of_texts (cs := cs.toList) (ss := wordL) Tryd.underlying32 Tryd.underlying9 cells9 cells32 hd
  rw [hvar]
  unfold wordCells
  rw [← e]
theorem words_of_var {W : World} (h : W.var? Tryd.prog "loop.example/g00220/impl.codeWords" = some wordCells) : Words W := by
  intro k hk
  rw [World.var?_cell gWords h k]
  have hk' : k < wordL.length := hk
  simp [wordCells, List.getD, List.getElem?_eq_getElem hk']

def wordsH {H : Type} : DataW H := .agg (wordL.map fun s => .lit (.string s.data.toList))
theorem reads_words {H : Type} (enc : TypeId × Value → H) (W : World) (sp : Nat → Bool) : DataW.trod enc Tryd.prog W 0 sp true 3 32 wordCells.toList = some (wordsH, []) := by kernel_rfl
theorem vars_again {H : Type} {enc : TypeId × Value → H} {W W' : World} {sp : Nat → Bool} {gs : List (DataW H)} {q : List MemPlace} (hv : W.var? Tryd.prog "loop.example/g00220/impl.codeWords" = some wordCells)
    (hV : DataW.TrodVars enc Tryd.prog W (fun _ => true) ["loop.example/g00220/impl.codeWords"] gs q) (hb : Below W.heap.size W W') :
    gs = [wordsH] ∧ DataW.TrodVars enc Tryd.prog W' sp ["loop.example/g00220/impl.codeWords"] [wordsH] (MemPlace.row ⟨0, 0, none⟩ wordCells.size ++ [] ++ []) := by
  obtain ⟨g, t, cs, fuel, d, p', rfl, hg, ht, hvar, hd, rfl⟩ := trodVars_one hV
  obtain rfl := Option.some.inj (gWords.symm.trans hg)
  obtain rfl := Option.some.inj (gWordsType.symm.trans ht)
  obtain rfl : cs = wordCells := Option.some.inj (hvar.symm.trans hv)
  obtain ⟨rfl, rfl⟩ := DataW.Trod.unique (v := .agg wordCells) ⟨fuel, hd⟩ ⟨3, reads_words enc W _⟩
  have hlt : 0 < W.heap.size := World.block_lt_of_cell? W ⟨0, 0, none⟩ (words_of_var hv 0 (by omega))
  exact ⟨rfl, 0, 32, wordCells, 3, [], [], hg, ht, var?_below hb gWords hlt hv, reads_words enc W' sp, rfl, rfl⟩
theorem door_met (os : Os) (args : Array Value) : laidMetH Tryd.prog Rows.fnExactCodeWordRow.laid ((World.doorLaid Tryd.prog 24 os).forCall (fun _ _ => 0) ⟨#[], args, []⟩).memory :=
  laidMetH_of_parts3 (fuel := 8) (laidMet_of_run' 8 (by kernel_rfl) (by kernel_rfl)) (by kernel_rfl) (by kernel_rfl)
theorem words_below {w w' : World} (h : Words w) (hb : Below w.heap.size w w') : Words w' := by
  intro k hk
  have hlt : 0 < w.heap.size := World.block_lt_of_cell? w ⟨0, k, none⟩ (h k hk)
  rw [hb.cell (p := ⟨0, k, none⟩) hlt]
  exact h k hk
end Go.Proofs.YtbpadjocaigpgagDoor
