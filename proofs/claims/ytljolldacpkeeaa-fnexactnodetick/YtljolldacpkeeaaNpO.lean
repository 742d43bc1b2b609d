/- What a proposal tells, purely; a node and messages come out of a call. -/
import Derived.Test.YtljolldacpkeeaaNoDs
import Derived.Test.YtljolldacpkeeaaNpF
import Derived.Test.YtljolldacpkeeaaNodK
namespace Go.Proofs.Ytljolldacpkeeaa
open Go.ChangeShapes Go.WideShapes Go.ChangeAt Go.RowKit Go.Deep
set_option linter.unusedVariables false

/-- A node, messages and a code come out: all of it the call's own, the node's lists and the messages' apart. -/
def PAns (B : Nat) (d : NoD) (ms : List MV) (code : Int) (w : World) (e : Ending) (w' : World) : Prop :=
  ∃ la lc sa sc va vc na nc ma mc mv l, e = .returned (.tuple #[.agg #[.int .i64 d.id, .int .i64 d.tm, .int .i64 d.vo, .slice la d.lg.length lc, .slice sa d.st.length sc, .int .i64 d.ro, .slice va d.vs.length vc, .slice na d.nx.length nc, .slice ma d.mt.length mc, .int .i64 d.cm, .int .i64 d.el, .int .i64 d.wt, .bool d.up], mv, .int .i64 code]) ∧ NoO B w' (.slice la d.lg.length lc) (.slice sa d.st.length sc) (.slice va d.vs.length vc) (.slice na d.nx.length nc) (.slice ma d.mt.length mc) d.lg d.st d.vs d.nx d.mt ∧ Ns mgS B w' mv l.length l ∧ l.map bareM = ms ∧ (∀ q, NoT [.slice la d.lg.length lc, .slice sa d.st.length sc, .slice va d.vs.length vc, .slice na d.nx.length nc, .slice ma d.mt.length mc] q → ¬ NsT mgS mv l q) ∧ Below w.heap.size w w'
/-- What a proposal leaves of a right node. -/
def prOut (n : NoD) (k : Int) (data : ByteArray) : NoD × List MV × Int :=
  if n.up then
    if n.ro = 2 then
      if n.lg.length < 60 then
        ({ n with lg := n.lg ++ [(⟨n.tm, k, data⟩ : En)], cm := advTo n.id n.tm n.cm (n.lg ++ [(⟨n.tm, k, data⟩ : En)]) n.mt (mbAt (n.lg ++ [(⟨n.tm, k, data⟩ : En)]) n.st (n.lg ++ [(⟨n.tm, k, data⟩ : En)]).length) (n.lg ++ [(⟨n.tm, k, data⟩ : En)]).length },
          tellL n.id n.tm (advTo n.id n.tm n.cm (n.lg ++ [(⟨n.tm, k, data⟩ : En)]) n.mt (mbAt (n.lg ++ [(⟨n.tm, k, data⟩ : En)]) n.st (n.lg ++ [(⟨n.tm, k, data⟩ : En)]).length) (n.lg ++ [(⟨n.tm, k, data⟩ : En)]).length) (n.lg ++ [(⟨n.tm, k, data⟩ : En)]) n.nx (mbAt (n.lg ++ [(⟨n.tm, k, data⟩ : En)]) n.st (n.lg ++ [(⟨n.tm, k, data⟩ : En)]).length), 0)
      else (n, [], 7)
    else (n, [], 14)
  else (n, [], 5)
/-- What NodePropose tells. -/
def npOut (ok : Bool) (n : NoD) (data : ByteArray) : NoD × List MV × Int :=
  if 65536 < data.size then (zeroNo, [], 2) else if ok && inB data.size 1 100 then prOut n 1 data else (zeroNo, [], 1)
theorem nsT_ge {S : Sh MV} {D n : Nat} {w : World} {v : Value} {l : List MV} (h : Ns S D w v n l) (q : Nat) (hq : NsT S v l q) : D ≤ q ∧ q < w.heap.size := by
  rcases hq with hq | ⟨p, hp, hq⟩
  · exact World.ownsRow.lt h.row q hq
  · exact (h.sub p hp).lt q hq
theorem nsT_nil (q : Nat) : ¬ NsT mgS (.slice none 0 0) [] q := by
  rintro (h | ⟨p, hp, _⟩)
  · cases h
  · simp at hp
theorem told_next {nx mt : List Int} {e : Int} (h : toldB nx mt e = true) (i : Nat) (hi : i < 7) : 1 ≤ nx.getD i 0 ∧ nx.getD i 0 ≤ e + 1 := by
  unfold toldB at h
  simp only [Bool.and_eq_true, List.all_eq_true, List.mem_range] at h
  have h1 := h.2 i hi
  unfold toldI at h1
  simp only [Bool.and_eq_true] at h1
  exact inB_iff.1 h1.1
theorem node_next {id tm vo ro cm el wt : Int} {up : Bool} {lg : List En} {st vs nx mt : List Int} (h : nodeB id tm vo ro cm el wt up lg st vs nx mt = true) : (∀ i, i < 7 → 1 ≤ nx.getD i 0 ∧ nx.getD i 0 ≤ (lg.length : Int) + 1) ∧ 0 ≤ cm ∧ cm ≤ lg.length := by
  unfold nodeB at h
  simp only [Bool.and_eq_true, decide_eq_true_eq] at h
  obtain ⟨h1, h2, h3, h4, h5, h6, h7, _⟩ := h
  exact ⟨told_next h6, inB_iff.1 h7⟩
end Go.Proofs.Ytljolldacpkeeaa
