/- A list of structs with lists within: an element more. -/
import Derived.Test.YtljolldacpkeeaaNest
namespace Go.Proofs.Ytljolldacpkeeaa
open Go.ChangeShapes Go.WideShapes Go.ChangeAt Go.RowKit Go.Deep
set_option linter.unusedVariables false

theorem Ns.pushed {X : Type} {S : Sh X} {D n g cap gb : Nat} {wr w3 w4 w5 : World} {v u : Value} {l : List X} {x : X} (h : Ns S D wr v n l) (hb : Below wr.heap.size wr w3) (hx : ∀ p ∈ S.subs x, OwnSub wr.heap.size w3 p.1 p.2) (hap : ((S.subs x).map Prod.fst).Pairwise Apart) (hb4 : Below w3.heap.size w3 w4) (hown : w5.ownsRow D S.t S.sz (.slice (some ⟨g, 0, none⟩) (n + 1) cap) (n + 1) (l.flatMap S.cells ++ S.cells x)) (hg : w4.grownBy w5 v.ownBlock) (hat : v.ownBlock = some g ∨ g = w4.heap.size) (hgb : gb < D) (hD : D ≤ wr.heap.size) : Ns S D (w5.setCell ⟨gb, 0, none⟩ u) (.slice (some ⟨g, 0, none⟩) (n + 1) cap) (n + 1) (l ++ [x]) := by
  have T45 : Touch (fun k => v.ownBlock = some k) w4 w5 := (Touch.refl _ w4).grown hg (fun k e _ => e)
  have T56 : Touch (fun k => k = gb) w5 (w5.setCell ⟨gb, 0, none⟩ u) := (Touch.refl _ w5).setCell _ _ (fun _ => rfl)
  have hap0 := List.pairwise_cons.1 h.ap
  have hv : ∀ k, v.ownBlock = some k → D ≤ k ∧ k < wr.heap.size := World.ownsRow.lt h.row
  have s3 := hb.size
  have s4 := hb4.size
  have hrow : ∀ k, (Value.slice (some ⟨g, 0, none⟩) (n + 1) cap).ownBlock = some k → k = g := fun k e => by simp [Value.ownBlock] at e; omega
  refine Ns.push h (own_kept hown T56 (fun k hk e => ?_)) (fun p hp => ?_) (fun p hp => ?_) hap (fun p hp e => ?_) (fun p hp e => ?_) (fun p hp q hq k h1 h2 => ?_)
  · have := World.ownsRow.lt hown k hk; omega
  · have hl := (h.sub p hp).lt
    refine (((h.sub p hp).kept (T := fun _ => False) (Touch.ofBelow hb) (fun _ _ e => e)).kept (T := fun _ => False) (Touch.ofBelow hb4) (fun _ _ e => e)).kept T45 (fun k hk e => hap0.1 p.1 (List.mem_map_of_mem hp) k e hk) |>.kept T56 (fun k hk e => ?_)
    have := hl k hk; omega
  · have hl := (hx p hp).lt
    refine ((((hx p hp).kept (T := fun _ => False) (Touch.ofBelow hb4) (fun _ _ e => e)).kept T45 (fun k hk e => ?_)).kept T56 (fun k hk e => ?_)).down hD
    · have := hl k hk; have := hv k e; omega
    · have := hl k hk; omega
  · rcases hat with ha | ha
    · exact hap0.1 p.1 (List.mem_map_of_mem hp) g ha e
    · have := (h.sub p hp).lt g e; omega
  · have h2 := (hx p hp).lt g e
    rcases hat with ha | ha
    · have := hv g ha; omega
    · omega
  · have := (h.sub p hp).lt k h1
    have := (hx q hq).lt k h2
    omega
end Go.Proofs.Ytljolldacpkeeaa
