/- What the proof of the claim needs (joined by program): LeK LeV. -/
import Derived.Test.YtnhhnjmjodmacaaGreatDoorQaa25
import Derived.Test.YtnhhnjmjodmacaaGreatDoorQaa15
import Derived.Test.YtnhhnjmjodmacaaGreatDoorQaa11
namespace Go.Proofs.YtnhhnjmjodmacaaGreatDoor.Sha
set_option maxRecDepth 100000
set_option maxHeartbeats 8000000
open Go.ChangeShapes Go.WideShapes Go.ChangeAt Go.RowKit
set_option linter.unusedVariables false
set_option linter.unusedSimpArgs false
theorem places_any (p : Nat) (a : Option Addr) (n c : Nat) (w : World) (h : w.cell? ⟨p, 0, none⟩ = some (.slice a n c)) (hn : n ≤ maxLen) :
  Calls Tryz.prog 125 #[.pointer (some ⟨p, 0, none⟩)] w fun e w' => e = .returned (.int .i64 n) ∧ w' = w := by
 unfold maxLen at hn
 go_enter Tryz.func125, Tryz.ntmps125
 go_wp2_with fail
 go_ret
 exact ⟨rfl, rfl⟩
theorem keys_any (p : Nat) (tp : Option Addr) (S : Nat → Prop) (o : Option Tr) (w : World) (hc : w.cell? ⟨p, 1, none⟩ = some (.pointer tp)) (hp : PtrM w S tp o) (hok : OkO o) (h40 : lvO o ≤ 1000) :
  Calls Tryz.prog 132 #[.pointer (some ⟨p, 1, none⟩)] w fun e w' => e = .returned (.int .i64 (lvO o)) ∧ Below w.heap.size w w' := by
 have HT := Hd (sizeO_any hp hok h40)
 clear hp hok
 generalize lvO o = tv at *
 go_enter Tryz.func132, Tryz.ntmps132
 go_wp2_with fail
 refine (uh HT).mono ?_
 rintro e w1 ⟨rfl, hb1⟩
 have K := Hd hb1
 clear hb1
 go_wp2_with fail
 go_ret
 exact ⟨rfl, uh K⟩
end Go.Proofs.YtnhhnjmjodmacaaGreatDoor.Sha
namespace Go.Proofs.YtnhhnjmjodmacaaGreatDoor.Sha
set_option maxRecDepth 100000
set_option maxHeartbeats 8000000
open Go.ChangeShapes Go.WideShapes Go.ChangeAt Go.RowKit
set_option linter.unusedVariables false
def valV (o : Option Tr) (key : ByteArray) : Value := match getV o key with
 | none => .tuple #[.string ⟨#[]⟩, .bool false]
 | some x => .tuple #[.string x, .bool true]
theorem value_any (p : Nat) (key : ByteArray) (hk : key.size ≤ 24) (w : World) (S : Nat → Prop) (pv : Option Addr) (o : Option Tr) (hc : w.cell? ⟨p, 1, none⟩ = some (.pointer pv)) (hp : PtrM w S pv o) (hr : RiseO o) (ht : Tab w) :
  Calls Tryz.prog 119 #[.pointer (some ⟨p, 1, none⟩), .string key] w fun e w' => e = .returned (valV o key) ∧ Below w.heap.size w w' := by
 have HFD := Hd (find_any key hk w S pv o hp hr ht)
 clear hp hr ht hk
 go_enter Tryz.func119, Tryz.ntmps119
 go_wp2_with fail
 refine (uh HFD).mono ?_
 rintro e w3 ⟨qv, rfl, hb3, hq⟩
 have B3 := Hd hb3
 clear hb3 HFD
 rcases hq with ⟨hq1, hq2⟩ | ⟨t, q, hq1, hq2, hq3, hq4⟩
 ·have HG : Hid (valV o key = .tuple #[.string ⟨#[]⟩, .bool false]) := Hd (by
   have : getV o key = none := by
    cases o with
    | none => rfl
    | some t => unfold getV; dsimp only; rw [if_neg (hq2 t rfl)]
   unfold valV; rw [this])
  subst hq1
  clear hq2
  go_wp2_with fail
  go_ret2
  exact ⟨by rw [uh HG]; rfl, uh B3⟩
 ·have HG : Hid (valV o key = .tuple #[.string (leadL (kh key) t).2, .bool true]) := Hd (by
   have : getV o key = some (leadL (kh key) t).2 := by
    subst hq1; unfold getV; dsimp only; rw [if_pos hq2]
   unfold valV; rw [this])
  subst hq3
  have c1 := hq4.cell 1 rfl
  clear hq1 hq2 hq4
  generalize (leadL (kh key) t).2 = x at *
  go_wp2_with fail
  go_ret2
  exact ⟨by rw [uh HG]; rfl, uh B3⟩
end Go.Proofs.YtnhhnjmjodmacaaGreatDoor.Sha
