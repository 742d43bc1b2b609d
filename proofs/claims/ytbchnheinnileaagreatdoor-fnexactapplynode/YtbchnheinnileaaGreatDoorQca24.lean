/- What the proof of the claim needs (joined by program): AqO NodI StP. -/
import Derived.Test.YtbchnheinnileaaGreatDoorQca18
import Derived.Test.YtbchnheinnileaaGreatDoorQca07
import Derived.Test.YtbchnheinnileaaGreatDoorQca10
import Derived.Test.YtbchnheinnileaaGreatDoorQca19
import Derived.Test.YtbchnheinnileaaGreatDoorQca11
import Derived.Test.YtbchnheinnileaaGreatDoorQca22
import Derived.Test.YtbchnheinnileaaGreatDoorQca21
import Derived.Test.YtbchnheinnileaaGreatDoorQca01
namespace Go.Proofs.YtbchnheinnileaaGreatDoor.Sha
set_option maxRecDepth 100000
set_option maxHeartbeats 8000000
open Go.ChangeShapes Go.WideShapes Go.ChangeAt Go.RowKit Go.Deep
set_option linter.unusedVariables false
set_option linter.unusedSimpArgs false
def OwnL (k v : ByteArray) (a : Int) (ls : List ByteArray) (ks : List Br) (ss : List Se) (w : World) (e : Ending) (w' : World) : Prop :=
 ∃ la lc ka kn kc sa sc, e = .returned (.agg #[.slice la ls.length lc, .string k, .string v, .int .i64 a, .slice ka kn kc, .slice sa ss.length sc]) ∧ LedO w.heap.size w' (.slice la ls.length lc) (.slice ka kn kc) (.slice sa ss.length sc) ls ks ss ∧ Below w.heap.size w w'
theorem l09Own_any (k v : ByteArray) (a : Int) (ls : List ByteArray) (ks : List Br) (ss : List Se) (la ka sa : Option Addr) (lc kc sc : Nat) (w : World) (hS : Strs w (.slice la ls.length lc) ls) (hK : Brs (fun _ => True) w (.slice ka ks.length kc) ks) (hSe : Sess w (.slice sa ss.length sc) ss) (h1 : ls.length ≤ 1048576) (h2 : cntL ks ≤ 1048576) (h3 : ss.length ≤ 1048576) :
  Calls Tryz.prog 16 #[.agg #[.slice la ls.length lc, .string k, .string v, .int .i64 a, .slice ka ks.length kc, .slice sa ss.length sc]] w fun e w' => OwnL k v a ls ks ss w e w' := by
 have HOW := Hd (fun wx (hx : Below w.heap.size w wx) => l07Own_any hK k v a wx h2 hx)
 obtain ⟨i0, hi, hz0, hz1, hz2⟩ := info_parts infoStr_
 obtain ⟨j0, hj, hy0, hy1, hy2⟩ := info_parts infoSe
 have HS := Hd hS
 have HSe := Hd hSe
 clear hS hK hSe h2
 have B0 := Hd ((bal w (.cells #[.slice la ls.length lc, .string k, .string v, .int .i64 a, .slice ka ks.length kc, .slice sa ss.length sc] 33)).alloc (by simp) (.cells #[.slice none 0 0, .string ⟨#[]⟩, .string ⟨#[]⟩, .int .i64 0, .slice none 0 0, .slice none 0 0] 33))
 have X0 := Hd ((Blk.new w #[.slice la ls.length lc, .string k, .string v, .int .i64 a, .slice ka ks.length kc, .slice sa ss.length sc] 33 w.heap.size rfl).alloc (.cells #[.slice none 0 0, .string ⟨#[]⟩, .string ⟨#[]⟩, .int .i64 0, .slice none 0 0, .slice none 0 0] 33))
 have R0 := Hd (Blk.new (w.alloc (.cells #[.slice la ls.length lc, .string k, .string v, .int .i64 a, .slice ka ks.length kc, .slice sa ss.length sc] 33)) #[.slice none 0 0, .string ⟨#[]⟩, .string ⟨#[]⟩, .int .i64 0, .slice none 0 0, .slice none 0 0] 33 (w.heap.size + 1) (by simp))
 go_enter Tryz.func16, Tryz.ntmps16
 go_upto_region 1 with fail
 generalize (w.alloc (.cells #[.slice la ls.length lc, .string k, .string v, .int .i64 a, .slice ka ks.length kc, .slice sa ss.length sc] 33)).alloc (.cells #[.slice none 0 0, .string ⟨#[]⟩, .string ⟨#[]⟩, .int .i64 0, .slice none 0 0, .slice none 0 0] 33) = w0 at *
 have hw0 : w.heap.size + 1 < w0.heap.size := (uh R0).1
 have hlb : w.heap.size < w0.heap.size := by omega
 obtain ⟨⟨x0, x1, x2, x3, x4, x5⟩, _⟩ := Blk.c6 (uh X0)
 have HKS : Hid (∀ wx, Below w0.heap.size w0 wx → (fun wx => wx.cell? ⟨w.heap.size, 0, none⟩ = some (.slice la ls.length lc) ∧ wx.cell? ⟨w.heap.size, 1, none⟩ = some (.string k) ∧ wx.cell? ⟨w.heap.size, 2, none⟩ = some (.string v) ∧ wx.cell? ⟨w.heap.size, 3, none⟩ = some (.int .i64 a) ∧ wx.cell? ⟨w.heap.size, 4, none⟩ = some (.slice ka ks.length kc) ∧ wx.cell? ⟨w.heap.size, 5, none⟩ = some (.slice sa ss.length sc)) wx) := Hd (fun wx hx => ⟨(hx.cell (p := ⟨w.heap.size, 0, none⟩) hlb).trans x0, (hx.cell (p := ⟨w.heap.size, 1, none⟩) hlb).trans x1, (hx.cell (p := ⟨w.heap.size, 2, none⟩) hlb).trans x2, (hx.cell (p := ⟨w.heap.size, 3, none⟩) hlb).trans x3, (hx.cell (p := ⟨w.heap.size, 4, none⟩) hlb).trans x4, (hx.cell (p := ⟨w.heap.size, 5, none⟩) hlb).trans x5⟩)
 refine wp_region_noPanic ?_
 refine wp_region_held_drew (S := (fun wx => wx.cell? ⟨w.heap.size, 0, none⟩ = some (.slice la ls.length lc) ∧ wx.cell? ⟨w.heap.size, 1, none⟩ = some (.string k) ∧ wx.cell? ⟨w.heap.size, 2, none⟩ = some (.string v) ∧ wx.cell? ⟨w.heap.size, 3, none⟩ = some (.int .i64 a) ∧ wx.cell? ⟨w.heap.size, 4, none⟩ = some (.slice ka ks.length kc) ∧ wx.cell? ⟨w.heap.size, 5, none⟩ = some (.slice sa ss.length sc))) (by kernel_rfl) ?_ (fun hHeld => ?_)
 ·exact ⟨x0, x1, x2, x3, x4, x5⟩
 refine tkH 1 rfl ?_
 refine tkH 2 rfl ?_
 refine tkH 4 rfl ?_
 refine tkH 5 rfl ?_
 refine tkH 8 rfl ?_
 refine tkH 9 rfl ?_
 have HBx := Hd (below_drewN (Below.refl w0.heap.size w0) 1)
 change Hid (Below w0.heap.size w0 w0.drew) at HBx
 generalize w0.drew = y0 at *
 refine rdy2 0 7 rfl rfl (fun K hK => ?_) (fun K hK => ?_)
 ·go_simp
  have hbs := bal y0 (.cells #[] 9)
  have OL := Hd (show (y0.alloc (.cells #[] 9)).ownsRow w0.heap.size 9 1 (.slice (some ⟨y0.heap.size, 0, none⟩) 0 0) 0 [] from World.ownsRow_made y0 #[] 0 (uh HBx).size (by unfold maxLen; omega) rfl)
  replace HBx := hbt HBx hbs
  refine outH hK ?_ (fun hHeld => ?_)
  ·exact uh HKS _ (uh HBx)
  clear hK K
  clear hbs
  generalize y0.alloc (.cells #[] 9) = y1 at *
  generalize y0.heap.size = bl at *
  refine rdy2 3 7 rfl rfl (fun K hK => ?_) (fun K hK => ?_)
  ·refine step_append_row rfl _ _ _ rfl w0.heap.size 9 i0 _ 1 16 Tryz.underlying27 hi hz0 hz1 hz2 rfl (by omega) _ 0 [] rfl (uh OL) _ ls.length (ls.map Value.string) rfl ((uh HS).below ((uh B0).trans ((uh HBx).mono (uh B0).size))).rw (by simp) (by simp [Value.oneCell']) (by unfold maxLen; omega) (by omega) (uh HBx).size ?_
   intro la2 lc2 y2 hown hgrow hat
   have hgt := grownR hgrow
   replace HBx := Hd ((uh HBx).grown hgrow (uh HBx).size (fun r hr => (World.ownsRow.lt (uh OL) r hr).1))
   replace OL := Hd hown
   clear hown hgrow hat hgt
   refine outH hK ?_ (fun hHeld => ?_)
   ·exact uh HKS _ (uh HBx)
   clear hK K
   simp only [Nat.zero_add, List.nil_append] at OL ⊢
   refine rdy2 6 7 rfl rfl (fun K hK => ?_) (fun K hK => ?_)
   ·go_simp
    refine (uh HOW y2 ((uh B0).trans ((uh HBx).mono (uh B0).size))).mono ?_
    rintro e y3 ⟨ka2, kn2, kc2, rfl, hO, hbs⟩
    dsimp only [Br.key, Br.val, Br.at_, Br.kids] at hO ⊢
    obtain ⟨Sk, hSk⟩ : ∃ Sk : Nat → Prop, Sk = fun x => y2.heap.size ≤ x ∧ x < y3.heap.size := ⟨_, rfl⟩
    rw [← hSk] at hO
    have SKB := Hd (show ∀ x, Sk x → w0.heap.size ≤ x ∧ x < y3.heap.size from fun x hx => by rw [hSk] at hx; exact ⟨Nat.le_trans (uh HBx).size hx.1, hx.2⟩)
    have DKL := Hd (show ∀ q, Sk q → (.slice la2 ls.length lc2 : Value).ownBlock ≠ some q from fun q hq e => by rw [hSk] at hq; have h := (World.ownsRow.lt (uh OL) q e).2; have h2 := hq.1; omega)
    replace OL := Hd (own_kept (T := fun _ => False) (uh OL) (Touch.ofBelow hbs) (fun _ _ e => e))
    have OK := Hd hO
    replace HBx := hbt HBx hbs
    clear hO hSk hbs
    go_wp2_with fail
    refine outH hK ?_ (fun hHeld => ?_)
    ·exact uh HKS _ (uh HBx)
    clear hK K
    refine rdy1 7 rfl (fun K hK => ?_)
    go_simp
    have hbs := bal y3 (.cells #[] 103)
    have DLS := Hd (show ∀ q, (.slice la2 ls.length lc2 : Value).ownBlock = some q → (Value.slice (some ⟨y3.heap.size, 0, none⟩) 0 0).ownBlock ≠ some q from fun q hq e => by have h := (World.ownsRow.lt (uh OL) q hq).2; have e2 : y3.heap.size = q := Option.some.inj e; omega)
    have DKS := Hd (show ∀ q, Sk q → (Value.slice (some ⟨y3.heap.size, 0, none⟩) 0 0).ownBlock ≠ some q from fun q hq e => by have h := ((uh SKB) q hq).2; have e2 : y3.heap.size = q := Option.some.inj e; omega)
    replace OL := Hd (own_kept (T := fun _ => False) (uh OL) (Touch.ofBelow hbs) (fun _ _ e => e))
    replace OK := Hd ((uh OK).blw hbs)
    replace SKB := Hd (fun x hx => (⟨((uh SKB) x hx).1, Nat.lt_of_lt_of_le ((uh SKB) x hx).2 (hbs).size⟩ : w0.heap.size ≤ x ∧ x < _))
    have OS := Hd (show (y3.alloc (.cells #[] 103)).ownsRow w0.heap.size 103 5 (.slice (some ⟨y3.heap.size, 0, none⟩) 0 0) 0 [] from World.ownsRow_made y3 #[] 0 (uh HBx).size (by unfold maxLen; omega) rfl)
    replace HBx := hbt HBx hbs
    refine outH hK ?_ (fun hHeld => ?_)
    ·exact uh HKS _ (uh HBx)
    clear hK K
    clear hbs
    generalize y3.alloc (.cells #[] 103) = y4 at *
    generalize y3.heap.size = bs at *
    have hbsl := ((World.ownsRow.lt (uh OS) bs rfl)).2
    refine rdy1 10 rfl (fun K hK => ?_)
    refine step_append_row rfl _ _ _ rfl w0.heap.size 103 j0 _ 5 48 Tryz.underlying31 hj hy0 hy1 hy2 rfl (by omega) _ 0 [] rfl (uh OS) _ ss.length (sesC ss) rfl ((uh HSe).below ((uh B0).trans ((uh HBx).mono (uh B0).size))).rw (sesC_len ss) (sesC_one ss) (by unfold maxLen; omega) (by omega) (uh HBx).size ?_
    intro sa2 sc2 yz hown hgrow hat
    have hgt := grownR hgrow
    have hltL := fun q hq => (World.ownsRow.lt (uh OL) q hq).2
    have DL2 := Hd (show ∀ q, (.slice la2 ls.length lc2 : Value).ownBlock = some q → (Value.slice sa2 (0 + ss.length) sc2).ownBlock ≠ some q from fun q hq e => by
     rcases hat with h | h
     ·exact (uh DLS) q hq (h.symm.trans e)
     ·have h9 : y4.heap.size = q := Option.some.inj (h.symm.trans e)
      have h8 := hltL q hq
      omega)
    have DK2 := Hd (show ∀ q, Sk q → (Value.slice sa2 (0 + ss.length) sc2).ownBlock ≠ some q from fun q hq e => by
     rcases hat with h | h
     ·exact (uh DKS) q hq (h.symm.trans e)
     ·have h9 : y4.heap.size = q := Option.some.inj (h.symm.trans e)
      have h8 := ((uh SKB) q hq).2
      omega)
    replace OL := Hd (own_kept (uh OL) hgt (fun q hq e => (uh DLS) q hq e))
    replace OK := Hd ((uh OK).touch hgt (fun q hq e => (uh DKS) q hq e))
    replace SKB := Hd (fun x hx => (⟨((uh SKB) x hx).1, Nat.lt_of_lt_of_le ((uh SKB) x hx).2 hgt.size⟩ : w0.heap.size ≤ x ∧ x < _))
    replace HBx := Hd ((uh HBx).grown hgrow (uh HBx).size (fun r hr => (World.ownsRow.lt (uh OS) r hr).1))
    have OS2 := Hd hown
    clear OS hown hgrow hat hgt hltL DLS DKS hbsl
    refine outH hK ?_ (fun hHeld => ?_)
    ·exact uh HKS _ (uh HBx)
    clear hK K
    simp only [Nat.zero_add, List.nil_append] at OS2 DL2 DK2 ⊢
    refine tkH 11 rfl ?_
    have RX := (uh R0).below (uh HBx)
    obtain ⟨⟨r0, r1, r2, r3, r4, r5⟩, _⟩ := Blk.c6 RX
    have rf0 := RX.fro 0
    have rf1 := RX.fro 1
    have rf2 := RX.fro 2
    have rf3 := RX.fro 3
    have rf4 := RX.fro 4
    have rf5 := RX.fro 5
    have T9 := (((((((Touch.refl (fun x => x = w.heap.size + 1) yz).setCell ⟨w.heap.size + 1, 0, none⟩ (.slice la2 ls.length lc2) (fun _ => rfl)).setCell ⟨w.heap.size + 1, 1, none⟩ (.string k) (fun _ => rfl)).setCell ⟨w.heap.size + 1, 2, none⟩ (.string v) (fun _ => rfl)).setCell ⟨w.heap.size + 1, 3, none⟩ (.int .i64 a) (fun _ => rfl)).setCell ⟨w.heap.size + 1, 4, none⟩ (.slice ka2 kn2 kc2) (fun _ => rfl)).setCell ⟨w.heap.size + 1, 5, none⟩ (.slice sa2 ss.length sc2) (fun _ => rfl))
    have R9 := Hd ((((((RX.set 0 (.slice la2 ls.length lc2) (by simp)).set 1 (.string k) (by simp)).set 2 (.string v) (by simp)).set 3 (.int .i64 a) (by simp)).set 4 (.slice ka2 kn2 kc2) (by simp)).set 5 (.slice sa2 ss.length sc2) (by simp))
    have hsx := (uh HBx).size
    have hkc := fun (i : Nat) (u : Value) (h : w0.cell? ⟨w.heap.size, i, none⟩ = some u) => (T9.cell (p := ⟨w.heap.size, i, none⟩) (show w.heap.size < yz.heap.size by omega) (show ¬ w.heap.size = w.heap.size + 1 by omega)).trans (((uh HBx).cell (p := ⟨w.heap.size, i, none⟩) hlb).trans h)
    refine rdy1 12 rfl (fun K hK => ?_)
    go_simp
    refine outH hK ?_ (fun hHeld => ?_)
    ·exact ⟨hkc _ _ x0, hkc _ _ x1, hkc _ _ x2, hkc _ _ x3, hkc _ _ x4, hkc _ _ x5⟩
    clear hK K
    refine wpAnyH_done (by kernel_rfl) (NoPanic.normal ?_) _
    clear hHeld hkc
    have K9a := (uh B0).trans ((uh HBx).mono (uh B0).size)
    have K9 := Hd (K9a.trans (T9.below K9a.size (fun x hx e => by omega)))
    have L9 := Hd (show LedO w.heap.size _ (.slice la2 ls.length lc2) (.slice ka2 kn2 kc2) (.slice sa2 ss.length sc2) ls ks ss from ⟨OwnS.down' (own_kept (uh OL) T9 (fun q hq e => by have := (World.ownsRow.lt (uh OL) q hq).1; omega)) (by omega), OwnSe.down (own_kept (uh OS2) T9 (fun q hq e => by have := (World.ownsRow.lt (uh OS2) q hq).1; omega)) (by omega), uh DL2, Sk, (uh OK).touch T9 (fun q hq e => by have := ((uh SKB) q hq).1; omega), fun x hx => ⟨by have := ((uh SKB) x hx).1; omega, Nat.lt_of_lt_of_le ((uh SKB) x hx).2 T9.size, (uh DKL) x hx, (uh DK2) x hx⟩⟩)
    clear T9 K9a RX
    generalize ((((((yz.setCell ⟨w.heap.size + 1, 0, none⟩ (.slice la2 ls.length lc2)).setCell ⟨w.heap.size + 1, 1, none⟩ (.string k)).setCell ⟨w.heap.size + 1, 2, none⟩ (.string v)).setCell ⟨w.heap.size + 1, 3, none⟩ (.int .i64 a)).setCell ⟨w.heap.size + 1, 4, none⟩ (.slice ka2 kn2 kc2)).setCell ⟨w.heap.size + 1, 5, none⟩ (.slice sa2 ss.length sc2)) = w9 at *
    go_wp2_with fail
    have R9' := uh R9
    obtain ⟨⟨z0, z1, z2, z3, z4, z5⟩, _⟩ := Blk.c6 R9'
    refine bodyPost_ret (v := .agg #[.slice la2 ls.length lc2, .string k, .string v, .int .i64 a, .slice ka2 kn2 kc2, .slice sa2 ss.length sc2]) (by simp [results, Tryz.results16, go_sem, z0, z1, z2, z3, z4, z5]) rfl ?_
    exact ⟨_, _, _, _, _, _, _, rfl, uh L9, uh K9⟩
   ·go_simp
    have hbs := bal y2 (.cells #[] 103)
    have DLS := Hd (show ∀ q, (.slice la2 ls.length lc2 : Value).ownBlock = some q → (Value.slice (some ⟨y2.heap.size, 0, none⟩) 0 0).ownBlock ≠ some q from fun q hq e => by have h := (World.ownsRow.lt (uh OL) q hq).2; have e2 : y2.heap.size = q := Option.some.inj e; omega)
    replace OL := Hd (own_kept (T := fun _ => False) (uh OL) (Touch.ofBelow hbs) (fun _ _ e => e))
    have OS := Hd (show (y2.alloc (.cells #[] 103)).ownsRow w0.heap.size 103 5 (.slice (some ⟨y2.heap.size, 0, none⟩) 0 0) 0 [] from World.ownsRow_made y2 #[] 0 (uh HBx).size (by unfold maxLen; omega) rfl)
    replace HBx := hbt HBx hbs
    refine outH hK ?_ (fun hHeld => ?_)
    ·exact uh HKS _ (uh HBx)
    clear hK K
    clear hbs
    generalize y2.alloc (.cells #[] 103) = y5 at *
    generalize y2.heap.size = bs at *
    refine rdy1 6 rfl (fun K hK => ?_)
    go_simp
    refine (uh HOW y5 ((uh B0).trans ((uh HBx).mono (uh B0).size))).mono ?_
    rintro e y6 ⟨ka2, kn2, kc2, rfl, hO, hbs⟩
    dsimp only [Br.key, Br.val, Br.at_, Br.kids] at hO ⊢
    obtain ⟨Sk, hSk⟩ : ∃ Sk : Nat → Prop, Sk = fun x => y5.heap.size ≤ x ∧ x < y6.heap.size := ⟨_, rfl⟩
    rw [← hSk] at hO
    have SKB := Hd (show ∀ x, Sk x → w0.heap.size ≤ x ∧ x < y6.heap.size from fun x hx => by rw [hSk] at hx; exact ⟨Nat.le_trans (uh HBx).size hx.1, hx.2⟩)
    have DKL := Hd (show ∀ q, Sk q → (.slice la2 ls.length lc2 : Value).ownBlock ≠ some q from fun q hq e => by rw [hSk] at hq; have h := (World.ownsRow.lt (uh OL) q e).2; have h2 := hq.1; omega)
    have DKS := Hd (show ∀ q, Sk q → (.slice (some ⟨bs, 0, none⟩) 0 0 : Value).ownBlock ≠ some q from fun q hq e => by rw [hSk] at hq; have h := (World.ownsRow.lt (uh OS) q e).2; have h2 := hq.1; omega)
    replace OL := Hd (own_kept (T := fun _ => False) (uh OL) (Touch.ofBelow hbs) (fun _ _ e => e))
    replace OS := Hd (own_kept (T := fun _ => False) (uh OS) (Touch.ofBelow hbs) (fun _ _ e => e))
    have OK := Hd hO
    replace HBx := hbt HBx hbs
    clear hO hSk hbs
    go_wp2_with fail
    refine outH hK ?_ (fun hHeld => ?_)
    ·exact uh HKS _ (uh HBx)
    clear hK K
    have hbsl := ((World.ownsRow.lt (uh OS) bs rfl)).2
    refine rdy1 10 rfl (fun K hK => ?_)
    refine step_append_row rfl _ _ _ rfl w0.heap.size 103 j0 _ 5 48 Tryz.underlying31 hj hy0 hy1 hy2 rfl (by omega) _ 0 [] rfl (uh OS) _ ss.length (sesC ss) rfl ((uh HSe).below ((uh B0).trans ((uh HBx).mono (uh B0).size))).rw (sesC_len ss) (sesC_one ss) (by unfold maxLen; omega) (by omega) (uh HBx).size ?_
    intro sa2 sc2 yz hown hgrow hat
    have hgt := grownR hgrow
    have hltL := fun q hq => (World.ownsRow.lt (uh OL) q hq).2
    have DL2 := Hd (show ∀ q, (.slice la2 ls.length lc2 : Value).ownBlock = some q → (Value.slice sa2 (0 + ss.length) sc2).ownBlock ≠ some q from fun q hq e => by
     rcases hat with h | h
     ·exact (uh DLS) q hq (h.symm.trans e)
     ·have h9 : y6.heap.size = q := Option.some.inj (h.symm.trans e)
      have h8 := hltL q hq
      omega)
    have DK2 := Hd (show ∀ q, Sk q → (Value.slice sa2 (0 + ss.length) sc2).ownBlock ≠ some q from fun q hq e => by
     rcases hat with h | h
     ·exact (uh DKS) q hq (h.symm.trans e)
     ·have h9 : y6.heap.size = q := Option.some.inj (h.symm.trans e)
      have h8 := ((uh SKB) q hq).2
      omega)
    replace OL := Hd (own_kept (uh OL) hgt (fun q hq e => (uh DLS) q hq e))
    replace OK := Hd ((uh OK).touch hgt (fun q hq e => (uh DKS) q hq e))
    replace SKB := Hd (fun x hx => (⟨((uh SKB) x hx).1, Nat.lt_of_lt_of_le ((uh SKB) x hx).2 hgt.size⟩ : w0.heap.size ≤ x ∧ x < _))
    replace HBx := Hd ((uh HBx).grown hgrow (uh HBx).size (fun r hr => (World.ownsRow.lt (uh OS) r hr).1))
    have OS2 := Hd hown
    clear OS hown hgrow hat hgt hltL DLS DKS hbsl
    refine outH hK ?_ (fun hHeld => ?_)
    ·exact uh HKS _ (uh HBx)
    clear hK K
    simp only [Nat.zero_add, List.nil_append] at OS2 DL2 DK2 ⊢
    refine tkH 11 rfl ?_
    have RX := (uh R0).below (uh HBx)
    obtain ⟨⟨r0, r1, r2, r3, r4, r5⟩, _⟩ := Blk.c6 RX
    have rf0 := RX.fro 0
    have rf1 := RX.fro 1
    have rf2 := RX.fro 2
    have rf3 := RX.fro 3
    have rf4 := RX.fro 4
    have rf5 := RX.fro 5
    have T9 := (((((((Touch.refl (fun x => x = w.heap.size + 1) yz).setCell ⟨w.heap.size + 1, 0, none⟩ (.slice la2 ls.length lc2) (fun _ => rfl)).setCell ⟨w.heap.size + 1, 1, none⟩ (.string k) (fun _ => rfl)).setCell ⟨w.heap.size + 1, 2, none⟩ (.string v) (fun _ => rfl)).setCell ⟨w.heap.size + 1, 3, none⟩ (.int .i64 a) (fun _ => rfl)).setCell ⟨w.heap.size + 1, 4, none⟩ (.slice ka2 kn2 kc2) (fun _ => rfl)).setCell ⟨w.heap.size + 1, 5, none⟩ (.slice sa2 ss.length sc2) (fun _ => rfl))
    have R9 := Hd ((((((RX.set 0 (.slice la2 ls.length lc2) (by simp)).set 1 (.string k) (by simp)).set 2 (.string v) (by simp)).set 3 (.int .i64 a) (by simp)).set 4 (.slice ka2 kn2 kc2) (by simp)).set 5 (.slice sa2 ss.length sc2) (by simp))
    have hsx := (uh HBx).size
    have hkc := fun (i : Nat) (u : Value) (h : w0.cell? ⟨w.heap.size, i, none⟩ = some u) => (T9.cell (p := ⟨w.heap.size, i, none⟩) (show w.heap.size < yz.heap.size by omega) (show ¬ w.heap.size = w.heap.size + 1 by omega)).trans (((uh HBx).cell (p := ⟨w.heap.size, i, none⟩) hlb).trans h)
    refine rdy1 12 rfl (fun K hK => ?_)
    go_simp
    refine outH hK ?_ (fun hHeld => ?_)
    ·exact ⟨hkc _ _ x0, hkc _ _ x1, hkc _ _ x2, hkc _ _ x3, hkc _ _ x4, hkc _ _ x5⟩
    clear hK K
    refine wpAnyH_done (by kernel_rfl) (NoPanic.normal ?_) _
    clear hHeld hkc
    have K9a := (uh B0).trans ((uh HBx).mono (uh B0).size)
    have K9 := Hd (K9a.trans (T9.below K9a.size (fun x hx e => by omega)))
    have L9 := Hd (show LedO w.heap.size _ (.slice la2 ls.length lc2) (.slice ka2 kn2 kc2) (.slice sa2 ss.length sc2) ls ks ss from ⟨OwnS.down' (own_kept (uh OL) T9 (fun q hq e => by have := (World.ownsRow.lt (uh OL) q hq).1; omega)) (by omega), OwnSe.down (own_kept (uh OS2) T9 (fun q hq e => by have := (World.ownsRow.lt (uh OS2) q hq).1; omega)) (by omega), uh DL2, Sk, (uh OK).touch T9 (fun q hq e => by have := ((uh SKB) q hq).1; omega), fun x hx => ⟨by have := ((uh SKB) x hx).1; omega, Nat.lt_of_lt_of_le ((uh SKB) x hx).2 T9.size, (uh DKL) x hx, (uh DK2) x hx⟩⟩)
    clear T9 K9a RX
    generalize ((((((yz.setCell ⟨w.heap.size + 1, 0, none⟩ (.slice la2 ls.length lc2)).setCell ⟨w.heap.size + 1, 1, none⟩ (.string k)).setCell ⟨w.heap.size + 1, 2, none⟩ (.string v)).setCell ⟨w.heap.size + 1, 3, none⟩ (.int .i64 a)).setCell ⟨w.heap.size + 1, 4, none⟩ (.slice ka2 kn2 kc2)).setCell ⟨w.heap.size + 1, 5, none⟩ (.slice sa2 ss.length sc2)) = w9 at *
    go_wp2_with fail
    have R9' := uh R9
    obtain ⟨⟨z0, z1, z2, z3, z4, z5⟩, _⟩ := Blk.c6 R9'
    refine bodyPost_ret (v := .agg #[.slice la2 ls.length lc2, .string k, .string v, .int .i64 a, .slice ka2 kn2 kc2, .slice sa2 ss.length sc2]) (by simp [results, Tryz.results16, go_sem, z0, z1, z2, z3, z4, z5]) rfl ?_
    exact ⟨_, _, _, _, _, _, _, rfl, uh L9, uh K9⟩
  ·go_simp
   have hbs := bal y1 (.cells #[] 103)
   have DLS := Hd (show ∀ q, (.slice (some ⟨bl, 0, none⟩) 0 0 : Value).ownBlock = some q → (Value.slice (some ⟨y1.heap.size, 0, none⟩) 0 0).ownBlock ≠ some q from fun q hq e => by have h := (World.ownsRow.lt (uh OL) q hq).2; have e2 : y1.heap.size = q := Option.some.inj e; omega)
   replace OL := Hd (own_kept (T := fun _ => False) (uh OL) (Touch.ofBelow hbs) (fun _ _ e => e))
   have OS := Hd (show (y1.alloc (.cells #[] 103)).ownsRow w0.heap.size 103 5 (.slice (some ⟨y1.heap.size, 0, none⟩) 0 0) 0 [] from World.ownsRow_made y1 #[] 0 (uh HBx).size (by unfold maxLen; omega) rfl)
   replace HBx := hbt HBx hbs
   refine outH hK ?_ (fun hHeld => ?_)
   ·exact uh HKS _ (uh HBx)
   clear hK K
   clear hbs
   generalize y1.alloc (.cells #[] 103) = y7 at *
   generalize y1.heap.size = bs at *
   refine rdy1 3 rfl (fun K hK => ?_)
   have hbsl := ((World.ownsRow.lt (uh OS) bs rfl)).2
   refine step_append_row rfl _ _ _ rfl w0.heap.size 9 i0 _ 1 16 Tryz.underlying27 hi hz0 hz1 hz2 rfl (by omega) _ 0 [] rfl (uh OL) _ ls.length (ls.map Value.string) rfl ((uh HS).below ((uh B0).trans ((uh HBx).mono (uh B0).size))).rw (by simp) (by simp [Value.oneCell']) (by unfold maxLen; omega) (by omega) (uh HBx).size ?_
   intro la2 lc2 y8 hown hgrow hat
   have hgt := grownR hgrow
   replace OS := Hd (own_kept (uh OS) hgt (fun q hq e => (uh DLS) q e hq))
   have DL2 := Hd (show ∀ q, (Value.slice la2 (0 + ls.length) lc2).ownBlock = some q → (.slice (some ⟨bs, 0, none⟩) 0 0 : Value).ownBlock ≠ some q from fun q hq e => by
    rcases hat with h | h
    ·exact (uh DLS) q (h.symm.trans hq) e
    ·have h9 : y7.heap.size = q := Option.some.inj (h.symm.trans hq)
     have h8 : bs = q := Option.some.inj e
     omega)
   clear DLS
   replace HBx := Hd ((uh HBx).grown hgrow (uh HBx).size (fun r hr => (World.ownsRow.lt (uh OL) r hr).1))
   replace OL := Hd hown
   clear hown hgrow hat hgt
   refine outH hK ?_ (fun hHeld => ?_)
   ·exact uh HKS _ (uh HBx)
   clear hK K
   simp only [Nat.zero_add, List.nil_append] at OL DL2 ⊢
   have DLS := DL2
   clear DL2 hbsl
   refine rdy1 6 rfl (fun K hK => ?_)
   go_simp
   refine (uh HOW y8 ((uh B0).trans ((uh HBx).mono (uh B0).size))).mono ?_
   rintro e y9 ⟨ka2, kn2, kc2, rfl, hO, hbs⟩
   dsimp only [Br.key, Br.val, Br.at_, Br.kids] at hO ⊢
   obtain ⟨Sk, hSk⟩ : ∃ Sk : Nat → Prop, Sk = fun x => y8.heap.size ≤ x ∧ x < y9.heap.size := ⟨_, rfl⟩
   rw [← hSk] at hO
   have SKB := Hd (show ∀ x, Sk x → w0.heap.size ≤ x ∧ x < y9.heap.size from fun x hx => by rw [hSk] at hx; exact ⟨Nat.le_trans (uh HBx).size hx.1, hx.2⟩)
   have DKL := Hd (show ∀ q, Sk q → (.slice la2 ls.length lc2 : Value).ownBlock ≠ some q from fun q hq e => by rw [hSk] at hq; have h := (World.ownsRow.lt (uh OL) q e).2; have h2 := hq.1; omega)
   have DKS := Hd (show ∀ q, Sk q → (.slice (some ⟨bs, 0, none⟩) 0 0 : Value).ownBlock ≠ some q from fun q hq e => by rw [hSk] at hq; have h := (World.ownsRow.lt (uh OS) q e).2; have h2 := hq.1; omega)
   replace OL := Hd (own_kept (T := fun _ => False) (uh OL) (Touch.ofBelow hbs) (fun _ _ e => e))
   replace OS := Hd (own_kept (T := fun _ => False) (uh OS) (Touch.ofBelow hbs) (fun _ _ e => e))
   have OK := Hd hO
   replace HBx := hbt HBx hbs
   clear hO hSk hbs
   go_wp2_with fail
   refine outH hK ?_ (fun hHeld => ?_)
   ·exact uh HKS _ (uh HBx)
   clear hK K
   have hbsl := ((World.ownsRow.lt (uh OS) bs rfl)).2
   refine rdy1 10 rfl (fun K hK => ?_)
   refine step_append_row rfl _ _ _ rfl w0.heap.size 103 j0 _ 5 48 Tryz.underlying31 hj hy0 hy1 hy2 rfl (by omega) _ 0 [] rfl (uh OS) _ ss.length (sesC ss) rfl ((uh HSe).below ((uh B0).trans ((uh HBx).mono (uh B0).size))).rw (sesC_len ss) (sesC_one ss) (by unfold maxLen; omega) (by omega) (uh HBx).size ?_
   intro sa2 sc2 yz hown hgrow hat
   have hgt := grownR hgrow
   have hltL := fun q hq => (World.ownsRow.lt (uh OL) q hq).2
   have DL2 := Hd (show ∀ q, (.slice la2 ls.length lc2 : Value).ownBlock = some q → (Value.slice sa2 (0 + ss.length) sc2).ownBlock ≠ some q from fun q hq e => by
    rcases hat with h | h
    ·exact (uh DLS) q hq (h.symm.trans e)
    ·have h9 : y9.heap.size = q := Option.some.inj (h.symm.trans e)
     have h8 := hltL q hq
     omega)
   have DK2 := Hd (show ∀ q, Sk q → (Value.slice sa2 (0 + ss.length) sc2).ownBlock ≠ some q from fun q hq e => by
    rcases hat with h | h
    ·exact (uh DKS) q hq (h.symm.trans e)
    ·have h9 : y9.heap.size = q := Option.some.inj (h.symm.trans e)
     have h8 := ((uh SKB) q hq).2
     omega)
   replace OL := Hd (own_kept (uh OL) hgt (fun q hq e => (uh DLS) q hq e))
   replace OK := Hd ((uh OK).touch hgt (fun q hq e => (uh DKS) q hq e))
   replace SKB := Hd (fun x hx => (⟨((uh SKB) x hx).1, Nat.lt_of_lt_of_le ((uh SKB) x hx).2 hgt.size⟩ : w0.heap.size ≤ x ∧ x < _))
   replace HBx := Hd ((uh HBx).grown hgrow (uh HBx).size (fun r hr => (World.ownsRow.lt (uh OS) r hr).1))
   have OS2 := Hd hown
   clear OS hown hgrow hat hgt hltL DLS DKS hbsl
   refine outH hK ?_ (fun hHeld => ?_)
   ·exact uh HKS _ (uh HBx)
   clear hK K
   simp only [Nat.zero_add, List.nil_append] at OS2 DL2 DK2 ⊢
   refine tkH 11 rfl ?_
   have RX := (uh R0).below (uh HBx)
   obtain ⟨⟨r0, r1, r2, r3, r4, r5⟩, _⟩ := Blk.c6 RX
   have rf0 := RX.fro 0
   have rf1 := RX.fro 1
   have rf2 := RX.fro 2
   have rf3 := RX.fro 3
   have rf4 := RX.fro 4
   have rf5 := RX.fro 5
   have T9 := (((((((Touch.refl (fun x => x = w.heap.size + 1) yz).setCell ⟨w.heap.size + 1, 0, none⟩ (.slice la2 ls.length lc2) (fun _ => rfl)).setCell ⟨w.heap.size + 1, 1, none⟩ (.string k) (fun _ => rfl)).setCell ⟨w.heap.size + 1, 2, none⟩ (.string v) (fun _ => rfl)).setCell ⟨w.heap.size + 1, 3, none⟩ (.int .i64 a) (fun _ => rfl)).setCell ⟨w.heap.size + 1, 4, none⟩ (.slice ka2 kn2 kc2) (fun _ => rfl)).setCell ⟨w.heap.size + 1, 5, none⟩ (.slice sa2 ss.length sc2) (fun _ => rfl))
   have R9 := Hd ((((((RX.set 0 (.slice la2 ls.length lc2) (by simp)).set 1 (.string k) (by simp)).set 2 (.string v) (by simp)).set 3 (.int .i64 a) (by simp)).set 4 (.slice ka2 kn2 kc2) (by simp)).set 5 (.slice sa2 ss.length sc2) (by simp))
   have hsx := (uh HBx).size
   have hkc := fun (i : Nat) (u : Value) (h : w0.cell? ⟨w.heap.size, i, none⟩ = some u) => (T9.cell (p := ⟨w.heap.size, i, none⟩) (show w.heap.size < yz.heap.size by omega) (show ¬ w.heap.size = w.heap.size + 1 by omega)).trans (((uh HBx).cell (p := ⟨w.heap.size, i, none⟩) hlb).trans h)
   refine rdy1 12 rfl (fun K hK => ?_)
   go_simp
   refine outH hK ?_ (fun hHeld => ?_)
   ·exact ⟨hkc _ _ x0, hkc _ _ x1, hkc _ _ x2, hkc _ _ x3, hkc _ _ x4, hkc _ _ x5⟩
   clear hK K
   refine wpAnyH_done (by kernel_rfl) (NoPanic.normal ?_) _
   clear hHeld hkc
   have K9a := (uh B0).trans ((uh HBx).mono (uh B0).size)
   have K9 := Hd (K9a.trans (T9.below K9a.size (fun x hx e => by omega)))
   have L9 := Hd (show LedO w.heap.size _ (.slice la2 ls.length lc2) (.slice ka2 kn2 kc2) (.slice sa2 ss.length sc2) ls ks ss from ⟨OwnS.down' (own_kept (uh OL) T9 (fun q hq e => by have := (World.ownsRow.lt (uh OL) q hq).1; omega)) (by omega), OwnSe.down (own_kept (uh OS2) T9 (fun q hq e => by have := (World.ownsRow.lt (uh OS2) q hq).1; omega)) (by omega), uh DL2, Sk, (uh OK).touch T9 (fun q hq e => by have := ((uh SKB) q hq).1; omega), fun x hx => ⟨by have := ((uh SKB) x hx).1; omega, Nat.lt_of_lt_of_le ((uh SKB) x hx).2 T9.size, (uh DKL) x hx, (uh DK2) x hx⟩⟩)
   clear T9 K9a RX
   generalize ((((((yz.setCell ⟨w.heap.size + 1, 0, none⟩ (.slice la2 ls.length lc2)).setCell ⟨w.heap.size + 1, 1, none⟩ (.string k)).setCell ⟨w.heap.size + 1, 2, none⟩ (.string v)).setCell ⟨w.heap.size + 1, 3, none⟩ (.int .i64 a)).setCell ⟨w.heap.size + 1, 4, none⟩ (.slice ka2 kn2 kc2)).setCell ⟨w.heap.size + 1, 5, none⟩ (.slice sa2 ss.length sc2)) = w9 at *
   go_wp2_with fail
   have R9' := uh R9
   obtain ⟨⟨z0, z1, z2, z3, z4, z5⟩, _⟩ := Blk.c6 R9'
   refine bodyPost_ret (v := .agg #[.slice la2 ls.length lc2, .string k, .string v, .int .i64 a, .slice ka2 kn2 kc2, .slice sa2 ss.length sc2]) (by simp [results, Tryz.results16, go_sem, z0, z1, z2, z3, z4, z5]) rfl ?_
   exact ⟨_, _, _, _, _, _, _, rfl, uh L9, uh K9⟩
 ·go_simp
  have hbs := bal y0 (.cells #[] 103)
  have OS := Hd (show (y0.alloc (.cells #[] 103)).ownsRow w0.heap.size 103 5 (.slice (some ⟨y0.heap.size, 0, none⟩) 0 0) 0 [] from World.ownsRow_made y0 #[] 0 (uh HBx).size (by unfold maxLen; omega) rfl)
  replace HBx := hbt HBx hbs
  refine outH hK ?_ (fun hHeld => ?_)
  ·exact uh HKS _ (uh HBx)
  clear hK K
  clear hbs
  generalize y0.alloc (.cells #[] 103) = y10 at *
  generalize y0.heap.size = bs at *
  refine rdy1 0 rfl (fun K hK => ?_)
  go_simp
  have hbs := bal y10 (.cells #[] 9)
  have DLS := Hd (show ∀ q, (Value.slice (some ⟨y10.heap.size, 0, none⟩) 0 0).ownBlock = some q → (.slice (some ⟨bs, 0, none⟩) 0 0 : Value).ownBlock ≠ some q from fun q hq e => by have h := (World.ownsRow.lt (uh OS) q e).2; have e2 : y10.heap.size = q := Option.some.inj hq; omega)
  replace OS := Hd (own_kept (T := fun _ => False) (uh OS) (Touch.ofBelow hbs) (fun _ _ e => e))
  have OL := Hd (show (y10.alloc (.cells #[] 9)).ownsRow w0.heap.size 9 1 (.slice (some ⟨y10.heap.size, 0, none⟩) 0 0) 0 [] from World.ownsRow_made y10 #[] 0 (uh HBx).size (by unfold maxLen; omega) rfl)
  replace HBx := hbt HBx hbs
  refine outH hK ?_ (fun hHeld => ?_)
  ·exact uh HKS _ (uh HBx)
  clear hK K
  clear hbs
  generalize y10.alloc (.cells #[] 9) = y11 at *
  generalize y10.heap.size = bl at *
  refine rdy1 3 rfl (fun K hK => ?_)
  have hbsl := ((World.ownsRow.lt (uh OS) bs rfl)).2
  refine step_append_row rfl _ _ _ rfl w0.heap.size 9 i0 _ 1 16 Tryz.underlying27 hi hz0 hz1 hz2 rfl (by omega) _ 0 [] rfl (uh OL) _ ls.length (ls.map Value.string) rfl ((uh HS).below ((uh B0).trans ((uh HBx).mono (uh B0).size))).rw (by simp) (by simp [Value.oneCell']) (by unfold maxLen; omega) (by omega) (uh HBx).size ?_
  intro la2 lc2 y12 hown hgrow hat
  have hgt := grownR hgrow
  replace OS := Hd (own_kept (uh OS) hgt (fun q hq e => (uh DLS) q e hq))
  have DL2 := Hd (show ∀ q, (Value.slice la2 (0 + ls.length) lc2).ownBlock = some q → (.slice (some ⟨bs, 0, none⟩) 0 0 : Value).ownBlock ≠ some q from fun q hq e => by
   rcases hat with h | h
   ·exact (uh DLS) q (h.symm.trans hq) e
   ·have h9 : y11.heap.size = q := Option.some.inj (h.symm.trans hq)
    have h8 : bs = q := Option.some.inj e
    omega)
  clear DLS
  replace HBx := Hd ((uh HBx).grown hgrow (uh HBx).size (fun r hr => (World.ownsRow.lt (uh OL) r hr).1))
  replace OL := Hd hown
  clear hown hgrow hat hgt
  refine outH hK ?_ (fun hHeld => ?_)
  ·exact uh HKS _ (uh HBx)
  clear hK K
  simp only [Nat.zero_add, List.nil_append] at OL DL2 ⊢
  have DLS := DL2
  clear DL2 hbsl
  refine rdy1 6 rfl (fun K hK => ?_)
  go_simp
  refine (uh HOW y12 ((uh B0).trans ((uh HBx).mono (uh B0).size))).mono ?_
  rintro e y13 ⟨ka2, kn2, kc2, rfl, hO, hbs⟩
  dsimp only [Br.key, Br.val, Br.at_, Br.kids] at hO ⊢
  obtain ⟨Sk, hSk⟩ : ∃ Sk : Nat → Prop, Sk = fun x => y12.heap.size ≤ x ∧ x < y13.heap.size := ⟨_, rfl⟩
  rw [← hSk] at hO
  have SKB := Hd (show ∀ x, Sk x → w0.heap.size ≤ x ∧ x < y13.heap.size from fun x hx => by rw [hSk] at hx; exact ⟨Nat.le_trans (uh HBx).size hx.1, hx.2⟩)
  have DKL := Hd (show ∀ q, Sk q → (.slice la2 ls.length lc2 : Value).ownBlock ≠ some q from fun q hq e => by rw [hSk] at hq; have h := (World.ownsRow.lt (uh OL) q e).2; have h2 := hq.1; omega)
  have DKS := Hd (show ∀ q, Sk q → (.slice (some ⟨bs, 0, none⟩) 0 0 : Value).ownBlock ≠ some q from fun q hq e => by rw [hSk] at hq; have h := (World.ownsRow.lt (uh OS) q e).2; have h2 := hq.1; omega)
  replace OL := Hd (own_kept (T := fun _ => False) (uh OL) (Touch.ofBelow hbs) (fun _ _ e => e))
  replace OS := Hd (own_kept (T := fun _ => False) (uh OS) (Touch.ofBelow hbs) (fun _ _ e => e))
  have OK := Hd hO
  replace HBx := hbt HBx hbs
  clear hO hSk hbs
  go_wp2_with fail
  refine outH hK ?_ (fun hHeld => ?_)
  ·exact uh HKS _ (uh HBx)
  clear hK K
  have hbsl := ((World.ownsRow.lt (uh OS) bs rfl)).2
  refine rdy1 10 rfl (fun K hK => ?_)
  refine step_append_row rfl _ _ _ rfl w0.heap.size 103 j0 _ 5 48 Tryz.underlying31 hj hy0 hy1 hy2 rfl (by omega) _ 0 [] rfl (uh OS) _ ss.length (sesC ss) rfl ((uh HSe).below ((uh B0).trans ((uh HBx).mono (uh B0).size))).rw (sesC_len ss) (sesC_one ss) (by unfold maxLen; omega) (by omega) (uh HBx).size ?_
  intro sa2 sc2 yz hown hgrow hat
  have hgt := grownR hgrow
  have hltL := fun q hq => (World.ownsRow.lt (uh OL) q hq).2
  have DL2 := Hd (show ∀ q, (.slice la2 ls.length lc2 : Value).ownBlock = some q → (Value.slice sa2 (0 + ss.length) sc2).ownBlock ≠ some q from fun q hq e => by
   rcases hat with h | h
   ·exact (uh DLS) q hq (h.symm.trans e)
   ·have h9 : y13.heap.size = q := Option.some.inj (h.symm.trans e)
    have h8 := hltL q hq
    omega)
  have DK2 := Hd (show ∀ q, Sk q → (Value.slice sa2 (0 + ss.length) sc2).ownBlock ≠ some q from fun q hq e => by
   rcases hat with h | h
   ·exact (uh DKS) q hq (h.symm.trans e)
   ·have h9 : y13.heap.size = q := Option.some.inj (h.symm.trans e)
    have h8 := ((uh SKB) q hq).2
    omega)
  replace OL := Hd (own_kept (uh OL) hgt (fun q hq e => (uh DLS) q hq e))
  replace OK := Hd ((uh OK).touch hgt (fun q hq e => (uh DKS) q hq e))
  replace SKB := Hd (fun x hx => (⟨((uh SKB) x hx).1, Nat.lt_of_lt_of_le ((uh SKB) x hx).2 hgt.size⟩ : w0.heap.size ≤ x ∧ x < _))
  replace HBx := Hd ((uh HBx).grown hgrow (uh HBx).size (fun r hr => (World.ownsRow.lt (uh OS) r hr).1))
  have OS2 := Hd hown
  clear OS hown hgrow hat hgt hltL DLS DKS hbsl
  refine outH hK ?_ (fun hHeld => ?_)
  ·exact uh HKS _ (uh HBx)
  clear hK K
  simp only [Nat.zero_add, List.nil_append] at OS2 DL2 DK2 ⊢
  refine tkH 11 rfl ?_
  have RX := (uh R0).below (uh HBx)
  obtain ⟨⟨r0, r1, r2, r3, r4, r5⟩, _⟩ := Blk.c6 RX
  have rf0 := RX.fro 0
  have rf1 := RX.fro 1
  have rf2 := RX.fro 2
  have rf3 := RX.fro 3
  have rf4 := RX.fro 4
  have rf5 := RX.fro 5
  have T9 := (((((((Touch.refl (fun x => x = w.heap.size + 1) yz).setCell ⟨w.heap.size + 1, 0, none⟩ (.slice la2 ls.length lc2) (fun _ => rfl)).setCell ⟨w.heap.size + 1, 1, none⟩ (.string k) (fun _ => rfl)).setCell ⟨w.heap.size + 1, 2, none⟩ (.string v) (fun _ => rfl)).setCell ⟨w.heap.size + 1, 3, none⟩ (.int .i64 a) (fun _ => rfl)).setCell ⟨w.heap.size + 1, 4, none⟩ (.slice ka2 kn2 kc2) (fun _ => rfl)).setCell ⟨w.heap.size + 1, 5, none⟩ (.slice sa2 ss.length sc2) (fun _ => rfl))
  have R9 := Hd ((((((RX.set 0 (.slice la2 ls.length lc2) (by simp)).set 1 (.string k) (by simp)).set 2 (.string v) (by simp)).set 3 (.int .i64 a) (by simp)).set 4 (.slice ka2 kn2 kc2) (by simp)).set 5 (.slice sa2 ss.length sc2) (by simp))
  have hsx := (uh HBx).size
  have hkc := fun (i : Nat) (u : Value) (h : w0.cell? ⟨w.heap.size, i, none⟩ = some u) => (T9.cell (p := ⟨w.heap.size, i, none⟩) (show w.heap.size < yz.heap.size by omega) (show ¬ w.heap.size = w.heap.size + 1 by omega)).trans (((uh HBx).cell (p := ⟨w.heap.size, i, none⟩) hlb).trans h)
  refine rdy1 12 rfl (fun K hK => ?_)
  go_simp
  refine outH hK ?_ (fun hHeld => ?_)
  ·exact ⟨hkc _ _ x0, hkc _ _ x1, hkc _ _ x2, hkc _ _ x3, hkc _ _ x4, hkc _ _ x5⟩
  clear hK K
  refine wpAnyH_done (by kernel_rfl) (NoPanic.normal ?_) _
  clear hHeld hkc
  have K9a := (uh B0).trans ((uh HBx).mono (uh B0).size)
  have K9 := Hd (K9a.trans (T9.below K9a.size (fun x hx e => by omega)))
  have L9 := Hd (show LedO w.heap.size _ (.slice la2 ls.length lc2) (.slice ka2 kn2 kc2) (.slice sa2 ss.length sc2) ls ks ss from ⟨OwnS.down' (own_kept (uh OL) T9 (fun q hq e => by have := (World.ownsRow.lt (uh OL) q hq).1; omega)) (by omega), OwnSe.down (own_kept (uh OS2) T9 (fun q hq e => by have := (World.ownsRow.lt (uh OS2) q hq).1; omega)) (by omega), uh DL2, Sk, (uh OK).touch T9 (fun q hq e => by have := ((uh SKB) q hq).1; omega), fun x hx => ⟨by have := ((uh SKB) x hx).1; omega, Nat.lt_of_lt_of_le ((uh SKB) x hx).2 T9.size, (uh DKL) x hx, (uh DK2) x hx⟩⟩)
  clear T9 K9a RX
  generalize ((((((yz.setCell ⟨w.heap.size + 1, 0, none⟩ (.slice la2 ls.length lc2)).setCell ⟨w.heap.size + 1, 1, none⟩ (.string k)).setCell ⟨w.heap.size + 1, 2, none⟩ (.string v)).setCell ⟨w.heap.size + 1, 3, none⟩ (.int .i64 a)).setCell ⟨w.heap.size + 1, 4, none⟩ (.slice ka2 kn2 kc2)).setCell ⟨w.heap.size + 1, 5, none⟩ (.slice sa2 ss.length sc2)) = w9 at *
  go_wp2_with fail
  have R9' := uh R9
  obtain ⟨⟨z0, z1, z2, z3, z4, z5⟩, _⟩ := Blk.c6 R9'
  refine bodyPost_ret (v := .agg #[.slice la2 ls.length lc2, .string k, .string v, .int .i64 a, .slice ka2 kn2 kc2, .slice sa2 ss.length sc2]) (by simp [results, Tryz.results16, go_sem, z0, z1, z2, z3, z4, z5]) rfl ?_
  exact ⟨_, _, _, _, _, _, _, rfl, uh L9, uh K9⟩
end Go.Proofs.YtbchnheinnileaaGreatDoor.Sha
namespace Go.Proofs.YtbchnheinnileaaGreatDoor
set_option maxRecDepth 100000
set_option maxHeartbeats 8000000
open Go.ChangeShapes Go.WideShapes Go.ChangeAt Go.RowKit Go.Deep
set_option linter.unusedVariables false
def idsB (l : List Int) : Bool := decide (InAll l ∧ Rising l)
theorem idsB_fault (l : List Int) : decide (mFault l = 0) = (idsB l && !decide (l.length = 0)) := by
 unfold mFault idsB
 by_cases h1 : InAll l
 ·rw [if_pos h1]
  by_cases h0 : l.length = 0
  ·rw [if_pos h0]; simp [h0]
  ·rw [if_neg h0]
   by_cases h2 : Rising l
   ·rw [if_pos h2, decide_eq_true (⟨h1, h2⟩ : InAll l ∧ Rising l), decide_eq_false h0]; rfl
   ·rw [if_neg h2, decide_eq_false (fun h : InAll l ∧ Rising l => h2 h.2)]; rfl
 ·rw [if_neg h1, decide_eq_false (fun h : InAll l ∧ Rising l => h1 h.1)]; rfl
theorem risB_ids (l : List Int) : risB l = idsB l := by
 by_cases h0 : l.length = 0
 ·have : idsB l = true := decide_eq_true ⟨fun i hi => by omega, fun i hi => by omega⟩
  rw [this]; unfold risB; simp [h0]
 ·have h := idsB_fault l
  rw [decide_eq_false h0] at h
  unfold risB
  simp only [h0, false_or]
  rw [h]; simp
theorem l10Ids_any (v : Value) (l : List Int) (w : World) (h : Ints w v l) (hs : l.length ≤ 1048576) :
  Calls Tryz.prog 39 #[v] w fun e w' => e = .returned (.bool (idsB l)) ∧ ∃ n, w' = w.drewN n := by
 obtain ⟨a, cap, rfl, hm, hc⟩ := h
 have HC := Hd hc
 clear hc hm
 go_enter Tryz.func39, Tryz.ntmps39
 go_wp2_with fail
 go_loopw [3] (fun i wr => ∃ k n : Nat, k ≤ l.length ∧ i = .int .i64 k ∧ Hid (∀ i, i < k → inB (l.getD i 0) 0 6 = true ∧ (i = 0 ∨ l.getD (i - 1) 0 < l.getD i 0)) ∧ wr = w.drewN n) (fun i _ => l.length - (intOf i).toNat)
 case atStart => exact ⟨0, 0, Nat.zero_le _, rfl, fun i hi => absurd hi (Nat.not_lt_zero _), rfl⟩
 case round =>
  obtain ⟨k, n, hk, rfl, hA, hwr⟩ := hrel
  by_cases hlt : k < l.length
  ·obtain ⟨b, off, rfl, hbl, hsrc⟩ : ∃ b off, a = some ⟨b, off, none⟩ ∧ b < w.heap.size ∧ ∀ i, i < l.length → w.cell? ⟨b, off + i, none⟩ = some (.int .i64 (l.getD i 0)) := by
    rcases uh HC with h0 | h1
    ·omega
    ·exact h1
   have hsr : ∀ i, i < l.length → wr.cell? ⟨b, off + i, none⟩ = some (.int .i64 (l.getD i 0)) := fun i hi => by subst hwr; simpa using hsrc i hi
   have HWR := Hd hwr
   have s1 := hsr k hlt
   have hk0 : (0 : Int) ≤ (k : Int) := by omega
   have hk1 : (k : Int) < (l.length : Int) := by omega
   have HBad := Hd (fun (hx : ¬ (inB (l.getD k 0) 0 6 = true ∧ (k = 0 ∨ l.getD (k - 1) 0 < l.getD k 0))) => (show idsB l = false from decide_eq_false (fun hh => hx ⟨hh.1 k hlt, hh.2 k hlt⟩)))
   have HNx := Hd (fun (hx : inB (l.getD k 0) 0 6 = true ∧ (k = 0 ∨ l.getD (k - 1) 0 < l.getD k 0)) => show ∀ i, i < k + 1 → inB (l.getD i 0) 0 6 = true ∧ (i = 0 ∨ l.getD (i - 1) 0 < l.getD i 0) from fun i hi => by
     by_cases e : i = k
     ·subst e; exact hx
     ·exact uh hA i (by omega))
   clear hwr hsrc hA
   rcases Bool.eq_false_or_eq_true (inB (l.getD k 0) 0 6) with hin | hin
   case inr =>
    have E := Hd (uh HBad (fun hx => by rw [hx.1] at hin; cases hin))
    have hgz : ∀ z : Nat, z + 1 = k → (0 : Int) < (k : Int) := fun z hz => by omega
    clear HBad HNx hsr
    generalize l.getD k 0 = x at *
    go_wp2_with fail
    go_quiet ((go_at_call 37; exact Calls.quiet_of_same (l01In_any _ _ _ _)))
    go_wp2_with fail
    go_ret
    exact ⟨ret_bool (uh E).symm, n + nq, by rw [uh HWR]; exact drewN_two _ _ _⟩
   by_cases hk00 : k = 0
   ·subst hk00
    rw [Nat.add_zero] at s1
    have E := Hd (uh HNx ⟨hin, .inl rfl⟩)
    clear HBad HNx hsr
    generalize l.getD 0 0 = x at *
    go_wp2_with fail
    go_quiet ((go_at_call 37; exact Calls.quiet_of_same (l01In_any _ _ _ _)))
    go_wp2_with fail
    refine ⟨⟨0 + 1, n + nq, by omega, by go_num, uh E, by rw [uh HWR]; exact drewN_two _ _ _⟩, ?_⟩
    simp [intOf]; omega
   obtain ⟨q, rfl⟩ : ∃ q, k = q + 1 := ⟨k - 1, by omega⟩
   have s2 : wr.cell? ⟨b, off + q, none⟩ = _ := hsr q (by omega)
   have hk2 : (0 : Int) ≤ (q : Int) := by omega
   have hk3 : (q : Int) < (l.length : Int) := by omega
   have hk4 : (0 : Int) < ((q + 1 : Nat) : Int) := by omega
   have m1 : IntKind.i64.wrap (((q + 1 : Nat) : Int) - 1) = (q : Int) := by simp only [IntKind.wrap, IntKind.bits, IntKind.signed]; simp; omega
   have m2 : IntKind.i64.wrap (q : Int) = (q : Int) := by simp only [IntKind.wrap, IntKind.bits, IntKind.signed]; simp; omega
   rw [Nat.add_sub_cancel] at HBad HNx
   clear hsr hk00
   by_cases hle : l.getD (q + 1) 0 ≤ l.getD q 0
   ·have E := Hd (uh HBad (fun hx => by rcases hx.2 with h | h <;> omega))
    clear HBad HNx
    generalize l.getD (q + 1) 0 = x at *
    generalize l.getD q 0 = y at *
    go_wp2_with fail
    go_quiet ((go_at_call 37; exact Calls.quiet_of_same (l01In_any _ _ _ _)))
    go_wp2_with fail
    go_ret
    exact ⟨ret_bool (uh E).symm, n + nq, by rw [uh HWR]; exact drewN_two _ _ _⟩
   ·have E := Hd (uh HNx ⟨hin, .inr (by omega)⟩)
    have hd : decide (l.getD (q + 1) 0 ≤ l.getD q 0) = false := by simpa using hle
    clear HBad HNx
    generalize l.getD (q + 1) 0 = x at *
    generalize l.getD q 0 = y at *
    go_wp2_with fail
    go_quiet ((go_at_call 37; exact Calls.quiet_of_same (l01In_any _ _ _ _)))
    go_wp2_with fail
    refine ⟨⟨q + 1 + 1, n + nq, by omega, by go_num, uh E, by rw [uh HWR]; exact drewN_two _ _ _⟩, ?_⟩
    simp [intOf]; omega
  ·obtain rfl : k = l.length := by omega
   have E := Hd (show idsB l = true from decide_eq_true ⟨fun i hi => (uh hA i hi).1, fun i hi => (uh hA i hi).2⟩)
   clear hA
   go_wp2_with fail
   go_ret
   exact ⟨ret_bool (uh E).symm, n, rfl⟩
end Go.Proofs.YtbchnheinnileaaGreatDoor
namespace Go.Proofs.YtbchnheinnileaaGreatDoor
set_option maxRecDepth 100000
set_option maxHeartbeats 8000000
open Go.ChangeShapes Go.WideShapes Go.ChangeAt Go.RowKit
set_option linter.unusedVariables false
theorem wrapSt (n : Int) (h0 : 0 ≤ n) (h1 : n < 9223372036854775808) : IntKind.i64.wrap n = n := by
 simp only [IntKind.wrap, IntKind.bits, IntKind.signed]
 simp
 omega
theorem specStateOK_any (tm vo : Int) (v : Value) (l : List En) (w : World) (h : Ens w v l) (hs : ∀ i, (l.getD i default).d.size ≤ 1048576) :
  Calls Tryz.prog 38 #[.agg #[.int .i64 tm, .int .i64 vo, v]] w fun e w' => e = .returned (.bool (stateB tm vo l)) ∧ Below w.heap.size w w' := by
 obtain ⟨a, cap, rfl, hn, hm, hc⟩ := h
 have HC := Hd hc
 have HS := Hd hs
 clear hc hs
 have B0 := Hd (bal w (.cells #[.int .i64 tm, .int .i64 vo, .slice a l.length cap] 72))
 have X0 := Hd (Blk.new w #[.int .i64 tm, .int .i64 vo, .slice a l.length cap] 72 w.heap.size rfl)
 rcases Bool.eq_false_or_eq_true (inB tm 0 1000000) with h1 | h1
 case inr =>
  have HD : Hid (stateB tm vo l = false) := Hd (by unfold stateB; rw [h1]; simp)
  go_enter Tryz.func38, Tryz.ntmps38
  go_wp2_with (go_at_call 37; refine (l01In_any _ _ _ _).mono ?_; rintro e w' ⟨rfl, hw'⟩; have hw2 := hw'.symm; clear hw'; subst hw2)
  go_ret
  exact ⟨ret_bool (uh HD).symm, uh B0⟩
 rcases Bool.eq_false_or_eq_true (inB vo (-1) 6) with h2 | h2
 case inr =>
  have HD : Hid (stateB tm vo l = false) := Hd (by unfold stateB; rw [h2]; simp)
  go_enter Tryz.func38, Tryz.ntmps38
  go_wp2_with (go_at_call 37; refine (l01In_any _ _ _ _).mono ?_; rintro e w' ⟨rfl, hw'⟩; have hw2 := hw'.symm; clear hw'; subst hw2)
  go_ret
  exact ⟨ret_bool (uh HD).symm, uh B0⟩
 by_cases h3 : l.length ≤ 60
 case neg =>
  have HD : Hid (stateB tm vo l = false) := Hd (by unfold stateB; rw [decide_eq_false h3]; simp)
  have h3b : (60 : Int) < (l.length : Int) := by omega
  go_enter Tryz.func38, Tryz.ntmps38
  go_wp2_with (go_at_call 37; refine (l01In_any _ _ _ _).mono ?_; rintro e w' ⟨rfl, hw'⟩; have hw2 := hw'.symm; clear hw'; subst hw2)
  go_ret
  exact ⟨ret_bool (uh HD).symm, uh B0⟩
 have h3b : ¬ (60 : Int) < (l.length : Int) := by omega
 go_enter Tryz.func38, Tryz.ntmps38
 go_wp2_with (go_at_call 37; refine (l01In_any _ _ _ _).mono ?_; rintro e w' ⟨rfl, hw'⟩; have hw2 := hw'.symm; clear hw'; subst hw2)
 generalize w.alloc (.cells #[.int .i64 tm, .int .i64 vo, .slice a l.length cap] 72) = w0 at *
 have c0 := (uh X0).cell 0 rfl
 have c2 := (uh X0).cell 2 rfl
 go_loopw [3] (fun i wr => ∃ k : Nat, k ≤ l.length ∧ i = .int .i64 k ∧ entTo tm l k ∧ Below (w.heap.size + 1) w0 wr) (fun i _ => l.length - (intOf i).toNat)
 case atStart => exact ⟨0, Nat.zero_le _, rfl, fun i hi => by omega, Below.refl _ _⟩
 case round =>
  obtain ⟨k, hk, rfl, hgo, hb⟩ := hrel
  have hbw : Below w.heap.size w wr := (uh B0).trans (hb.mono (by omega))
  have d0 := (hb.cell (p := ⟨w.heap.size, 0, none⟩) (by simp)).trans c0
  have d2 := (hb.cell (p := ⟨w.heap.size, 2, none⟩) (by simp)).trans c2
  have hz0 := Nat.lt_of_lt_of_le (uh X0).1 hb.size
  by_cases hlt : k < l.length
  ·obtain ⟨b, off, rfl, hbl, hsrc⟩ : ∃ b off, a = some ⟨b, off, none⟩ ∧ b < w.heap.size ∧ ∀ i, i < l.length → w.cell? ⟨b, off + i * 3, none⟩ = some (.int .i64 (l.getD i default).t) ∧ w.cell? ⟨b, off + i * 3 + 1, none⟩ = some (.int .i64 (l.getD i default).k) ∧ w.cell? ⟨b, off + i * 3 + 2, none⟩ = some (.string (l.getD i default).d) := by
    rcases uh HC with h0 | h1
    ·omega
    ·exact h1
   have hbl2 := Nat.lt_of_lt_of_le hbl hbw.size
   have hsrc2 : ∀ i, i < l.length → wr.cell? ⟨b, off + i * 3, none⟩ = some (.int .i64 (l.getD i default).t) ∧ wr.cell? ⟨b, off + i * 3 + 1, none⟩ = some (.int .i64 (l.getD i default).k) ∧ wr.cell? ⟨b, off + i * 3 + 2, none⟩ = some (.string (l.getD i default).d) := fun i hi => ⟨(hbw.cell (p := ⟨b, off + i * 3, none⟩) hbl).trans (hsrc i hi).1, (hbw.cell (p := ⟨b, off + i * 3 + 1, none⟩) hbl).trans (hsrc i hi).2.1, (hbw.cell (p := ⟨b, off + i * 3 + 2, none⟩) hbl).trans (hsrc i hi).2.2⟩
   obtain ⟨s0, s1, s2⟩ := hsrc2 k hlt
   have hk0 : (0 : Int) ≤ (k : Int) := by omega
   have hk1 : (k : Int) < (l.length : Int) := by omega
   have hfz := uh HS k
   have HB := Hd hb
   have HGo := Hd hgo
   have HEB : Hid (entB tm l k = (entOK (l.getD k default).t (l.getD k default).k (l.getD k default).d && inB (l.getD k default).t (leastT l k) tm)) := Hd rfl
   have HLS : Hid (∀ q, q + 1 = k → leastT l k = (l.getD q default).t) := Hd (fun q hq => by subst hq; rfl)
   have HL0 : Hid (k = 0 → leastT l k = 0) := Hd (fun hq => by subst hq; rfl)
   clear hsrc hb hbw hgo
   generalize leastT l k = ls at *
   have HSR := Hd hsrc2
   clear hsrc2
   generalize hff : l.getD k default = f at *
   have HFF := Hd hff
   clear hff
   obtain ⟨ft, fk, fd⟩ := f
   dsimp only at s0 s1 s2 hfz HEB HLS
   have hnm : fd.size ≤ maxLen := by unfold maxLen; omega
   have HEn := Hd (fun wx => specEntry_any ft fk fd wx hnm hfz)
   have r0 := Wb.cell d0 hz0
   have r2 := Wb.cell d2 hz0
   have t0 := Wb.cell s0 hbl2
   have t1 := Wb.cell s1 hbl2
   have t2 := Wb.cell s2 hbl2
   go_wp2_with fail
   clear d0 d2 s0 s1 s2
   rcases Bool.eq_false_or_eq_true (entOK ft fk fd) with ho | ho
   case inr =>
    have HD := Hd (state_bad (tm := tm) (vo := vo) hlt (by rw [uh HEB, ho]; simp))
    rw [ho] at HEn
    refine wp_region_wb (by kernel_rfl) (by kernel_rfl) ?_
    repeat (go_big_quiet_step ((go_at_call 59; exact wb_of (uh HEn _))))
    refine wpQuiet_nil ?_
    intro _ hw'
    obtain ⟨⟨w1, hb1⟩, rfl⟩ := hw'
    have HBW := Hd ((uh B0).trans (((uh HB).mono (by omega)).trans (hb1.mono (by omega))))
    clear hb1 r0 r2 t0 t1 t2
    go_wp2_with fail
    go_ret
    exact ⟨ret_bool (uh HD).symm, uh HBW⟩
   rw [ho] at HEn
   have hft := (entOK_bounds ho).1
   by_cases htm : tm < ft
   ·have HD := Hd (state_bad (tm := tm) (vo := vo) hlt (by rw [uh HEB]; simp [inB]; omega))
    refine wp_region_wb (by kernel_rfl) (by kernel_rfl) ?_
    repeat (go_big_quiet_step ((go_at_call 59; exact wb_of (uh HEn _))))
    refine wpQuiet_nil ?_
    intro _ hw'
    obtain ⟨⟨w1, hb1⟩, rfl⟩ := hw'
    have HBW := Hd ((uh B0).trans (((uh HB).mono (by omega)).trans (hb1.mono (by omega))))
    clear hb1 r0 r2 t0 t1 t2
    go_wp2_with fail
    go_ret
    exact ⟨ret_bool (uh HD).symm, uh HBW⟩
   have htmd : decide (tm < ft) = false := by rw [decide_eq_false_iff_not]; exact htm
   rcases Nat.eq_zero_or_pos k with hk00 | hkp
   ·have HN := Hd ((uh HGo).next (by rw [uh HEB, ho, uh HL0 hk00]; simp [inB]; omega))
    have p0d : decide (0 < k) = false := by rw [decide_eq_false_iff_not]; omega
    have HK0 := Hd hk00
    clear hk00
    refine wp_region_wb (by kernel_rfl) (by kernel_rfl) ?_
    repeat (go_big_quiet_step ((go_at_call 59; exact wb_of (uh HEn _))))
    refine wpQuiet_nil ?_
    intro _ hw'
    obtain ⟨⟨w1, hb1⟩, rfl⟩ := hw'
    have HB1 := Hd ((uh HB).trans (hb1.mono (by omega)))
    clear hb1 r0 r2 t0 t1 t2
    go_wp2_with fail
    refine ⟨⟨k + 1, by omega, by go_num, uh HN, uh HB1⟩, ?_⟩
    simp [intOf]; omega
   ·obtain ⟨q, hq⟩ : ∃ q : Nat, (k : Int) - 1 = (q : Int) := ⟨k - 1, by omega⟩
    obtain ⟨x0, _, _⟩ := uh HSR q (by omega)
    have HLQ := Hd (uh HLS q (by omega))
    generalize (l.getD q default).t = pt at *
    have t3 := Wb.cell x0 hbl2
    have p1d : decide (0 < k) = true := by simpa using hkp
    have p2 : IntKind.i64.wrap (q : Int) = (q : Int) := wrapSt _ (by omega) (by omega)
    have p3 : (0 : Int) ≤ (q : Int) := by omega
    have p4 : (q : Int) < (l.length : Int) := by omega
    clear x0
    by_cases hpt : ft < pt
    ·have HD := Hd (state_bad (tm := tm) (vo := vo) hlt (by rw [uh HEB, uh HLQ]; simp [inB]; omega))
     refine wp_region_wb (by kernel_rfl) (by kernel_rfl) ?_
     repeat (go_big_quiet_step ((go_at_call 59; exact wb_of (uh HEn _))))
     refine wpQuiet_nil ?_
     intro _ hw'
     obtain ⟨⟨w1, hb1⟩, rfl⟩ := hw'
     have HBW := Hd ((uh B0).trans (((uh HB).mono (by omega)).trans (hb1.mono (by omega))))
     clear hb1 r0 r2 t0 t1 t2 t3
     go_wp2_with fail
     go_ret
     exact ⟨ret_bool (uh HD).symm, uh HBW⟩
    ·have hptd : decide (ft < pt) = false := by rw [decide_eq_false_iff_not]; exact hpt
     have HN := Hd ((uh HGo).next (by rw [uh HEB, ho, uh HLQ]; simp [inB]; omega))
     refine wp_region_wb (by kernel_rfl) (by kernel_rfl) ?_
     repeat (go_big_quiet_step ((go_at_call 59; exact wb_of (uh HEn _))))
     refine wpQuiet_nil ?_
     intro _ hw'
     obtain ⟨⟨w1, hb1⟩, rfl⟩ := hw'
     have HB1 := Hd ((uh HB).trans (hb1.mono (by omega)))
     clear hb1 r0 r2 t0 t1 t2 t3
     go_wp2_with fail
     refine ⟨⟨k + 1, by omega, by go_num, uh HN, uh HB1⟩, ?_⟩
     simp [intOf]; omega
  ·obtain rfl : k = l.length := by omega
   have HD := Hd (state_all (vo := vo) h1 h2 h3 hgo)
   have HBW := Hd hbw
   clear hb hbw hgo
   go_wp2_with fail
   go_ret
   exact ⟨ret_bool (uh HD).symm, uh HBW⟩
end Go.Proofs.YtbchnheinnileaaGreatDoor
